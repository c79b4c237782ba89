/- pairsIn: the program's. -/
import Derived.Test.YthmelofbdbplnaaDoorPairE
namespace Go.Proofs.YthmelofbdbplnaaDoor
open Go.RowKit Go.Sort
set_option linter.unusedVariables false

def spA (S : List Sp) (i : Nat) : Sp := S.getD i ((0, 0), (0, 0, 0), (0, 0, 0))
/-- the span s lies at b, from o on -/
def SpOff (w : World) (b o : Nat) (s : Sp) : Prop := w.cell? ⟨b, o, none⟩ = some (.int .i64 s.1.1) ∧ w.cell? ⟨b, o + 1, none⟩ = some (.int .i64 s.1.2) ∧ w.cell? ⟨b, o + 2, none⟩ = some (.int .i64 s.2.1.1) ∧ w.cell? ⟨b, o + 3, none⟩ = some (.int .i64 s.2.1.2.1) ∧ w.cell? ⟨b, o + 4, none⟩ = some (.int .i64 s.2.1.2.2) ∧ w.cell? ⟨b, o + 5, none⟩ = some (.int .i64 s.2.2.1) ∧ w.cell? ⟨b, o + 6, none⟩ = some (.int .i64 s.2.2.2.1) ∧ w.cell? ⟨b, o + 7, none⟩ = some (.int .i64 s.2.2.2.2)
theorem SpOff.kept {w w' : World} {b o : Nat} {s : Sp} (h : SpOff w b o s) (hB : Below w.heap.size w w') : SpOff w' b o s := by
  have hb : b < w.heap.size := World.block_lt_of_cell? w _ h.1
  obtain ⟨h0, h1, h2, h3, h4, h5, h6, h7⟩ := h
  exact ⟨by rw [hB.cell (p := ⟨b, o, none⟩) hb]; exact h0, by rw [hB.cell (p := ⟨b, o + 1, none⟩) hb]; exact h1, by rw [hB.cell (p := ⟨b, o + 2, none⟩) hb]; exact h2, by rw [hB.cell (p := ⟨b, o + 3, none⟩) hb]; exact h3, by rw [hB.cell (p := ⟨b, o + 4, none⟩) hb]; exact h4, by rw [hB.cell (p := ⟨b, o + 5, none⟩) hb]; exact h5, by rw [hB.cell (p := ⟨b, o + 6, none⟩) hb]; exact h6, by rw [hB.cell (p := ⟨b, o + 7, none⟩) hb]; exact h7⟩
theorem fst_snoc (S : List Sp) (k : Nat) (h : k < S.length) : (S.take (k + 1)).map Prod.fst = (S.take k).map Prod.fst ++ [(spA S k).1] := by
  rw [List.take_succ_eq_append_getElem h, List.map_append]
  congr 2
  unfold spA
  rw [List.getD, List.getElem?_eq_getElem h]
  rfl
theorem ownKeptP {w w' : World} {B : Nat} {t : TypeId} {v : Value} {n m : Nat} {xs : List Value} (h : w.ownsRow B t m v n xs) (hB : Below w.heap.size w w') : w'.ownsRow B t m v n xs :=
  h.kept (row := none) ⟨hB.os, hB.tape, hB.output, hB.size, fun k hk _ => hB.block k hk⟩ (by cases hv : v.ownBlock <;> simp)
theorem grownOwnP {B : Nat} {w w1 w2 : World} {v : Value} {t : TypeId} {n m : Nat} {xs : List Value} (h : Below B w w1) (ho : w1.ownsRow B t m v n xs) (hg : w1.grownBy w2 v.ownBlock) (hB : B ≤ w1.heap.size) : Below B w w2 :=
  h.trans ⟨hg.os, hg.tape, hg.output, hg.size, fun k hk => hg.block k (by omega) (fun e => by have := (ho.lt k e.symm).1; omega)⟩

set_option maxHeartbeats 2000000 in
set_option maxRecDepth 100000 in
theorem pairsIn_any (S : List Sp) (b o c : Nat) (w : World) (hn : S.length ≤ 200) (hS : ∀ i, i < S.length → SpOff w b (o + i * 8) (spA S i)) :
    Calls Tryd.prog 21 #[.slice (some ⟨b, o, none⟩) S.length c] w fun e w' => (∃ v, e = .returned v ∧ w'.ownsRow w.heap.size 50 2 v S.length (flatP (S.map Prod.fst))) ∧ Below w.heap.size w w' := by
  obtain ⟨i0, hi, hz0, hz1, hz2⟩ := info_parts info_pair
  have HS := hide hS
  clear hS
  have hm8 : 400 ≤ maxLen := by decide +kernel
  go_enter Tryd.func21, Tryd.ntmps21
  go_wp2_with fail
  go_loopw [3, 8] (fun v i wr => ∃ k : Nat, k ≤ S.length ∧ i = .int .i64 k ∧ Hid (wr.ownsRow w.heap.size 50 2 v k (flatP ((S.take k).map Prod.fst))) ∧ Hid (Below w.heap.size w wr)) (fun _ i _ => S.length - (intOf i).toNat)
  case atStart => exact ⟨0, by omega, rfl, hide (World.ownsRow_nil _ _ _ _), hide (Below.refl _ _)⟩
  case round =>
    obtain ⟨k, hk, rfl, HW, HB⟩ := hrel
    by_cases hkn : k < S.length
    · have hkn2 : (k : Int) < (S.length : Int) := by omega
      have hsp := (unhide HS k hkn).kept (unhide HB)
      have HF := hide (fst_snoc S k hkn)
      generalize spA S k = sp at hsp HF
      obtain ⟨⟨x, y⟩, ⟨a1, a2, a3⟩, b1, b2, b3⟩ := sp
      obtain ⟨e0, e1, e2, e3, e4, e5, e6, e7⟩ := hsp
      have hsz := (unhide HB).size
      have Z1 := below1 wr (.cells #[.int .i64 x, .int .i64 y, .int .i64 a1, .int .i64 a2, .int .i64 a3, .int .i64 b1, .int .i64 b2, .int .i64 b3] 56)
      have hown := ownKeptP (unhide HW) Z1
      have B1 := hide (below_call (unhide HB) Z1)
      clear Z1
      go_wp2_with (at_builtin; refine wpList_append_own _ rfl _ _ 24 rfl w.heap.size 50 i0 (.agg #[.int .i64 0, .int .i64 0]) 2 16 Tryd.underlying24 hi hz0 hz1 hz2 rfl (by decide) _ _ _ rfl (hown.alloc _) ⟨wr.heap.size + 1, 0, none⟩ 1 1 (flatP [(x, y)]) rfl rfl ?d2 (fun u hu => prC_cell hu) ?d3 ?d4 ?d5 ?_)
      case d2 => exact fun j u h => h
      case d3 => omega
      case d4 => omega
      case d5 => omega
      intro v7 V7 hown7 hgrow7 _
      have hz : w.heap.size ≤ ((wr.alloc (.cells #[.int .i64 x, .int .i64 y, .int .i64 a1, .int .i64 a2, .int .i64 a3, .int .i64 b1, .int .i64 b2, .int .i64 b3] 56)).alloc (.cells #[.int .i64 x, .int .i64 y] 50)).heap.size := by simp; omega
      have B7 := hide (grownOwnP (below_call (unhide B1) (below1 _ (.cells #[.int .i64 x, .int .i64 y] 50))) (hown.alloc (.cells #[.int .i64 x, .int .i64 y] 50)) hgrow7 hz)
      have W7 : Hid (V7.ownsRow w.heap.size 50 2 v7 (k + 1) (flatP ((S.take (k + 1)).map Prod.fst))) := hide (by rw [unhide HF, flatP_app, List.map_take]; exact hown7)
      clear hown7 hgrow7 hz hown B1 HF
      go_wp2_with fail
      go_roundw
      case rel => exact ⟨k + 1, by omega, by go_num, W7, B7⟩
      case measure => simp [intOf]; omega
    · obtain rfl : k = S.length := by omega
      rw [List.take_length] at HW
      go_wp2_with fail
      go_ret
      exact ⟨⟨_, rfl, unhide HW⟩, unhide HB⟩
end Go.Proofs.YthmelofbdbplnaaDoor
