/- The desk's words: the program's and the specification's, and the law on DeskWords, walked. -/
import Derived.Test.YtofpjlhoppofdaaGreatDoorStrS
import Derived.Laws.AppendOwn
import Derived.Laws.EntriesVeiled
import Derived.Test.YtofpjlhoppofdaaGreatDoorRowR
namespace Go.Proofs.YtofpjlhoppofdaaGreatDoor
open Go.RowKit Go.Sort
set_option linter.unusedVariables false

def sBlind : ByteArray := ⟨#[98, 108, 105, 110, 100]⟩
def sDrift : ByteArray := ⟨#[100, 114, 105, 102, 116]⟩
def sIds : ByteArray := ⟨#[105, 100, 115]⟩
def sMove : ByteArray := ⟨#[109, 111, 118, 101]⟩
def sReset : ByteArray := ⟨#[114, 101, 115, 101, 116]⟩
def sSee : ByteArray := ⟨#[115, 101, 101]⟩
def sState : ByteArray := ⟨#[115, 116, 97, 116, 101]⟩
/-- the words with which a line may begin -/
def wordsL : List ByteArray := [sBlind, sDrift, sIds, sMove, sReset, sSee, sState]
def wordF (j : Nat) : ByteArray := wordsL.getD j ⟨#[]⟩
def swO : Obj := .cells #[.string sBlind, .string sDrift, .string sIds, .string sMove, .string sReset, .string sSee, .string sState] 9
def fnV (f : Nat) : Value := .func (.func f) #[] #[]
def fwO : Obj := .cells #[.string sBlind, fnV 24, fnV 25, .string sDrift, fnV 26, fnV 27, .string sIds, fnV 28, fnV 29, .string sMove, fnV 26, fnV 30, .string sReset, fnV 24, fnV 31, .string sSee, fnV 28, fnV 32, .string sState, fnV 24, fnV 33] 40

set_option maxHeartbeats 2000000 in
set_option maxRecDepth 100000 in
theorem specWords_any (w : World) : Calls Tryz.prog 8 #[] w fun e w' => e = .returned (.slice (some ⟨w.heap.size, 0, none⟩) 7 7) ∧ w' = w.alloc swO := by
  go_enter Tryz.func8, Tryz.ntmps8
  go_wp2
  go_ret
  exact ⟨rfl, rfl⟩
set_option maxHeartbeats 2000000 in
set_option maxRecDepth 100000 in
theorem firstWords_any (w : World) : Calls Tryz.prog 15 #[] w fun e w' => e = .returned (.slice (some ⟨w.heap.size, 0, none⟩) 7 7) ∧ w' = w.alloc fwO := by
  go_enter Tryz.func15, Tryz.ntmps15
  go_wp2
  go_ret
  exact ⟨rfl, rfl⟩
theorem info_strD : (Tryz.prog.info? 9).map (fun i => (i.zero, i.size, i.bytes)) = some (some (.string ⟨#[]⟩), 1, 16) := by kernel_rfl
theorem own_keptD {w w' : World} {B n m : Nat} {t : TypeId} {v : Value} {xs : List Value} (h : w.ownsRow B t m v n xs) (hB : Below w.heap.size w w') : w'.ownsRow B t m v n xs := by
  obtain ⟨h1, h2⟩ := h
  refine ⟨h1, ?_⟩
  rcases h2 with h2 | ⟨g, c', cur, e, hg, hh, r⟩
  · exact .inl h2
  · exact .inr ⟨g, c', cur, e, hg, by rw [hB.block g (Array.getElem?_eq_some_iff.1 hh).1]; exact hh, r⟩
def fwL : List Value := [.string sBlind, fnV 24, fnV 25, .string sDrift, fnV 26, fnV 27, .string sIds, fnV 28, fnV 29, .string sMove, fnV 26, fnV 30, .string sReset, fnV 24, fnV 31, .string sSee, fnV 28, fnV 32, .string sState, fnV 24, fnV 33]
def fwF (j : Nat) : Value := fwL.getD j (.string ⟨#[]⟩)
theorem own_lowD {w : World} {B B' n m : Nat} {t : TypeId} {v : Value} {xs : List Value} (h : w.ownsRow B t m v n xs) (hb : B' ≤ B) : w.ownsRow B' t m v n xs := by
  obtain ⟨h1, h2⟩ := h
  refine ⟨h1, ?_⟩
  rcases h2 with h2 | ⟨g, c', cur, e, hg, r⟩
  · exact .inl h2
  · exact .inr ⟨g, c', cur, e, by omega, r⟩
theorem new_oneD (w : World) (v : Value) (t : TypeId) (j : Nat) (u : Value) (h : [v][j]? = some u) : (w.alloc (.cells #[v] t)).cell? ((⟨w.heap.size, 0, none⟩ : Addr).add j) = some u := by
  have hA : (⟨w.heap.size, 0, none⟩ : Addr).add j = ⟨w.heap.size, j, none⟩ := by unfold Addr.add; split <;> simp_all
  rw [hA, cell_of_row _ _ j #[v] t _ (heap_alloc_new w (.cells #[v] t))]
  simpa using h
theorem fwRow (w : World) : RowV (w.alloc fwO) 40 w.heap.size 21 fwF := by
  refine ⟨fwL.toArray, heap_alloc_new w fwO, fun j hj => ?_⟩
  unfold fwF
  rw [List.getElem?_toArray, List.getD_eq_getElem?_getD, List.getElem?_eq_getElem (show j < fwL.length from hj)]
  rfl
theorem fw_at (k : Nat) (hk : k < 7) : ∃ x y, fwF (k * 3) = .string (wordF k) ∧ fwF (k * 3 + 1) = fnV x ∧ fwF (k * 3 + 2) = fnV y := by
  match k, hk with
  | 0, _ | 1, _ | 2, _ | 3, _ | 4, _ | 5, _ | 6, _ => exact ⟨_, _, rfl, rfl, rfl⟩
/-- the words read so far -/
def wordsV (k : Nat) : List Value := (List.range k).map (strV wordF)
theorem wordsV_succ (k : Nat) : wordsV (k + 1) = wordsV k ++ [.string (wordF k)] := by unfold wordsV; rw [List.range_succ, List.map_append]; rfl
theorem dk_cell {w w' : World} {b o : Nat} {u : Value} (h : w.cell? ⟨b, o, none⟩ = some u) (hb : Below w.heap.size w w') : w'.cell? ⟨b, o, none⟩ = some u := by
  rw [hb.cell (p := ⟨b, o, none⟩) (World.block_lt_of_cell? w _ h)]; exact h

set_option maxHeartbeats 4000000 in
set_option maxRecDepth 100000 in
theorem implWords_any (w : World) : Calls Tryz.prog 9 #[] w fun e w' => (∃ v, e = .returned v ∧ w'.ownsRow w.heap.size 9 1 v 7 (wordsV 7)) ∧ Below w.heap.size w w' := by
  obtain ⟨i0, hinf, hz0, hz1, hz2⟩ := info_parts info_strD
  have hm8 : 400 ≤ maxLen := by decide +kernel
  go_enter Tryz.func9, Tryz.ntmps9
  go_wp2_with fail
  refine (firstWords_any _).mono ?_
  rintro e w1 ⟨rfl, rfl⟩
  have HC := hide (fwRow w)
  have HB := hide (below1 w fwO)
  have hlt : w.heap.size + 1 ≤ (w.alloc fwO).heap.size := by simp
  have HN : Hid ((w.alloc fwO).ownsRow (w.heap.size + 1) 9 1 (.slice none 0 0) 0 (wordsV 0)) := hide (World.ownsRow_nil _ _ _ _)
  generalize w.alloc fwO = W0 at HC HB hlt HN ⊢
  go_wp2_with fail
  go_loopw [1, 6] (fun v i wr => ∃ k : Nat, k ≤ 7 ∧ i = .int .i64 k ∧ Hid (wr.ownsRow (w.heap.size + 1) 9 1 v k (wordsV k)) ∧ Hid (RowV wr 40 w.heap.size 21 fwF) ∧ Hid (Below w.heap.size w wr) ∧ w.heap.size + 1 ≤ wr.heap.size) (fun _ i _ => 7 - (intOf i).toNat)
  case atStart => exact ⟨0, by omega, rfl, HN, HC, HB, hlt⟩
  case round =>
    clear HC HB hlt HN
    obtain ⟨k, hk, rfl, HN, HC, HB, hlt⟩ := hrel
    by_cases hkn : k < 7
    · have hkn2 : (k : Int) < 7 := by omega
      obtain ⟨x, y, e0, e1, e2⟩ := fw_at k hkn
      have c0 := (unhide HC).cell (j := k * 3) (by omega)
      have c1 := (unhide HC).cell (j := k * 3 + 1) (by omega)
      have c2 := (unhide HC).cell (j := k * 3 + 2) (by omega)
      rw [e0] at c0
      rw [e1] at c1
      rw [e2] at c2
      unfold fnV at c1 c2
      clear e0 e1 e2
      have Z1 := below2 wr (.cells #[.string (wordF k), .func (.func x) #[] #[], .func (.func y) #[] #[]] 40) (.cells #[.string (wordF k)] 9)
      have hown := own_keptD (unhide HN) Z1
      have HC2 := hide ((unhide HC).kept Z1)
      have HB2 := hide (below_call (unhide HB) Z1)
      have HS := hide (wordsV_succ k)
      clear Z1 HN HC HB
      generalize wordF k = wk at *
      go_wp2_with (at_builtin; refine wpList_append_own _ rfl _ _ 27 rfl (w.heap.size + 1) 9 i0 (.string ⟨#[]⟩) 1 16 Tryz.underlying27 hinf hz0 hz1 hz2 rfl (by decide) _ _ _ rfl hown ⟨wr.heap.size + 1, 0, none⟩ 1 1 [.string wk] rfl rfl ?d2 (fun u hu => by simp at hu; subst hu; rfl) ?d3 ?d4 ?d5 ?_)
      case d2 =>
        intro j u h
        have := new_oneD (wr.alloc (.cells #[.string wk, .func (.func x) #[] #[], .func (.func y) #[] #[]] 40)) (.string wk) 9 j u h
        rw [show (wr.alloc (.cells #[.string wk, .func (.func x) #[] #[], .func (.func y) #[] #[]] 40)).heap.size = wr.heap.size + 1 by simp] at this
        exact this
      case d3 => omega
      case d4 => omega
      case d5 => simp; omega
      intro v7 V7 hown7 hgrow7 _
      have HN3 : Hid (V7.ownsRow (w.heap.size + 1) 9 1 v7 (k + 1) (wordsV (k + 1))) := hide (by rw [unhide HS]; exact hown7)
      have HC3 := hide ((unhide HC2).same (hgrow7.block w.heap.size (unhide HC2).lt (fun e => by have := (hown.lt _ e.symm).1; omega)))
      have HB3 := hide (belowR (unhide HB2) hgrow7 (unhide HB2).size (fun g e => by have := (hown.lt _ e).1; omega))
      have hlt3 : w.heap.size + 1 ≤ V7.heap.size := by have := (unhide HC3).lt; omega
      clear hown7 hgrow7 hown HC2 HB2 HS c0 c1 c2 hlt
      go_wp2_with fail
      go_roundw
      case rel => exact ⟨k + 1, by omega, by go_num, HN3, HC3, HB3, hlt3⟩
      case measure => simp [intOf] <;> omega
    · have hke : k = 7 := by omega
      subst hke
      go_wp2_with fail
      go_ret
      exact ⟨⟨_, rfl, own_lowD (unhide HN) (by omega)⟩, unhide HB⟩
theorem swRow (w : World) : RowV (w.alloc swO) 9 w.heap.size 7 (strV wordF) := by
  refine ⟨(wordsL.map Value.string).toArray, heap_alloc_new w swO, fun j hj => ?_⟩
  unfold strV wordF
  rw [List.getElem?_toArray, List.getElem?_map, List.getD_eq_getElem?_getD, List.getElem?_eq_getElem (show j < wordsL.length from hj)]
  rfl
theorem words_row {w : World} {B : Nat} {v : Value} (h : w.ownsRow B 9 1 v 7 (wordsV 7)) : PRow w 9 1 B w.heap.size 7 v (strV wordF) :=
  PRow.of h (fun j hj => by unfold wordsV; rw [List.getElem?_map, List.getElem?_range (by omega)]; rfl)

set_option maxHeartbeats 4000000 in
set_option maxRecDepth 100000 in
theorem lawDeskWords (w : World) : Calls Tryz.prog 4 #[] w fun e w' => e = .returned (.bool true) ∧ Below w.heap.size w w' := by
  go_enter Tryz.func4, Tryz.ntmps4
  go_wp2_with fail
  refine (specWords_any _).mono ?_
  rintro e w1 ⟨rfl, rfl⟩
  have W0 : PRow (w.alloc swO) 9 1 w.heap.size (w.alloc swO).heap.size 7 (.slice (some ⟨w.heap.size, 0, none⟩) 7 7) (strV wordF) := .inr ⟨_, _, rfl, Nat.le_refl _, (swRow w).lt, swRow w⟩
  have HW := hide W0
  have HB := hide (below1 w swO)
  have hb0 : w.heap.size ≤ (w.alloc swO).heap.size := by simp
  clear W0
  generalize w.alloc swO = w1 at HW HB hb0 ⊢
  generalize hs0 : Value.slice (some ⟨w.heap.size, 0, none⟩) 7 7 = s0 at HW ⊢
  have H0 := hide hs0
  go_wp2_with fail
  refine (implWords_any _).mono ?_
  rintro e w2 ⟨⟨v2, rfl, ho⟩, hx⟩
  have HG := hide (words_row ho)
  have HW2 := hide ((unhide HW).kept hx)
  have HB2 := hide (below_call (unhide HB) hx)
  have hb2 : w1.heap.size ≤ w2.heap.size := hx.size
  clear ho hx HW HB
  go_wp2_with fail
  refine (eqStringS_any 7 _ _ _ _ v2 s0 wordF _ (by omega) (unhide HG) (unhide HW2)).mono ?_
  rintro e w3 ⟨rfl, hx⟩
  have HG3 := hide ((unhide HG).kept hx)
  have HW3 := hide ((unhide HW2).kept hx)
  have HB3 := hide (below_call (unhide HB2) hx)
  have hb3 : w2.heap.size ≤ w3.heap.size := hx.size
  clear hx HG HW2 HB2
  go_wp2_with fail
  refine (markStringS_any 7 1 _ _ v2 _ _ (by omega) (by omega) (by omega) (unhide HG3)).mono ?_
  rintro e w4 ⟨rfl, hr, ha⟩
  have HG4 := hide hr
  have HW4 := hide ((unhide HW3).apart ha (.inl (Nat.le_refl _)))
  have HB4 := hide (ha.below (unhide HB3) hb0 (by omega))
  have hb4 : w3.heap.size ≤ w4.heap.size := ha.size
  clear hr ha HG3 HW3 HB3
  go_wp2_with fail
  refine (heldStringS_any 7 1 _ _ v2 _ (by omega) (by omega) (by omega) (unhide HG4)).mono ?_
  rintro e w5 ⟨rfl, hx⟩
  have HG5 := hide ((unhide HG4).kept hx)
  have HW5 := hide ((unhide HW4).kept hx)
  have HB5 := hide (below_call (unhide HB4) hx)
  clear hx HG4 HW4 HB4
  go_wp2_with fail
  refine (implWords_any _).mono ?_
  rintro e w6 ⟨⟨v6, rfl, ho⟩, hx⟩
  have HK := hide (words_row ho)
  have HG6 := hide ((unhide HG5).kept hx)
  have HW6 := hide ((unhide HW5).kept hx)
  have HB6 := hide (below_call (unhide HB5) hx)
  clear ho hx HG5 HW5 HB5
  go_wp2_with fail
  refine (eqStringS_any 7 _ _ _ _ v6 s0 wordF _ (by omega) (unhide HK) (unhide HW6)).mono ?_
  rintro e w7 ⟨rfl, hx⟩
  have HG7 := hide ((unhide HG6).kept hx)
  have HB7 := hide (below_call (unhide HB6) hx)
  clear hx HK HG6 HW6 HB6
  go_wp2_with fail
  refine (heldStringS_any 7 1 _ _ v2 _ (by omega) (by omega) (by omega) (unhide HG7)).mono ?_
  rintro e w8 ⟨rfl, hx⟩
  have HB8 := hide (below_call (unhide HB7) hx)
  clear hx HG7 HB7
  go_wp2_with fail
  go_ret
  exact ⟨rfl, unhide HB8⟩
end Go.Proofs.YtofpjlhoppofdaaGreatDoor
