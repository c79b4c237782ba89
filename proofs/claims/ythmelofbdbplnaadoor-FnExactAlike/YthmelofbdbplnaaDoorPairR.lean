/- spansOf: the program's. -/
import Derived.Test.YthmelofbdbplnaaDoorPairQ
namespace Go.Proofs.YthmelofbdbplnaaDoor
open Go.RowKit Go.Sort
set_option linter.unusedVariables false

theorem info_span : (Tryd.prog.info? 56).map (fun i => (i.zero, i.size, i.bytes)) = some (some (.agg #[.int .i64 0, .int .i64 0, .int .i64 0, .int .i64 0, .int .i64 0, .int .i64 0, .int .i64 0, .int .i64 0]), 8, 64) := by kernel_rfl
def flatS (S : List Sp) : List Value := S.flatMap spL
theorem flatS_app (A B : List Sp) : flatS (A ++ B) = flatS A ++ flatS B := by unfold flatS; rw [List.flatMap_append]
theorem flatS_len (O : List Sp) : (flatS O).length = O.length * 8 := by
  unfold flatS
  induction O with
  | nil => rfl
  | cons x l ih => simp [List.flatMap_cons, spL] at *; omega
theorem spL_cell {S : List Sp} {v : Value} (h : v ∈ flatS S) : v.oneCell' = true := by
  unfold flatS at h
  rw [List.mem_flatMap] at h
  obtain ⟨p, _, hp⟩ := h
  simp [spL] at hp
  rcases hp with rfl | rfl | rfl | rfl | rfl | rfl | rfl | rfl <;> rfl
theorem flatS_at (S : List Sp) : ∀ (i r : Nat), i < S.length → r < 8 → (flatS S)[i * 8 + r]? = some (.int .i64 (comp (spA S i) r)) := by
  induction S with
  | nil => intro i r hi; simp at hi
  | cons x l ih =>
    intro i r hi hr
    match i with
    | 0 =>
      match r, hr with
      | 0, _ => rfl
      | 1, _ => rfl
      | 2, _ => rfl
      | 3, _ => rfl
      | 4, _ => rfl
      | 5, _ => rfl
      | 6, _ => rfl
      | 7, _ => rfl
    | i + 1 =>
      have h := ih i r (by simpa using hi) hr
      have e : (flatS (x :: l))[(i + 1) * 8 + r]? = (flatS l)[i * 8 + r]? := by
        rw [show (i + 1) * 8 + r = (i * 8 + r) + 8 by omega]
        rfl
      rw [e, h]
      rfl
/-- the spans of a row that was made are told by their places -/
theorem rowS_of {w : World} {B g cap n : Nat} {S : List Sp} (h : w.ownsRow B 56 8 (.slice (some ⟨g, 0, none⟩) n cap) n (flatS S)) (hn : n = S.length) : RowAt w 56 g (n * 8) (cellF (spA S)) := by
  subst hn
  rcases h.2 with ⟨h1, h0⟩ | ⟨g', cap', cur, hv, hb, hg, hnc, hcm, hcs, htake⟩
  · cases h1
  · injection hv with e1 e2 e3
    injection e1 with e1
    injection e1 with e1
    subst e1
    refine ⟨cur, hg, fun j hj => ?_⟩
    have e := flatS_at S (j / 8) (j % 8) (by omega) (Nat.mod_lt _ (by omega))
    rw [show j / 8 * 8 + j % 8 = j by omega, ← htake, List.getElem?_take, if_pos (by omega)] at e
    simpa [cellF] using e
theorem owned_form {w : World} {B n : Nat} {v : Value} {t : TypeId} {m : Nat} {xs : List Value} (h : w.ownsRow B t m v n xs) : (v = .slice none 0 0 ∧ n = 0) ∨ ∃ g cap, v = .slice (some ⟨g, 0, none⟩) n cap ∧ B ≤ g ∧ (n ≤ cap ∧ cap ≤ maxLen) := by
  rcases h.2 with ⟨h1, h0⟩ | ⟨g, cap, cur, hv, hb, _, hc1, hc2, _⟩
  · exact .inl ⟨h1, h0⟩
  · exact .inr ⟨g, cap, hv, hb, hc1, hc2⟩
set_option maxRecDepth 100000 in
theorem putInOrder_few (a : Option Addr) (n cap : Nat) (w : World) (hn : n ≤ 1) :
    Calls Tryd.prog 38 #[.slice a n cap, .func (.func 39) #[] #[]] w fun e w' => e = .returned (.tuple #[]) ∧ w' = w := by
  have h : ¬ (1 : Int) < (n : Int) := by omega
  go_enter Tryd.func38, Tryd.ntmps38
  go_wp2_with fail
  refine wp_loop_rounds 1 ?_
  rw [rounds_succ]
  go_wp2_with fail
  go_end0
  exact ⟨rfl, rfl⟩
/-- what spansOf hands back: the spans S, by their places -/
def SpansIn (w : World) (B : Nat) (v : Value) (S : List Sp) : Prop := (v = .slice none 0 0 ∧ S = []) ∨ ∃ g cap, v = .slice (some ⟨g, 0, none⟩) S.length cap ∧ (B ≤ g ∧ S.length ≤ cap ∧ cap ≤ maxLen) ∧ RowAt w 56 g (S.length * 8) (cellF (spA S))

/-- block sb holds just the star s -/
def StarBlk (w : World) (sb : Nat) (s : St) : Prop := w.heap[sb]? = some (.cells #[.int .i64 s.1, .int .i64 s.2.1, .int .i64 s.2.2.1, .int .i64 s.2.2.2] 41 (0, 0))
theorem StarBlk.lt {w : World} {sb : Nat} {s : St} (h : StarBlk w sb s) : sb < w.heap.size := (Array.getElem?_eq_some_iff.1 h).1
theorem StarBlk.kept {w w' : World} {sb : Nat} {s : St} (h : StarBlk w sb s) (hB : Below w.heap.size w w') : StarBlk w' sb s := (hB.block sb h.lt).trans h
theorem StarBlk.cells {w : World} {sb : Nat} {s : St} (h : StarBlk w sb s) : w.cell? ⟨sb, 0, none⟩ = some (.int .i64 s.1) ∧ w.cell? ⟨sb, 1, none⟩ = some (.int .i64 s.2.1) ∧ w.cell? ⟨sb, 2, none⟩ = some (.int .i64 s.2.2.1) ∧ w.cell? ⟨sb, 3, none⟩ = some (.int .i64 s.2.2.2) := by
  refine ⟨?_, ?_, ?_, ?_⟩ <;> (rw [cell_of_row w sb _ _ _ _ h]; rfl)
theorem StarBlk.grown {w w2 : World} {B sb : Nat} {v : Value} {n m : Nat} {xs : List Value} {s : St} (h : StarBlk w sb s) (ho : w.ownsRow B 56 m v n xs) (hg : w.grownBy w2 v.ownBlock) : StarBlk w2 sb s := by
  refine (hg.block sb h.lt (fun e => ?_)).trans h
  rcases ho.2 with ⟨rfl, _⟩ | ⟨g, cap, cur, rfl, _, hgb, _⟩
  · cases e
  · obtain rfl : sb = g := by simpa [Value.ownBlock] using e
    have := h.symm.trans hgb
    simp at this

set_option maxHeartbeats 4000000 in
set_option maxRecDepth 100000 in
theorem spansOf_any (L : List St) (b o c : Nat) (w : World) (hn : L.length ≤ 12) (hb : b < w.heap.size) (hc : ∀ i, i < L.length → StarAt w b (o + i * 4) (stA L i)) (hcap : L.length ≤ c) (hc2 : c ≤ maxLen) :
    Calls Tryd.prog 22 #[.slice (some ⟨b, o, none⟩) L.length c] w fun e w' => (∃ v, e = .returned v ∧ SpansIn w' w.heap.size v (allS L L.length)) ∧ Below w.heap.size w w' := by
  obtain ⟨i0, hi, hz0, hz1, hz2⟩ := info_parts info_span
  have HLL := hide (listL_len L hn)
  have HIA := hide (insAll_list L L.length)
  obtain ⟨n, hnl⟩ : ∃ n, L.length = n := ⟨_, rfl⟩
  rw [hnl] at hn hcap hc HLL HIA ⊢
  have HNL := hide hnl
  have HLs : Hid (∀ k, listL L (k + 1) = listL L k ++ rowL L k (n - (k + 1))) := hide (by rw [← hnl]; exact fun k => rfl)
  have HC := hide hc
  clear hc hnl
  have hm8 : 400 ≤ maxLen := by decide +kernel
  have hc3 : c ≤ 2 ^ 63 - 1 := by unfold maxLen at hc2; exact hc2
  clear hc2
  go_enter Tryd.func22, Tryd.ntmps22
  go_wp2_with fail
  go_loopw [3, 11] (fun v i wr => ∃ k : Nat, k ≤ n ∧ i = .int .i64 k ∧ Hid (wr.ownsRow w.heap.size 56 8 v (listL L k).length (flatS (listL L k))) ∧ Hid (Below w.heap.size w wr)) (fun _ i _ => n - (intOf i).toNat)
  case atStart => exact ⟨0, by omega, rfl, hide (World.ownsRow_nil _ _ _ _), hide (Below.refl _ _)⟩
  case round =>
    obtain ⟨k, hk, rfl, HW, HB⟩ := hrel
    by_cases hkn : k < n
    · have hkn2 : (k : Int) < (n : Int) := by omega
      have hst := (unhide HC k hkn).kept hb (unhide HB)
      obtain ⟨s, hs⟩ : ∃ s, s = stA L k := ⟨_, rfl⟩
      rw [← hs] at hst
      have HSk := hide hs
      clear hs
      obtain ⟨s1, s2, s3, s4⟩ := s
      have S1 : Hid (StarBlk (wr.alloc (.cells #[.int .i64 s1, .int .i64 s2, .int .i64 s3, .int .i64 s4] 41)) wr.heap.size (s1, s2, s3, s4)) := hide (heap_alloc_new wr _)
      have Z1 := below1 wr (.cells #[.int .i64 s1, .int .i64 s2, .int .i64 s3, .int .i64 s4] 41)
      have W1 := hide (ownKeptP (unhide HW) Z1)
      have B1 := hide (below_call (unhide HB) Z1)
      clear Z1 HW HB
      obtain ⟨c0, c1, c2, c3⟩ := hst
      by_cases hkl : k + 1 = n
      · have W2 : Hid ((wr.alloc (.cells #[.int .i64 s1, .int .i64 s2, .int .i64 s3, .int .i64 s4] 41)).ownsRow w.heap.size 56 8 u3 (listL L (k + 1)).length (flatS (listL L (k + 1)))) := hide (by
          rw [unhide HLs k, show n - (k + 1) = 0 by omega, show rowL L k 0 = [] from rfl, List.append_nil]; exact unhide W1)
        clear S1 W1
        go_wp2_with fail
        go_loopw [3, 25] (fun v i wx => i = .int .i64 0 ∧ Hid (wx.ownsRow w.heap.size 56 8 v (listL L (k + 1)).length (flatS (listL L (k + 1)))) ∧ Hid (Below w.heap.size w wx)) (fun _ _ _ => 0)
        case atStart => exact ⟨rfl, W2, B1⟩
        case round =>
          clear W2 B1
          obtain ⟨rfl, W2, B1⟩ := hrel
          go_wp2_with fail
          go_roundw
          case rel => exact ⟨k + 1, by omega, by go_num, W2, B1⟩
          case measure => simp [intOf] <;> omega
      · go_wp2_with fail
        have S1' := unhide S1
        have W1' := unhide W1
        have B1' := unhide B1
        have hsz := B1'.size
        generalize hWe : wr.alloc (.cells #[.int .i64 s1, .int .i64 s2, .int .i64 s3, .int .i64 s4] 41) = W0 at S1' W1' B1' ⊢
        generalize hse : wr.heap.size = sb at S1' ⊢
        have HS1 := hide S1'
        have HW1 := hide W1'
        have HB1 := hide B1'
        clear S1' W1' B1' S1 W1 B1 hWe c0 c1 c2 c3
        obtain ⟨d, hd⟩ : ∃ d, n - (k + 1) = d := ⟨_, rfl⟩
        rw [hd]
        have hd1 : k + 1 + d = n := by omega
        have HD := hide hd
        clear hd hkl
        go_loopw [3, 25] (fun v i wx => ∃ m : Nat, m ≤ d ∧ i = .int .i64 m ∧ Hid (wx.ownsRow w.heap.size 56 8 v (listL L k ++ rowL L k m).length (flatS (listL L k ++ rowL L k m))) ∧ Hid (Below w.heap.size w wx) ∧ Hid (StarBlk wx sb (s1, s2, s3, s4))) (fun _ i _ => d - (intOf i).toNat)
        case atStart => exact ⟨0, by omega, rfl, by rw [show rowL L k 0 = [] from rfl, List.append_nil]; exact HW1, HB1, HS1⟩
        case round =>
          clear HW1 HB1 HS1
          obtain ⟨m, hm, rfl, HW, HB, HS⟩ := hrel
          by_cases hmd : m < d
          · have hmd2 : (m : Int) < (d : Int) := by omega
            have hst := (unhide HC (k + 1 + m) (by omega)).kept hb (unhide HB)
            rw [show o + (k + 1 + m) * 4 = o + (k + 1) * 4 + m * 4 by omega] at hst
            obtain ⟨t, ht⟩ : ∃ t, t = stA L (k + 1 + m) := ⟨_, rfl⟩
            rw [← ht] at hst
            have HT := hide ht
            clear ht
            obtain ⟨t1, t2, t3, t4⟩ := t
            obtain ⟨c0, c1, c2, c3⟩ := hst
            obtain ⟨d0, d1, d2, d3⟩ := (unhide HS).cells
            have hlt := (unhide HS).lt
            have HN : Hid (listL L k ++ rowL L k (m + 1) = (listL L k ++ rowL L k m) ++ [((s1, t1), (s2, s3, s4), (t2, t3, t4))]) := hide (by
              rw [rowL_snoc, List.append_assoc]
              unfold spanOf
              rw [← unhide HSk, ← unhide HT])
            have hlen : (listL L k ++ rowL L k m).length ≤ 160 := by
              rw [List.length_append, rowL_len]
              have := unhide HLL k (by omega)
              omega
            generalize hNX : listL L k ++ rowL L k (m + 1) = NX at HN
            generalize listL L k ++ rowL L k m = O at *
            have Z3 := below3 wr (.cells #[.int .i64 t1, .int .i64 t2, .int .i64 t3, .int .i64 t4] 41) (.cells #[.int .i64 s1, .int .i64 t1] 50) (.cells #[.int .i64 s1, .int .i64 t1, .int .i64 s2, .int .i64 s3, .int .i64 s4, .int .i64 t2, .int .i64 t3, .int .i64 t4] 56)
            have hown := ownKeptP (unhide HW) Z3
            have B3 := below_call (unhide HB) Z3
            have S3 := hide ((unhide HS).kept Z3)
            have hsz3 := Z3.size
            have hsz0 := (unhide HB).size
            clear Z3
            go_wp2_with (at_builtin; refine wpList_append_own _ rfl _ _ 46 rfl w.heap.size 56 i0 (.agg #[.int .i64 0, .int .i64 0, .int .i64 0, .int .i64 0, .int .i64 0, .int .i64 0, .int .i64 0, .int .i64 0]) 8 64 Tryd.underlying46 hi hz0 hz1 hz2 rfl (by decide) _ _ _ rfl hown ⟨wr.heap.size + 2, 0, none⟩ 1 1 (flatS [((s1, t1), (s2, s3, s4), (t2, t3, t4))]) rfl rfl ?d2 (fun u hu => spL_cell hu) ?d3 ?d4 ?d5 ?_)
            case d2 => exact fun j u h => h
            case d3 => omega
            case d4 => omega
            case d5 => omega
            intro v7 V7 hown7 hgrow7 _
            have hz : w.heap.size ≤ (((wr.alloc (.cells #[.int .i64 t1, .int .i64 t2, .int .i64 t3, .int .i64 t4] 41)).alloc (.cells #[.int .i64 s1, .int .i64 t1] 50)).alloc (.cells #[.int .i64 s1, .int .i64 t1, .int .i64 s2, .int .i64 s3, .int .i64 s4, .int .i64 t2, .int .i64 t3, .int .i64 t4] 56)).heap.size := by omega
            have B7 := hide (grownOwnP B3 hown hgrow7 hz)
            have S7 := hide ((unhide S3).grown hown hgrow7)
            have W7 : Hid (V7.ownsRow w.heap.size 56 8 v7 NX.length (flatS NX)) := hide (by rw [unhide HN, flatS_app, List.length_append]; exact hown7)
            subst hNX
            clear hown7 hgrow7 hz hown B3 HN S3
            go_wp2_with fail
            go_roundw
            case rel => exact ⟨m + 1, by omega, by go_num, W7, B7, S7⟩
            case measure => simp [intOf] <;> omega
          · obtain rfl : m = d := by omega
            have W2 : Hid (wr.ownsRow w.heap.size 56 8 u3 (listL L (k + 1)).length (flatS (listL L (k + 1)))) := hide (by rw [unhide HLs k, unhide HD]; exact unhide HW)
            go_wp2_with fail
            go_roundw
            case rel => exact ⟨k + 1, by omega, by go_num, W2, HB⟩
            case measure => simp [intOf] <;> omega
    · obtain rfl : k = n := by omega
      rcases owned_form (unhide HW) with ⟨hv, h0⟩ | ⟨g, cap, hv, hg, hc1, hc2⟩
      · subst hv
        have HE : Hid (allS L k = []) := hide (by rw [← unhide HIA]; exact List.eq_nil_of_length_eq_zero (by rw [insAll_len]; exact h0))
        go_wp2_with fail
        refine (putInOrder_few none 0 0 _ (by omega)).mono ?_
        rintro e w1 ⟨rfl, rfl⟩
        go_wp2_with fail
        go_ret
        exact ⟨⟨_, rfl, .inl ⟨rfl, unhide HE⟩⟩, unhide HB⟩
      · subst hv
        have hlen : (listL L k).length ≤ 200 := by have := unhide HLL k (Nat.le_refl _); omega
        have HR := hide (rowS_of (unhide HW) rfl)
        have HA : Hid (insAll (listL L k) = allS L k) := HIA
        have HAl : Hid ((listL L k).length = (allS L k).length) := hide (by rw [← unhide HA, insAll_len])
        by_cases h1 : (listL L k).length = 0
        · have HE : Hid (allS L k = []) := hide (List.eq_nil_of_length_eq_zero (by rw [← unhide HAl]; exact h1))
          have cP := hide (fun W => putInOrder_few (some ⟨g, 0, none⟩) (listL L k).length cap W (by omega))
          generalize (listL L k).length = ln at *
          subst h1
          have HO : Hid (SpansIn wr w.heap.size (.slice (some ⟨g, 0, none⟩) 0 cap) (allS L k)) := hide (.inr ⟨g, cap, by rw [unhide HE]; rfl, ⟨hg, by rw [unhide HE]; exact Nat.zero_le _, hc2⟩, by
            have := unhide HR
            rw [unhide HE]
            exact this.congr (fun j hj => absurd hj (by omega))⟩)
          clear HR
          go_wp2_with fail
          refine (unhide cP _).mono ?_
          rintro e w1 ⟨rfl, rfl⟩
          go_wp2_with fail
          go_ret
          exact ⟨⟨_, rfl, unhide HO⟩, unhide HB⟩
        · have cP : Hid (∀ W : World, RowAt W 56 g ((listL L k).length * 8) (cellF (spA (listL L k))) → Calls Tryd.prog 38 #[.slice (some ⟨g, 0, none⟩) (listL L k).length cap, .func (.func 39) #[] #[]] W fun e w' => e = .returned (.tuple #[]) ∧ SpansIn w' w.heap.size (.slice (some ⟨g, 0, none⟩) (listL L k).length cap) (allS L k) ∧ W.grownBy w' (some g)) := hide (fun W hW => (putInOrder_any (listL L k) g cap W hlen (by omega) hW).mono fun e w' h => ⟨h.1, .inr ⟨g, cap, by rw [unhide HAl], ⟨hg, by rw [← unhide HAl]; exact hc1, hc2⟩, by rw [← unhide HAl, ← unhide HA]; exact h.2.1⟩, h.2.2⟩)
          clear HAl HA HIA
          generalize cellF (spA (listL L k)) = ff at *
          generalize (listL L k).length = ln at *
          go_wp2_with fail
          refine (unhide cP _ (unhide HR)).mono ?_
          rintro e w1 ⟨rfl, hs, hgr⟩
          have HO := hide hs
          have HB2 := hide (grownBelow (unhide HB) (unhide HB).size hgr hg)
          clear hs hgr
          go_wp2_with fail
          go_ret
          exact ⟨⟨_, rfl, unhide HO⟩, unhide HB2⟩
end Go.Proofs.YthmelofbdbplnaaDoor
