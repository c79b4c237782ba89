/- PairsOf: the program's. -/
import Derived.Test.YthmelofbdbplnaaDoorPairR
namespace Go.Proofs.YthmelofbdbplnaaDoor
open Go.RowKit Go.Sort
set_option linter.unusedVariables false

theorem own_less {w : World} {B B' n m : Nat} {t : TypeId} {v : Value} {xs : List Value} (h : w.ownsRow B t m v n xs) (hb : B' ≤ B) : w.ownsRow B' t m v n xs := by
  obtain ⟨h1, h2⟩ := h
  refine ⟨h1, ?_⟩
  rcases h2 with h2 | ⟨g, cap, cur, e, hg, r⟩
  · exact .inl h2
  · exact .inr ⟨g, cap, cur, e, by omega, r⟩
set_option maxRecDepth 100000 in
theorem pairsIn_none (w : World) : Calls Tryd.prog 21 #[.slice none 0 0] w fun e w' => e = .returned (.slice none 0 0) ∧ w' = w := by
  go_enter Tryd.func21, Tryd.ntmps21
  go_wp2_with fail
  refine wp_loop_rounds 1 ?_
  rw [rounds_succ]
  go_wp2_with fail
  go_ret
  exact ⟨rfl, rfl⟩
theorem allS_len (L : List St) (h : L.length ≤ 12) : (allS L L.length).length ≤ 200 := by
  rw [← insAll_list, insAll_len]
  have := listL_len L h L.length (Nat.le_refl _)
  omega
/-- the pairs of the spans that lie there -/
theorem pairsIn_of (S : List Sp) (B : Nat) (v : Value) (w : World) (hn : S.length ≤ 200) (h : SpansIn w B v S) (hB : B ≤ w.heap.size) :
    Calls Tryd.prog 21 #[v] w fun e w' => (∃ v, e = .returned v ∧ w'.ownsRow B 50 2 v (S.map Prod.fst).length (flatP (S.map Prod.fst))) ∧ Below w.heap.size w w' := by
  rcases h with ⟨rfl, rfl⟩ | ⟨g, cap, rfl, hg, hr⟩
  · refine (pairsIn_none w).mono ?_
    rintro e w' ⟨rfl, rfl⟩
    exact ⟨⟨_, rfl, World.ownsRow_nil _ _ _ _⟩, Below.refl _ _⟩
  · refine (pairsIn_any S g 0 cap w hn (fun i hi => by rw [Nat.zero_add]; exact hr.span hi)).mono ?_
    rintro e w' ⟨⟨v, rfl, ho⟩, hx⟩
    refine ⟨⟨v, rfl, ?_⟩, hx⟩
    rw [List.length_map]
    exact own_less ho hB

set_option maxRecDepth 100000 in
theorem spansOf_zero (L : List St) (a : Option Addr) (c : Nat) (w : World) (h : L.length = 0) :
    Calls Tryd.prog 22 #[.slice a L.length c] w fun e w' => (∃ v, e = .returned v ∧ SpansIn w' w.heap.size v (allS L L.length)) ∧ Below w.heap.size w w' := by
  obtain rfl : L = [] := List.eq_nil_of_length_eq_zero h
  show Calls Tryd.prog 22 #[.slice a 0 c] w _
  go_enter Tryd.func22, Tryd.ntmps22
  go_wp2_with fail
  refine wp_loop_rounds 1 ?_
  rw [rounds_succ]
  go_wp2_with fail
  refine (putInOrder_few none 0 0 _ (by omega)).mono ?_
  rintro e w1 ⟨rfl, rfl⟩
  go_wp2_with fail
  go_ret
  exact ⟨⟨_, rfl, .inl ⟨rfl, rfl⟩⟩, Below.refl _ _⟩
set_option maxHeartbeats 1000000 in
set_option maxRecDepth 100000 in
theorem pairsOf_any (L : List St) (a : Option Addr) (c : Nat) (p : Addr) (w : World) (hn : L.length ≤ 1048576) (hcap : L.length ≤ c) (hc : c ≤ maxLen) (hS : Stars w a L L.length) (hE : ErrSky p w) :
    Calls Tryd.prog 8 #[.slice a L.length c] w fun e w' => (∃ v, e = .returned v ∧ w'.ownsRow w.heap.size 50 2 v (pairsR L).length (flatP (pairsR L))) ∧ Below w.heap.size w w' := by
  have c9 : c ≤ 9223372036854775807 := by unfold maxLen at hc; omega
  have cK := hide (fun (W : World) hW hEW => skyRight_any L a c p W hn hcap c9 hW hEW)
  have cS : Hid (skyB L = true → ∀ W : World, Stars W a L L.length → Calls Tryd.prog 22 #[.slice a L.length c] W fun e w' => (∃ v, e = .returned v ∧ SpansIn w' W.heap.size v (allS L L.length)) ∧ Below W.heap.size W w') := hide (fun hk W hW => by
    rcases hW with h0 | ⟨b, o, rfl, hb, hcs⟩
    · exact spansOf_zero L a c W h0
    · exact spansOf_any L b o c W (sky_ok hk).1 hb hcs hcap hc)
  have cP : Hid (skyB L = true → ∀ (B : Nat) (v : Value) (W : World), SpansIn W B v (allS L L.length) → B ≤ W.heap.size → Calls Tryd.prog 21 #[v] W fun e w' => (∃ v, e = .returned v ∧ w'.ownsRow B 50 2 v (pairsR L).length (flatP (pairsR L))) ∧ Below W.heap.size W w') := hide (fun hk B v W hS hB => by
    have e : pairsR L = (allS L L.length).map Prod.fst := by unfold pairsR; rw [if_pos hk]; exact (allS_map hk L.length (Nat.le_refl _)).1.symm
    rw [e]
    exact pairsIn_of _ B v W (allS_len L (sky_ok hk).1) hS hB)
  have HN : Hid (skyB L = false → pairsR L = []) := hide (fun h => by unfold pairsR; rw [h]; rfl)
  have HS := hide hS
  have HE := hide hE
  clear hS hE hc c9
  generalize pairsR L = R at *
  generalize allS L L.length = A at *
  generalize L.length = n at *
  go_enter Tryd.func8, Tryd.ntmps8
  go_wp2_with fail
  refine (unhide cK _ (unhide HS) (unhide HE)).mono ?_
  rintro e w1 ⟨rfl, hx⟩
  have HB := hide hx
  clear hx
  cases hk : skyB L
  · obtain rfl := unhide HN hk
    clear hk cP cS
    go_wp2_with fail
    go_ret
    exact ⟨⟨_, rfl, World.ownsRow_nil _ _ _ _⟩, unhide HB⟩
  · have cP' := hide (unhide cP hk)
    have cS' := hide (unhide cS hk)
    clear hk cP cS
    go_wp2_with fail
    refine (unhide cS' _ ((unhide HS).kept (unhide HB))).mono ?_
    rintro e w2 ⟨⟨v, rfl, hs⟩, hx⟩
    have B2 := hide (below_call (unhide HB) hx)
    have HSp := hide hs
    have hz := hx.size
    clear hx hs
    go_wp2_with fail
    refine (unhide cP' w1.heap.size v _ (unhide HSp) hz).mono ?_
    rintro e w3 ⟨⟨v3, rfl, ho⟩, hx⟩
    have B3 := hide (below_call (unhide B2) hx)
    have W3 : Hid (w3.ownsRow w.heap.size 50 2 v3 R.length (flatP R)) := hide (own_less ho (unhide HB).size)
    clear hx ho
    go_wp2_with fail
    go_ret
    exact ⟨⟨v3, rfl, unhide W3⟩, unhide B3⟩
end Go.Proofs.YthmelofbdbplnaaDoor
