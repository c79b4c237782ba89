/- The specification's search whole; l06Identify. -/
import Derived.Test.YtjdehbpgdplolaaDoorIeD
import Derived.Deep.RegionHeld
import Derived.Deep.DeepCutAuto
namespace Go.Proofs.YtjdehbpgdplolaaDoor
open Go.RowKit Go.Sort
set_option linter.unusedVariables false
set_option linter.unusedSimpArgs false

theorem from_all (L : List St) (S : List D3) (ar br : Option Addr) (cr dr x : Nat) (hk : skyB L = true) (hsp : spotsB S = true) (hdr : S.length ≤ dr) (hd9 : dr ≤ 9223372036854775807) : ∀ r, FromOk L S ar br cr dr x r
  | 0 => fun ids s ir er w hl hsm hm hc he hI hst => by
    by_cases hp : cntN ids + 0 < s.count
    · exact from_prune L S ar br cr dr x 0 (spots_ok hsp).1 ids s ir er w hl hc hst hp
    · exact from_leaf L S ar br cr dr x (spots_ok hsp).1 ids s ir er w hl (by simpa using hm) hc he hI hst hp
  | r + 1 => fun ids s ir er w hl hsm hm hc he hI hst => by
    by_cases hp : cntN ids + (r + 1) < s.count
    · exact from_prune L S ar br cr dr x (r + 1) (spots_ok hsp).1 ids s ir er w hl hc hst hp
    · exact from_node L S ar br cr dr x r hk hsp hdr hd9 (from_all L S ar br cr dr x hk hsp hdr hd9 r) ids s ir er w hl hsm hm hc he hI hst hp
/-- what the search finds from the start -/
def idR (L : List St) (S : List D3) : SeN := fromN (fitF L S) (L.map (·.1)) S.length [] ⟨[], 3, 0⟩
def idIds (L : List St) (S : List D3) : List Int := if (idR L S).many = 1 then (idR L S).best else []
def idCnt (L : List St) (S : List D3) : Int := if (idR L S).many = 1 then ((idR L S).count : Int) else 0
def idCode (L : List St) (S : List D3) : Int := if (idR L S).many = 0 then 6 else if 1 < (idR L S).many then 11 else 0
/-- what is answered: a naming of its own, how many, a code -/
def OutI (w' : World) (B : Nat) (ids : List Int) (cnt code : Int) (e : Ending) : Prop := ∃ v, e = .returned (.agg #[v, .int .i64 cnt, .int .i64 code]) ∧ w'.ownsRow B 2 1 v ids.length (intL ids)
def IdO (w : World) (b : Nat) (v : Value) (c k : Int) : Prop := w.cell? ⟨b, 0, none⟩ = some v ∧ w.cell? ⟨b, 1, none⟩ = some (.int .i64 c) ∧ w.cell? ⟨b, 2, none⟩ = some (.int .i64 k)
theorem IdO.grown {w w' : World} {b : Nat} {v : Value} {c k : Int} {row : Option Nat} (h : IdO w b v c k) (hg : w.grownBy w' row) (hne : some b ≠ row) : IdO w' b v c k := ⟨cellG5 h.1 hg hne, cellG5 h.2.1 hg hne, cellG5 h.2.2 hg hne⟩
theorem IdO.kept {w w' : World} {b : Nat} {v : Value} {c k : Int} (h : IdO w b v c k) (hB : Below w.heap.size w w') : IdO w' b v c k := ⟨cellK5 h.1 hB, cellK5 h.2.1 hB, cellK5 h.2.2 hB⟩
theorem idO_set {w : World} {b : Nat} {v0 : Value} {c0 k0 : Int} (h : IdO w b v0 c0 k0) (v : Value) (c k : Int) : IdO (((w.setCell ⟨b, 0, none⟩ v).setCell ⟨b, 1, none⟩ (.int .i64 c)).setCell ⟨b, 2, none⟩ (.int .i64 k)) b v c k := by
  obtain ⟨h0, h1, h2⟩ := h
  refine ⟨?_, ?_, ?_⟩ <;> simp [go_sem, h0, h1, h2]
theorem res_l06 (T : Array Value) (X : World) (b : Nat) (v : Value) (c k : Int) (hT : T.getD 4 undef = .pointer (some ⟨b, 0, none⟩)) (h : IdO X b v c k) : (results Tryd.f19 T).run Tryd.prog X = .ok (.agg #[v, .int .i64 c, .int .i64 k]) X := by
  obtain ⟨h0, h1, h2⟩ := h
  simp only [Array.getD_eq_getD_getElem?] at hT
  simp [results, Tryd.results19, go_sem, hT, h0, h1, h2]
theorem ownFarI {w : World} {B b n : Nat} {v : Value} {xs : List Value} (h : w.ownsRow B 2 1 v n xs) (hb : b < B) (o : Nat) (y : Value) : (w.setCell ⟨b, o, none⟩ y).ownsRow B 2 1 v n xs := by
  obtain ⟨h1, h2⟩ := h
  refine ⟨h1, ?_⟩
  rcases h2 with h2 | ⟨g, c', cur, e, hg, hh, r⟩
  · exact .inl h2
  · exact .inr ⟨g, c', cur, e, hg, by rw [Below.heap_setCell w ⟨b, o, none⟩ y g (by show g ≠ b; omega)]; exact hh, r⟩

set_option maxHeartbeats 4000000 in
set_option maxRecDepth 100000 in
theorem l06Identify_any (L : List St) (S : List D3) (ar br : Option Addr) (cr dr : Nat) (w : World) (hk : skyB L = true) (hsp : spotsB S = true) (hdr : S.length ≤ dr) (hd9 : dr ≤ 9223372036854775807) (hS : Stars w ar L L.length) (hD : Dirs w br S S.length) (hA : ∀ y, ar = some y → y.block < w.heap.size) (hB : ∀ y, br = some y → y.block < w.heap.size) :
    Calls Tryd.prog 19 #[.slice ar L.length cr, .slice br S.length dr] w fun e w' => OutI w' w.heap.size (idIds L S) (idCnt L S) (idCode L S) e ∧ Below w.heap.size w w' := by
  have B0 := below2 w (.cells #[.slice none 0 0, .int .i64 0, .int .i64 0] 28) (.cells #[.slice ar L.length cr, .slice br S.length dr, .slice none 0 0, .int .i64 3, .int .i64 0] 68)
  have R0 : IdO ((w.alloc (.cells #[.slice none 0 0, .int .i64 0, .int .i64 0] 28)).alloc (.cells #[.slice ar L.length cr, .slice br S.length dr, .slice none 0 0, .int .i64 3, .int .i64 0] 68)) w.heap.size (.slice none 0 0) 0 0 := IdO.kept (w := w.alloc (.cells #[.slice none 0 0, .int .i64 0, .int .i64 0] 28)) (by refine ⟨?_, ?_, ?_⟩ <;> simp) (below1 _ _)
  have F0 : FreeX ((w.alloc (.cells #[.slice none 0 0, .int .i64 0, .int .i64 0] 28)).alloc (.cells #[.slice ar L.length cr, .slice br S.length dr, .slice none 0 0, .int .i64 3, .int .i64 0] 68)) w.heap.size := FreeX.kept (w := w.alloc (.cells #[.slice none 0 0, .int .i64 0, .int .i64 0] 28)) (fun i => by simp) (by simp) (below1 _ _)
  have St0 : SeSt ((w.alloc (.cells #[.slice none 0 0, .int .i64 0, .int .i64 0] 28)).alloc (.cells #[.slice ar L.length cr, .slice br S.length dr, .slice none 0 0, .int .i64 3, .int .i64 0] 68)) (w.heap.size + 1) L S ar br cr dr ⟨[], 3, 0⟩ := by
    refine ⟨⟨.slice none 0 0, ?_, World.ownsRow_nil _ _ _ _⟩, ?_, hS.kept B0, hD.kept B0, fun y e => by have := hA y e; omega, fun y e => by have := hB y e; omega⟩
    · refine ⟨?_, ?_, ?_, ?_, ?_⟩ <;> simp
    · intro i; simp
  have cM := hide (from_all L S ar br cr dr (w.heap.size + 1) hk hsp hdr hd9 S.length [] ⟨[], 3, 0⟩ none 0 _ (by simp) (fun i hi => absurd hi (by simp)) (by have h6 := (spots_ok hsp).1; have : 13 ^ S.length ≤ 13 ^ 6 := Nat.pow_le_pow_right (by decide) h6; simp only; omega) (by decide) (fun _ => rfl) (.inl ⟨rfl, rfl⟩) St0)
  have HB := hide B0
  have HR := hide R0
  have HF := hide F0
  have hsz : ((w.alloc (.cells #[.slice none 0 0, .int .i64 0, .int .i64 0] 28)).alloc (.cells #[.slice ar L.length cr, .slice br S.length dr, .slice none 0 0, .int .i64 3, .int .i64 0] 68)).heap.size = w.heap.size + 2 := by simp
  clear B0 R0 F0 St0 hS hD hA hB
  go_enter Tryd.func19, Tryd.ntmps19
  go_wp2_with fail
  generalize hW : (w.alloc (.cells #[.slice none 0 0, .int .i64 0, .int .i64 0] 28)).alloc (.cells #[.slice ar L.length cr, .slice br S.length dr, .slice none 0 0, .int .i64 3, .int .i64 0] 68) = W at *
  clear hW
  refine (unhide cM).mono ?_
  rintro e w1 ⟨⟨ve, rfl⟩, hS1, hG1⟩
  have HI : Hid (fromN (fitF L S) (L.map (·.1)) S.length [] ⟨[], 3, 0⟩ = idR L S) := hide rfl
  rw [unhide HI] at hS1
  have B1 : Hid (Below w.heap.size w w1) := hide ((unhide HB).trans ⟨hG1.os, hG1.tape, hG1.output, by have := hG1.size; omega, fun k hk' => hG1.block k (by omega) (fun e => by have := Option.some.inj e; omega)⟩)
  have R1 := hide ((unhide HR).grown hG1 (fun e => by have := Option.some.inj e; omega))
  have F1 := hide ((unhide HF).grown (by omega) hG1 (fun e => by have := Option.some.inj e; omega))
  obtain ⟨⟨vb, h1, h2⟩, hf, hs, hd, a1, a2⟩ := hS1
  have O1 := hide h2
  obtain ⟨av, cv, rfl⟩ := own_form h2
  have H1 := hide h1
  clear hf hs hd a1 a2 h2 hG1 HB HR HF cM
  have hO1 : (idR L S).many = 0 → Hid (idIds L S = [] ∧ idCnt L S = 0 ∧ idCode L S = 6) := fun h => hide (by unfold idIds idCnt idCode; rw [if_neg (by omega), if_neg (by omega), if_pos h]; exact ⟨rfl, rfl, rfl⟩)
  have hO2 : 1 < (idR L S).many → Hid (idIds L S = [] ∧ idCnt L S = 0 ∧ idCode L S = 11) := fun h => hide (by unfold idIds idCnt idCode; rw [if_neg (by omega), if_neg (by omega), if_neg (by omega), if_pos h]; exact ⟨rfl, rfl, rfl⟩)
  have hO3 : (idR L S).many = 1 → Hid (idIds L S = (idR L S).best ∧ idCnt L S = ((idR L S).count : Int) ∧ idCode L S = 0) := fun h => hide (by unfold idIds idCnt idCode; rw [if_pos h, if_pos h, if_neg (by omega), if_neg (by omega)]; exact ⟨rfl, rfl, rfl⟩)
  generalize idR L S = s at *
  obtain ⟨bst, ct, mn⟩ := s
  dsimp only at h1 O1 hO1 hO2 hO3
  obtain ⟨c0, c1, c2, c3, c4⟩ := h1
  obtain ⟨r0, r1, r2⟩ := unhide R1
  have f0 := unhide F1 0
  have f1 := unhide F1 1
  have f2 := unhide F1 2
  by_cases m0 : mn = 0
  · have HO := hO1 m0
    subst m0
    clear hO1 hO2 hO3
    go_wp2_with fail
    clear c0 c1 c2 c3 c4 r0 r1 r2 f0 f1 f2
    refine bodyPost_ret (v := .agg #[.slice none 0 0, .int .i64 0, .int .i64 6]) (res_l06 _ _ w.heap.size _ 0 6 rfl (idO_set (unhide R1) _ _ _)) rfl ⟨?_, ((((unhide B1).setCell (Nat.le_refl _) _).setCell (Nat.le_refl _) _).setCell (Nat.le_refl _) _)⟩
    rw [(unhide HO).1, (unhide HO).2.1, (unhide HO).2.2]
    exact ⟨_, rfl, World.ownsRow_nil _ _ _ _⟩
  by_cases m1 : 1 < mn
  · have HO := hO2 m1
    have m0' : ¬ (mn : Int) = 0 := by omega
    have m1' : (1 : Int) < (mn : Int) := by omega
    clear hO1 hO2 hO3
    go_wp2_with fail
    clear c0 c1 c2 c3 c4 r0 r1 r2 f0 f1 f2
    refine bodyPost_ret (v := .agg #[.slice none 0 0, .int .i64 0, .int .i64 11]) (res_l06 _ _ w.heap.size _ 0 11 rfl (idO_set (unhide R1) _ _ _)) rfl ⟨?_, ((((unhide B1).setCell (Nat.le_refl _) _).setCell (Nat.le_refl _) _).setCell (Nat.le_refl _) _)⟩
    rw [(unhide HO).1, (unhide HO).2.1, (unhide HO).2.2]
    exact ⟨_, rfl, World.ownsRow_nil _ _ _ _⟩
  · obtain rfl : mn = 1 := by omega
    have HO := hO3 rfl
    clear hO1 hO2 hO3 m0 m1
    go_wp2_with fail
    refine wp_region_held_drew (S := (fun w' => w'.cell? ⟨w.heap.size + 1, 2, none⟩ = some (.slice av bst.length cv) ∧ w'.cell? ⟨w.heap.size + 1, 3, none⟩ = some (.int .i64 (ct : Int)))) (by kernel_rfl) ?_ (fun hHeld => ?_)
    · exact ⟨c2, c3⟩
    refine wpAnyH_take (i := 0) (v := ?_) rfl (by kernel_rfl) (by kernel_rfl) (by kernel_rfl) (fun _ _ _ h => h) (Or.inl ⟨by rfl, ?_⟩) (by assumption) ?_
    rotate_left
    · intro W0 hSw; (try dsimp only at hSw); go_simp <;> with_reducible rfl
    try simp only [Act.put, List.setIfInBounds_toArray, List.set_cons_zero, List.set_cons_succ]
    refine wpAnyH_take (i := 1) (v := ?_) rfl (by kernel_rfl) (by kernel_rfl) (by kernel_rfl) (fun _ _ _ h => h) (Or.inl ⟨by rfl, ?_⟩) (by assumption) ?_
    rotate_left
    · intro W0 hSw; (try dsimp only at hSw); go_simp <;> with_reducible rfl
    try simp only [Act.put, List.setIfInBounds_toArray, List.set_cons_zero, List.set_cons_succ]
    refine wpAnyH_take (i := 2) (v := ?_) rfl (by kernel_rfl) (by kernel_rfl) (by kernel_rfl) (fun _ _ _ h => h) (Or.inl ⟨by rfl, ?_⟩) (by assumption) ?_
    rotate_left
    · intro W0 hSw; (try dsimp only at hSw); go_simp <;> with_reducible rfl
    try simp only [Act.put, List.setIfInBounds_toArray, List.set_cons_zero, List.set_cons_succ]
    refine wpAnyH_take (i := 3) (v := ?_) rfl (by kernel_rfl) (by kernel_rfl) (by kernel_rfl) (fun _ _ _ h => h) (Or.inl ⟨by rfl, ?_⟩) (by assumption) ?_
    rotate_left
    · intro W0 hSw; (try dsimp only at hSw); go_simp <;> with_reducible rfl
    try simp only [Act.put, List.setIfInBounds_toArray, List.set_cons_zero, List.set_cons_succ]
    refine wpAnyH_take (i := 4) (v := ?_) rfl (by kernel_rfl) (by kernel_rfl) (by kernel_rfl) (fun _ _ _ h => h) (Or.inl ⟨by rfl, ?_⟩) (by assumption) ?_
    rotate_left
    · intro W0 hSw; (try dsimp only at hSw); go_simp <;> with_reducible rfl
    try simp only [Act.put, List.setIfInBounds_toArray, List.set_cons_zero, List.set_cons_succ]
    refine wpAnyH_take (i := 5) (v := ?_) rfl (by kernel_rfl) (by kernel_rfl) (by kernel_rfl) (fun _ _ _ h => h) (Or.inl ⟨by rfl, ?_⟩) (by assumption) ?_
    rotate_left
    · intro W0 hSw; (try dsimp only at hSw); go_simp <;> with_reducible rfl
    try simp only [Act.put, List.setIfInBounds_toArray, List.set_cons_zero, List.set_cons_succ]
    refine wpAnyH_take (i := 6) (v := ?_) rfl (by kernel_rfl) (by kernel_rfl) (by kernel_rfl) (fun _ _ _ h => h) (Or.inl ⟨by rfl, ?_⟩) (by assumption) ?_
    rotate_left
    · intro W0 hSw; (try dsimp only at hSw); go_simp <;> with_reducible rfl
    try simp only [Act.put, List.setIfInBounds_toArray, List.set_cons_zero, List.set_cons_succ]
    refine wpAnyH_take (i := 7) (v := ?_) rfl (by kernel_rfl) (by kernel_rfl) (by kernel_rfl) (fun _ _ _ h => h) (Or.inl ⟨by rfl, ?_⟩) (by assumption) ?_
    rotate_left
    · intro W0 hSw; (try dsimp only at hSw); go_simp <;> with_reducible rfl
    try simp only [Act.put, List.setIfInBounds_toArray, List.set_cons_zero, List.set_cons_succ]
    refine wpAnyH_take (i := 8) (v := ?_) rfl (by kernel_rfl) (by kernel_rfl) (by kernel_rfl) (fun _ _ _ h => h) (Or.inl ⟨by rfl, ?_⟩) (by assumption) ?_
    rotate_left
    · intro W0 hSw; (try dsimp only at hSw); go_simp <;> with_reducible rfl
    try simp only [Act.put, List.setIfInBounds_toArray, List.set_cons_zero, List.set_cons_succ]
    have R1d : IdO w1.drew w.heap.size (.slice none 0 0) 0 0 := unhide R1
    have F1d : FreeX w1.drew w.heap.size := unhide F1
    have B1d : Below w.heap.size w w1.drew := (unhide B1).drew
    have O1d := ownK (unhide O1) (Below.refl w1.heap.size w1).drew
    have d2 : w1.drew.cell? ⟨w.heap.size + 1, 2, none⟩ = some (.slice av bst.length cv) := c2
    have d3 : w1.drew.cell? ⟨w.heap.size + 1, 3, none⟩ = some (.int .i64 (ct : Int)) := c3
    generalize hV : w1.drew = V at *
    clear hV c0 c1 c2 c3 c4 r0 r1 r2 f0 f1 f2
    obtain ⟨r0, r1, r2⟩ := R1d
    have f0 := F1d 0
    have f1 := F1d 1
    have f2 := F1d 2
    refine wpAnyH_ready (rs := [9]) (by kernel_rfl) (by simp) ?_
    refine AllReadyH.cons rfl (fun K hK => ?_) AllReadyH.nil
    go_simp
    refine hK.out _ _ ?_ (fun hHeld1 => ?_)
    · refine ⟨?_, ?_⟩
      · rw [World.cell?_setCell_far _ _ _ _ (by show w.heap.size ≠ w.heap.size + 1; omega), World.cell?_setCell_far _ _ _ _ (by show w.heap.size ≠ w.heap.size + 1; omega), World.cell?_setCell_far _ _ _ _ (by show w.heap.size ≠ w.heap.size + 1; omega)]
        exact d2
      · rw [World.cell?_setCell_far _ _ _ _ (by show w.heap.size ≠ w.heap.size + 1; omega), World.cell?_setCell_far _ _ _ _ (by show w.heap.size ≠ w.heap.size + 1; omega), World.cell?_setCell_far _ _ _ _ (by show w.heap.size ≠ w.heap.size + 1; omega)]
        exact d3
    clear hK K hHeld
    refine wpAnyH_done (by kernel_rfl) ?_ _
    clear hHeld1
    go_wp2_with fail
    refine bodyPost_ret (v := .agg #[.slice av bst.length cv, .int .i64 (ct : Int), .int .i64 0]) (res_l06 _ _ w.heap.size _ (ct : Int) 0 rfl (idO_set ⟨r0, r1, r2⟩ _ _ _)) rfl ⟨?_, (((B1d.setCell (Nat.le_refl _) _).setCell (Nat.le_refl _) _).setCell (Nat.le_refl _) _)⟩
    rw [(unhide HO).1, (unhide HO).2.1, (unhide HO).2.2]
    exact ⟨_, rfl, oLower (ownFarI (ownFarI (ownFarI O1d (by omega) _ _) (by omega) _ _) (by omega) _ _) (by omega)⟩
end Go.Proofs.YtjdehbpgdplolaaDoor
