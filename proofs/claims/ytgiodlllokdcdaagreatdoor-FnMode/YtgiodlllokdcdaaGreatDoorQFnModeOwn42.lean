/- Several texts in one: FmM, DrL, DrM. -/
import Derived.Test.YtgiodlllokdcdaaGreatDoorQFnModeOwn10
import Derived.Test.YtgiodlllokdcdaaGreatDoorQFnModeOwn34
import Derived.Test.YtgiodlllokdcdaaGreatDoorQFnModeOwn37
import Derived.Test.YtgiodlllokdcdaaGreatDoorQFnModeOwn38
import Derived.Test.YtgiodlllokdcdaaGreatDoorQFnModeOwn12
import Derived.Test.YtgiodlllokdcdaaGreatDoorQFnModeOwn41
import Derived.Test.YtgiodlllokdcdaaGreatDoorQFnModeOwn1
namespace Go.Proofs.YtgiodlllokdcdaaGreatDoor
set_option linter.unusedVariables false
set_option linter.unusedSimpArgs false
set_option maxRecDepth 100000
set_option maxHeartbeats 8000000
section
open Go.RowKit
theorem un {L : List St} {id : Int} (hz : eO (atV L L.length id) = false) : ∃ i, i < L.length ∧ atV L L.length id = (stA L i).2 := by
 unfold atV at hz ⊢
 cases hf : (List.range L.length).find? (fun j => decide ((stA L j).1 = id)) with
 | none =>
  rw [hf] at hz
  exact absurd (show eO (0, 0, 0) = false from hz) (by decide)
 | some j =>
  exact ⟨j, List.mem_range.1 (List.mem_of_find?_eq_some hf), rfl⟩
theorem qy {L : List St} {S : List D3} {ids : List Int} {t : T4} (hn : be L S ids = true) (ht : aC t.1 t.2.1 t.2.2.1 t.2.2.2 = true) {j : Nat} (hj : j < ids.length) (h0 : ids.getD j 0 ≠ 0) (hb : bQ t (bn L S ids j) = true) : de L t.1 t.2.1 t.2.2.1 t.2.2.2 (vA S j) L.length ≠ 0 := by
 obtain ⟨h1, h2, h3, h4⟩ := dm hn
 have hs := (lW hn hj h0).1
 obtain ⟨i, hi, e⟩ := un (qi hs)
 unfold bQ bn at hb
 have hb2 : bg (vA S j) (apD t.1 t.2.1 t.2.2.1 t.2.2.2 (stA L i).2) = true := by rw [← e]; exact hb
 rw [tF h1 ht hb2 L.length hi (Nat.le_refl _)]
 exact tG h1 hi
theorem oV {L : List St} {S : List D3} {ids : List Int} {t : T4} (hn : be L S ids = true) (ht : aC t.1 t.2.1 t.2.2.1 t.2.2.2 = true) (he : bN (au L S ids ids.length) t = true) : (au L S ids ids.length).length ≤ aJ (aV L t.1 t.2.1 t.2.2.1 t.2.2.2 S) := by
 obtain ⟨h1, h2, h3, h4⟩ := dm hn
 rw [jW h1 ht h2]
 have hl : (S.map (fun v => de L t.1 t.2.1 t.2.2.1 t.2.2.2 v L.length)).length = ids.length := by rw [List.length_map, h3]
 rw [← nR] at he
 have : ∀ k, k ≤ ids.length → (au L S ids k).length ≤ aJ ((S.map (fun v => de L t.1 t.2.1 t.2.2.1 t.2.2.2 v L.length)).take k) := by
  intro k
  induction k with
  | zero => intro _; exact Nat.le_refl _
  | succ k ih =>
   intro hk
   have hk' : k < ids.length := hk
   rw [jF, ie _ (by rw [hl]; exact hk')]
   have e : (S.map (fun v => de L t.1 t.2.1 t.2.2.1 t.2.2.2 v L.length)).getD k 0 = de L t.1 t.2.1 t.2.2.1 t.2.2.2 (vA S k) L.length := by
    unfold vA
    rw [List.getD_eq_getElem?_getD, List.getElem?_map, List.getElem?_eq_getElem (show k < S.length by omega), List.getD_eq_getElem?_getD, List.getElem?_eq_getElem (show k < S.length by omega)]
    rfl
   have := ih (by omega)
   by_cases h0 : ids.getD k 0 = 0
   ·rw [if_neg (by rw [h0]; exact fun h => h rfl)]
    omega
   ·have hb := List.all_eq_true.1 he k (List.mem_range.2 hk')
    rw [decide_eq_false h0, Bool.false_or] at hb
    rw [e, if_pos h0, if_pos (qy hn ht hk' h0 hb)]
    omega
 have h := this ids.length (Nat.le_refl _)
 rw [List.take_of_length_le (by rw [hl]; exact Nat.le_refl _)] at h
 exact h
theorem sj {L : List St} {S : List D3} (h : (aP L S).2 = 0) : 2 ≤ aJ (aV L (aP L S).1.1 (aP L S).1.2.1 (aP L S).1.2.2.1 (aP L S).1.2.2.2 S) := by
 have hr := kz h
 revert hr
 unfold aP at h ⊢
 split at h
 ·rename_i hk
  rw [if_pos hk]
  intro hr
  unfold fH at h hr ⊢
  split at h
  ·cases h
  ·rename_i h4
   rw [if_neg h4] at hr ⊢
   split at h
   ·rename_i h5
    rw [if_pos h5] at hr ⊢
    split at h
    ·cases h
    ·rename_i h6
     rw [if_neg h6] at hr ⊢
     unfold dF at h hr ⊢
     split at h
     ·rename_i t ht
      try simp only [ht] at hr
      try simp only [ht]
      have he : bN (au L S (bB L S) (bB L S).length) t = true := List.find?_some ht
      have := oV h5 (t := t) hr he
      have h7 : ¬ (au L S (bB L S) (bB L S).length).length < 2 := h6
      exact Nat.le_trans (by omega) this
     ·cases h
   ·cases h
 ·rename_i hk
  exact absurd h hk
theorem look_ok {t : Tk} {S : List D3} (h : dP t S = 0) : ¬ 400 < S.length ∧ aG t = true ∧ aN S = true ∧ t.fr ≠ 1000000 ∧ bd t S = bS t S := by
 unfold dP at h
 split at h
 ·cases h
 ·rename_i h1
  split at h
  ·rename_i h2
   rw [Bool.and_eq_true] at h2
   split at h
   ·cases h
   ·rename_i h3
    exact ⟨h1, h2.1, h2.2, h3, (jv h1 h2.1 h2.2 h3).1⟩
  ·cases h
theorem lP {t : Tk} {S : List D3} (h : dP t S = 0) : aG (bd t S) = true := by
 obtain ⟨h1, h2, h3, h4, e⟩ := look_ok h
 rw [e]
 exact qL h2 S h4
theorem qp {t : Tk} (h1 : (aQ t).mode = 1) : t.mode = 1 ∧ False := by
 unfold aQ at h1
 split at h1
 ·rename_i h0
  omega
 ·split at h1
  ·cases h1
  ·cases h1
theorem tL {t : Tk} {S : List D3} (h : dP t S = 0) (hm : (bd t S).mode = 1) : 2 ≤ aJ (aV t.L (bd t S).A (bd t S).B (bd t S).C (bd t S).D S) := by
 obtain ⟨h1, h2, h3, h4, e⟩ := look_ok h
 rw [e] at hm ⊢
 unfold bS at hm ⊢
 by_cases c1 : t.mode ≠ 0 ∧ 2 ≤ aJ (aV t.L t.A t.B t.C t.D S)
 ·rw [if_pos c1]
  exact c1.2
 ·rw [if_neg c1] at hm ⊢
  by_cases c2 : (aP t.L S).2 = 0
  ·rw [if_pos c2]
   exact sj c2
  ·rw [if_neg c2] at hm
   exact (qp hm).2.elim
theorem sE (L : List St) (a b c d : Int) : aJ (aV L a b c d []) = 0 := by
 unfold aV
 split
 ·rfl
 ·rfl
theorem vn (L : List St) : (aP L []).2 ≠ 0 := by
 have e : bk L [] = 6 := rfl
 have hk : dg L [] ≠ 0 := by
  unfold dg
  by_cases h1 : 400 < L.length ∨ 400 < ([] : List D3).length
  ·rw [if_pos h1]; decide
  ·rw [if_neg h1]
   by_cases h2 : jV L [] = true
   ·rw [if_pos h2, e]; decide
   ·rw [if_neg h2]; decide
 unfold aP
 rw [if_neg hk]
 exact hk
theorem qK {t : Tk} (h : aG t = true) (hf : t.fr < 1000000) : dP t [] = 0 ∧ bd t [] = aQ { t with fr := t.fr + 1 } := by
 obtain ⟨e1, e2⟩ := jv (t := t) (S := []) (by simp) h rfl (by omega)
 refine ⟨e2, ?_⟩
 rw [e1]
 unfold bS
 rw [if_neg (by rw [sE]; omega), if_neg (vn _)]
structure kp (k0 k : Tk) (i : Nat) : Prop where
 right : aG k = true
 lim : k.lim = k0.lim
 coast : k.coast = (i : Int)
 mode : k.mode ≠ 0
theorem pn {k : Tk} (h : aG k = true) (h1 : k.mode = 1) : kp k k 0 := by
 have hm := gw h
 rw [gq h1, Bool.and_eq_true] at hm
 exact ⟨h, rfl, of_decide_eq_true hm.2, by omega⟩
theorem qx {k0 k : Tk} {i : Nat} (h : kp k0 k i) (hf : k.fr < 1000000) : dP k [] = 0 ∧ (bd k []).L = k.L ∧ (bd k []).lim = k.lim ∧ aG (bd k []) = true ∧ (((i : Int) < k.lim ∧ (bd k []).mode = 2 ∧ kp k0 (bd k []) (i + 1)) ∨ (¬ (i : Int) < k.lim ∧ (bd k []).mode = 0)) := by
 obtain ⟨e1, e2⟩ := qK h.right hf
 have hk := lP e1
 have hL : (bd k []).L = k.L := by rw [e2, mE]
 have hc := h.coast
 have h0 := h.mode
 refine ⟨e1, hL, ?_, hk, ?_⟩
 ·rw [e2]
  unfold aQ
  split
  ·rfl
  ·split <;> rfl
 ·rw [e2] at hk ⊢
  by_cases hl : (i : Int) < k.lim
  ·refine .inl ⟨hl, ?_⟩
   have e : aQ { k with fr := k.fr + 1 } = { k with fr := k.fr + 1, mode := 2, coast := k.coast + 1 } := by
    unfold aQ
    rw [if_neg h0, if_neg (by show ¬ k.lim < k.coast + 1; omega)]
   rw [e] at hk ⊢
   exact ⟨rfl, hk, h.lim, by show k.coast + 1 = _; omega, by show (2 : Int) ≠ 0; omega⟩
  ·refine .inr ⟨hl, ?_⟩
   have e : aQ { k with fr := k.fr + 1 } = pS { k with fr := k.fr + 1 } := by
    unfold aQ
    rw [if_neg h0, if_pos (by show k.lim < k.coast + 1; omega)]
   rw [e]
   rfl
theorem qe {t : Tk} (h : eG t = 0) : aG (dZ t) = true := by
 unfold eG at h
 split at h
 ·rename_i h1
  unfold dZ
  rw [if_pos h1]
  exact lT h1
 ·cases h
theorem sM {L : List St} {lim : Int} (h : gu L lim = 0) : aG (fi L lim) = true := by
 unfold gu at h
 split at h
 ·cases h
 ·rename_i h1
  split at h
  ·rename_i h2
   unfold fi
   rw [if_neg h1, if_pos h2, nF]
   exact h2
  ·cases h
theorem tP (L : List St) (lim : Int) : (fi L lim).L.length ≤ L.length := by
 unfold fi
 split
 ·exact Nat.zero_le _
 ·split
  ·exact Nat.le_refl _
  ·exact Nat.zero_le _
theorem qT (t : Tk) : (dZ t).L.length ≤ t.L.length := by
 unfold dZ
 split
 ·exact Nat.le_refl _
 ·exact Nat.zero_le _
theorem sD (t : Tk) (S : List D3) : (bd t S).L.length ≤ t.L.length := by
 unfold bd
 split
 ·exact Nat.zero_le _
 ·split
  ·split
   ·exact Nat.zero_le _
   ·rw [oH]; exact Nat.le_refl _
  ·exact Nat.zero_le _
end
section
open Go.RowKit Go.Sort
theorem Row.upL {w w' : World} {a : Option Addr} {len B B' : Nat} (h : Row w a len B) (hB : B ≤ B') (hk : ∀ k, k < B → w'.heap[k]? = w.heap[k]?) : Row w' a len B' := by
 rcases h with h | ⟨b, o, rfl, hb, h⟩
 ·exact .inl h
 ·refine .inr ⟨b, o, rfl, Nat.lt_of_lt_of_le hb hB, fun i hi => ?_⟩
  obtain ⟨v, hv, h2⟩ := h i hi
  exact ⟨v, by rw [World.cell?_of_block (a := ⟨b, o + i, none⟩) (hk b hb)]; exact hv, h2⟩
theorem vz (T : Array Value) (X : World) (b c : Nat) (v0 v1 v2 v3 v4 v5 v6 v7 v8 u0 u1 u2 u3 : Value) (hT : T.getD 2 undef = .pointer (some ⟨b, 0, none⟩)) (hT3 : T.getD 3 undef = .pointer (some ⟨c, 0, none⟩)) (h : Blk X b [v0, v1, v2, v3, v4, v5, v6, v7, v8] 27) (g : Blk X c [u0, u1, u2, u3] 25) : (results Tryz.f7 T).run Tryz.prog X = .ok (.tuple #[.agg #[v0, v1, v2, v3, v4, v5, v6, v7, v8], .agg #[u0, u1, u2, u3]]) X := by
 obtain ⟨h0, h1, h2, h3, h4, h5, h6, h7, h8⟩ := dM (h)
 obtain ⟨g0, g1, g2, g3⟩ := bcs4 (g)
 simp only [Array.getD_eq_getD_getElem?] at hT hT3
 simp [results, Tryz.results7, go_sem, hT, hT3, h0, h1, h2, h3, h4, h5, h6, h7, h8, g0, g1, g2, g3]
theorem om (ca : Option Addr) (len cc : Nat) (w : World) (hl : len ≤ 1048576) (hR : Row w ca len w.heap.size) :
  Calls Tryz.prog 7 #[.slice ca len cc] w fun e w' => ∃ (t : Tk) (g1 g2 g3 g4 : Int) (a : Option Addr) (cap : Nat), e = .returned (.tuple #[.agg #[.slice a t.L.length cap, .int .i64 t.lim, .int .i64 t.mode, .int .i64 t.A, .int .i64 t.B, .int .i64 t.C, .int .i64 t.D, .int .i64 t.coast, .int .i64 t.fr], .agg #[.int .i64 g1, .int .i64 g2, .int .i64 g3, .int .i64 g4]]) ∧ t.L.length ≤ 400 ∧ aq w' w.heap.size t.L a cap ∧ Below w.heap.size w w' := by
 have Z := aM w (.cells #[.slice none 0 0, .int .i64 0, .int .i64 0, .int .i64 0, .int .i64 0, .int .i64 0, .int .i64 0, .int .i64 0, .int .i64 0] 27) (.cells #[.int .i64 0, .int .i64 0, .int .i64 0, .int .i64 0] 25)
 have HR := yz ((aD w [.slice none 0 0, .int .i64 0, .int .i64 0, .int .i64 0, .int .i64 0, .int .i64 0, .int .i64 0, .int .i64 0, .int .i64 0] 27).alloc (.cells #[.int .i64 0, .int .i64 0, .int .i64 0, .int .i64 0] 25))
 have HR2 : Hid (Blk ((w.alloc (.cells #[.slice none 0 0, .int .i64 0, .int .i64 0, .int .i64 0, .int .i64 0, .int .i64 0, .int .i64 0, .int .i64 0, .int .i64 0] 27)).alloc (.cells #[.int .i64 0, .int .i64 0, .int .i64 0, .int .i64 0] 25)) (w.heap.size + 1) [.int .i64 0, .int .i64 0, .int .i64 0, .int .i64 0] 25) := yz (by have h := aD (w.alloc (.cells #[.slice none 0 0, .int .i64 0, .int .i64 0, .int .i64 0, .int .i64 0, .int .i64 0, .int .i64 0, .int .i64 0, .int .i64 0] 27)) [.int .i64 0, .int .i64 0, .int .i64 0, .int .i64 0] 25; simpa using h)
 have hz : ((w.alloc (.cells #[.slice none 0 0, .int .i64 0, .int .i64 0, .int .i64 0, .int .i64 0, .int .i64 0, .int .i64 0, .int .i64 0, .int .i64 0] 27)).alloc (.cells #[.int .i64 0, .int .i64 0, .int .i64 0, .int .i64 0] 25)).heap.size = w.heap.size + 2 := by simp
 have cS := yz (gv ca len cc ((w.alloc (.cells #[.slice none 0 0, .int .i64 0, .int .i64 0, .int .i64 0, .int .i64 0, .int .i64 0, .int .i64 0, .int .i64 0, .int .i64 0] 27)).alloc (.cells #[.int .i64 0, .int .i64 0, .int .i64 0, .int .i64 0] 25)) hl (hR.upL Z.size Z.block))
 have HB := yz Z
 rw [hz] at cS
 clear hR Z
 go_enter Tryz.func7, Tryz.ntmps7
 go_upto_region 1 with fail
 generalize (w.alloc (.cells #[.slice none 0 0, .int .i64 0, .int .i64 0, .int .i64 0, .int .i64 0, .int .i64 0, .int .i64 0, .int .i64 0, .int .i64 0] 27)).alloc (.cells #[.int .i64 0, .int .i64 0, .int .i64 0, .int .i64 0] 25) = W0 at *
 go_wp2_with fail
 refine (yy cS).mono ?_
 rintro e W1 ⟨rfl, hS1, hx⟩
 rw [← hz] at hx
 have HR1 := yz ((yy HR).kept hx)
 have HR21 := yz ((yy HR2).kept hx)
 have HB1 := yz (aj (yy HB) hx)
 have HS1 := yz hS1
 clear hx hS1 HR HR2 HB cS hz
 go_wp2_with fail
 refine (fh (w.heap.size + 2) W1 (yy HS1)).mono ?_
 rintro e W2 ⟨t, u, a, cap, rfl, hlen, hC2, hS2, hg2⟩
 have hne : ∀ k, k < (w.heap.size + 2) → some k ≠ some (w.heap.size + 2) := fun k hk e => by have := Option.some.inj e; omega
 have HR2a := yz (ax (yy HR1) hg2 (hne _ (by omega)))
 have HR2b := yz (ax (yy HR21) hg2 (hne _ (by omega)))
 have HB2 := yz (bP (yy HB1) hg2 (yy HB1).size (fun q e => by have := Option.some.inj e; omega))
 have hy := aM W2 (.cells #[.slice a t.L.length cap, .int .i64 t.lim, .int .i64 t.mode, .int .i64 t.A, .int .i64 t.B, .int .i64 t.C, .int .i64 t.D, .int .i64 t.coast, .int .i64 t.fr] 27) (.cells #[.int .i64 u.1, .int .i64 u.2.1, .int .i64 u.2.2.1, .int .i64 u.2.2.2] 25)
 have HK := yz ((aD W2 [.slice a t.L.length cap, .int .i64 t.lim, .int .i64 t.mode, .int .i64 t.A, .int .i64 t.B, .int .i64 t.C, .int .i64 t.D, .int .i64 t.coast, .int .i64 t.fr] 27).alloc (.cells #[.int .i64 u.1, .int .i64 u.2.1, .int .i64 u.2.2.1, .int .i64 u.2.2.2] 25))
 have HR := yz ((yy HR2a).kept hy)
 have HR2 := yz ((yy HR2b).kept hy)
 have HC : Hid (aq _ W1.heap.size t.L a cap) := yz (hC2.kept hy)
 have hsW : (w.heap.size + 2) < W1.heap.size := (yy HS1).lt
 have hwW : w.heap.size ≤ W1.heap.size := (yy HB1).size
 have HB := yz (aj (yy HB2) hy)
 have HS := yz (hS2.below hy)
 have hks : (w.heap.size + 2) < W2.heap.size := hS2.lt
 clear hC2 hS2 hg2 hy HR1 HR21 HB1 HS1 HR2a HR2b HB2
 go_upto_region 3 with fail
 generalize (W2.alloc (.cells #[.slice a t.L.length cap, .int .i64 t.lim, .int .i64 t.mode, .int .i64 t.A, .int .i64 t.B, .int .i64 t.C, .int .i64 t.D, .int .i64 t.coast, .int .i64 t.fr] 27)).alloc (.cells #[.int .i64 u.1, .int .i64 u.2.1, .int .i64 u.2.2.1, .int .i64 u.2.2.2] 25) = W3 at *
 generalize W2.heap.size = kb at *
 have HKS : Hid (∀ w' : World, Blk w' kb [.slice a t.L.length cap, .int .i64 t.lim, .int .i64 t.mode, .int .i64 t.A, .int .i64 t.B, .int .i64 t.C, .int .i64 t.D, .int .i64 t.coast, .int .i64 t.fr] 27 → w'.cell? ⟨kb, 0, none⟩ = some (.slice a t.L.length cap) ∧ w'.cell? ⟨kb, 1, none⟩ = some (.int .i64 t.lim) ∧ w'.cell? ⟨kb, 2, none⟩ = some (.int .i64 t.mode) ∧ w'.cell? ⟨kb, 3, none⟩ = some (.int .i64 t.A) ∧ w'.cell? ⟨kb, 4, none⟩ = some (.int .i64 t.B) ∧ w'.cell? ⟨kb, 5, none⟩ = some (.int .i64 t.C) ∧ w'.cell? ⟨kb, 6, none⟩ = some (.int .i64 t.D) ∧ w'.cell? ⟨kb, 7, none⟩ = some (.int .i64 t.coast) ∧ w'.cell? ⟨kb, 8, none⟩ = some (.int .i64 t.fr)) := yz (fun w' hk => ⟨hk.cell 0 _ rfl, hk.cell 1 _ rfl, hk.cell 2 _ rfl, hk.cell 3 _ rfl, hk.cell 4 _ rfl, hk.cell 5 _ rfl, hk.cell 6 _ rfl, hk.cell 7 _ rfl, hk.cell 8 _ rfl⟩)
 refine wp_region_held_drew (S := (fun w' => w'.cell? ⟨kb, 0, none⟩ = some (.slice a t.L.length cap) ∧ w'.cell? ⟨kb, 1, none⟩ = some (.int .i64 t.lim) ∧ w'.cell? ⟨kb, 2, none⟩ = some (.int .i64 t.mode) ∧ w'.cell? ⟨kb, 3, none⟩ = some (.int .i64 t.A) ∧ w'.cell? ⟨kb, 4, none⟩ = some (.int .i64 t.B) ∧ w'.cell? ⟨kb, 5, none⟩ = some (.int .i64 t.C) ∧ w'.cell? ⟨kb, 6, none⟩ = some (.int .i64 t.D) ∧ w'.cell? ⟨kb, 7, none⟩ = some (.int .i64 t.coast) ∧ w'.cell? ⟨kb, 8, none⟩ = some (.int .i64 t.fr))) (by kernel_rfl) (yy HKS W3.drew (yy HK)) (fun hHeld => ?_)
 refine ab 0 rfl ?_
 try simp only [Act.put, ag, ah, ai]
 refine ab 1 rfl ?_
 try simp only [Act.put, ag, ah, ai]
 replace HR : Hid (Blk W3.drew _ _ _) := HR
 replace HR2 : Hid (Blk W3.drew _ _ _) := HR2
 replace HK : Hid (Blk W3.drew _ _ _) := HK
 replace HS := yz ((yy HS).below (Below.refl W3.heap.size W3).drew)
 replace HC := yz ((yy HC).kept (Below.refl W3.heap.size W3).drew)
 replace HB := yz (aj (yy HB) (Below.refl W3.heap.size W3).drew)
 obtain ⟨V0, HYY⟩ : ∃ YY, YY = W3.drew := ⟨_, rfl⟩
 rw [← HYY] at HR HR2 HK HS HC HB hHeld ⊢
 clear HYY
 refine ae 2 rfl fun K hK => ?_
 go_simp
 refine (fA (w.heap.size + 2) V0 (yy HS)).mono ?_
 rintro e V1 ⟨g1, g2, g3, g4, rfl, hS1, hg1⟩
 replace HR := yz (ax (yy HR) hg1 (hne _ (by omega)))
 replace HR2 := yz (ax (yy HR2) hg1 (hne _ (by omega)))
 replace HK := yz (ax (yy HK) hg1 (fun e => by have := Option.some.inj e; omega))
 replace HC : Hid (aq V1 W1.heap.size t.L a cap) := yz (World.ownsRow.kept (yy HC) hg1 (mq (yy HC) hsW))
 replace HB := yz (bP (yy HB) hg1 (yy HB).size (fun q e => by have := Option.some.inj e; omega))
 clear hS1 hg1 HS
 refine hK.out _ _ (yy HKS _ (yy HK)) (fun hHeld2 => ?_)
 clear hK K hHeld
 have hHeld := hHeld2
 clear hHeld2
 refine ae 3 rfl fun K hK => ?_
 obtain ⟨y0, y1, y2, y3, y4, y5, y6, y7, y8⟩ : V1.cell? ⟨w.heap.size, 0, none⟩ = some (.slice none 0 0) ∧ V1.cell? ⟨w.heap.size, 1, none⟩ = some (.int .i64 0) ∧ V1.cell? ⟨w.heap.size, 2, none⟩ = some (.int .i64 0) ∧ V1.cell? ⟨w.heap.size, 3, none⟩ = some (.int .i64 0) ∧ V1.cell? ⟨w.heap.size, 4, none⟩ = some (.int .i64 0) ∧ V1.cell? ⟨w.heap.size, 5, none⟩ = some (.int .i64 0) ∧ V1.cell? ⟨w.heap.size, 6, none⟩ = some (.int .i64 0) ∧ V1.cell? ⟨w.heap.size, 7, none⟩ = some (.int .i64 0) ∧ V1.cell? ⟨w.heap.size, 8, none⟩ = some (.int .i64 0) := ⟨(yy HR).cell 0 _ rfl, (yy HR).cell 1 _ rfl, (yy HR).cell 2 _ rfl, (yy HR).cell 3 _ rfl, (yy HR).cell 4 _ rfl, (yy HR).cell 5 _ rfl, (yy HR).cell 6 _ rfl, (yy HR).cell 7 _ rfl, (yy HR).cell 8 _ rfl⟩
 obtain ⟨z0, z1, z2, z3, z4, z5, z6, z7, z8⟩ : V1.frozen? ⟨w.heap.size, 0, none⟩ = false ∧ V1.frozen? ⟨w.heap.size, 1, none⟩ = false ∧ V1.frozen? ⟨w.heap.size, 2, none⟩ = false ∧ V1.frozen? ⟨w.heap.size, 3, none⟩ = false ∧ V1.frozen? ⟨w.heap.size, 4, none⟩ = false ∧ V1.frozen? ⟨w.heap.size, 5, none⟩ = false ∧ V1.frozen? ⟨w.heap.size, 6, none⟩ = false ∧ V1.frozen? ⟨w.heap.size, 7, none⟩ = false ∧ V1.frozen? ⟨w.heap.size, 8, none⟩ = false := ⟨(yy HR).free 0, (yy HR).free 1, (yy HR).free 2, (yy HR).free 3, (yy HR).free 4, (yy HR).free 5, (yy HR).free 6, (yy HR).free 7, (yy HR).free 8⟩
 have hraw := yy HR
 go_simp
 have hgq := eQ V1 (w.heap.size) (.slice a t.L.length cap) (.int .i64 t.lim) (.int .i64 t.mode) (.int .i64 t.A) (.int .i64 t.B) (.int .i64 t.C) (.int .i64 t.D) (.int .i64 t.coast) (.int .i64 t.fr)
 replace HR2 := yz (ax (yy HR2) hgq (fun e => by have h1 := Option.some.inj e; omega))
 replace HR := yz (kO (yy HR) (.slice a t.L.length cap) (.int .i64 t.lim) (.int .i64 t.mode) (.int .i64 t.A) (.int .i64 t.B) (.int .i64 t.C) (.int .i64 t.D) (.int .i64 t.coast) (.int .i64 t.fr))
 replace HK := yz (ax (yy HK) hgq (fun e => by have h1 := Option.some.inj e; omega))
 replace HC : Hid (aq _ W1.heap.size t.L a cap) := yz (World.ownsRow.kept (yy HC) hgq (bl (yy HC) hraw (by decide)))
 replace HB := yz (bP (yy HB) hgq (yy HB).size (fun q e => by have h1 := Option.some.inj e; omega))
 refine hK.out _ _ (yy HKS _ (yy HK)) (fun hHeld2 => ?_)
 clear hK K hHeld hgq hraw y0 y1 y2 y3 y4 y5 y6 y7 y8 z0 z1 z2 z3 z4 z5 z6 z7 z8
 have hHeld := hHeld2
 clear hHeld2
 generalize (((((((((V1.setCell ⟨w.heap.size, 0, none⟩ (.slice a t.L.length cap)).setCell ⟨w.heap.size, 1, none⟩ (.int .i64 t.lim)).setCell ⟨w.heap.size, 2, none⟩ (.int .i64 t.mode)).setCell ⟨w.heap.size, 3, none⟩ (.int .i64 t.A)).setCell ⟨w.heap.size, 4, none⟩ (.int .i64 t.B)).setCell ⟨w.heap.size, 5, none⟩ (.int .i64 t.C)).setCell ⟨w.heap.size, 6, none⟩ (.int .i64 t.D)).setCell ⟨w.heap.size, 7, none⟩ (.int .i64 t.coast)).setCell ⟨w.heap.size, 8, none⟩ (.int .i64 t.fr)) = V2 at *
 refine ae 4 rfl fun K hK => ?_
 obtain ⟨y0, y1, y2, y3⟩ : V2.cell? ⟨w.heap.size + 1, 0, none⟩ = some (.int .i64 0) ∧ V2.cell? ⟨w.heap.size + 1, 1, none⟩ = some (.int .i64 0) ∧ V2.cell? ⟨w.heap.size + 1, 2, none⟩ = some (.int .i64 0) ∧ V2.cell? ⟨w.heap.size + 1, 3, none⟩ = some (.int .i64 0) := ⟨(yy HR2).cell 0 _ rfl, (yy HR2).cell 1 _ rfl, (yy HR2).cell 2 _ rfl, (yy HR2).cell 3 _ rfl⟩
 obtain ⟨z0, z1, z2, z3⟩ : V2.frozen? ⟨w.heap.size + 1, 0, none⟩ = false ∧ V2.frozen? ⟨w.heap.size + 1, 1, none⟩ = false ∧ V2.frozen? ⟨w.heap.size + 1, 2, none⟩ = false ∧ V2.frozen? ⟨w.heap.size + 1, 3, none⟩ = false := ⟨(yy HR2).free 0, (yy HR2).free 1, (yy HR2).free 2, (yy HR2).free 3⟩
 have hraw := yy HR2
 go_simp
 have hgq := qF V2 (w.heap.size + 1) (.int .i64 g1) (.int .i64 g2) (.int .i64 g3) (.int .i64 g4)
 replace HR := yz (ax (yy HR) hgq (fun e => by have h1 := Option.some.inj e; omega))
 replace HR2 := yz (vi (yy HR2) (.int .i64 g1) (.int .i64 g2) (.int .i64 g3) (.int .i64 g4))
 replace HK := yz (ax (yy HK) hgq (fun e => by have h1 := Option.some.inj e; omega))
 replace HC : Hid (aq _ W1.heap.size t.L a cap) := yz (World.ownsRow.kept (yy HC) hgq (bl (yy HC) hraw (by decide)))
 replace HB := yz (bP (yy HB) hgq (yy HB).size (fun q e => by have h1 := Option.some.inj e; omega))
 refine hK.out _ _ (yy HKS _ (yy HK)) (fun hHeld2 => ?_)
 clear hK K hHeld hgq hraw y0 y1 y2 y3 z0 z1 z2 z3
 have hHeld := hHeld2
 clear hHeld2
 refine wpAnyH_done (by kernel_rfl) ?_ _
 clear hHeld
 go_wp2_with fail
 refine bodyPost_ret (v := .tuple #[.agg #[.slice a t.L.length cap, .int .i64 t.lim, .int .i64 t.mode, .int .i64 t.A, .int .i64 t.B, .int .i64 t.C, .int .i64 t.D, .int .i64 t.coast, .int .i64 t.fr], .agg #[.int .i64 g1, .int .i64 g2, .int .i64 g3, .int .i64 g4]]) (vz _ _ w.heap.size (w.heap.size + 1) _ _ _ _ _ _ _ _ _ _ _ _ _ rfl rfl (yy HR) (yy HR2)) rfl ⟨t, g1, g2, g3, g4, a, cap, rfl, hlen, World.ownsRow.mono (yy HC) hwW, yy HB⟩
theorem vB (T : Array Value) (X : World) (b : Nat) (v0 v1 v2 v3 v4 v5 v6 v7 v8 : Value) (hT : T.getD 2 undef = .pointer (some ⟨b, 0, none⟩)) (h : Blk X b [v0, v1, v2, v3, v4, v5, v6, v7, v8] 27) : (results Tryz.f33 T).run Tryz.prog X = .ok (.agg #[v0, v1, v2, v3, v4, v5, v6, v7, v8]) X := by
 obtain ⟨h0, h1, h2, h3, h4, h5, h6, h7, h8⟩ := dM (h)
 simp only [Array.getD_eq_getD_getElem?] at hT
 simp [results, Tryz.results33, go_sem, hT, h0, h1, h2, h3, h4, h5, h6, h7, h8]
theorem gH (ca : Option Addr) (len cc : Nat) (w : World) (hl : len ≤ 1048576) (hR : Row w ca len w.heap.size) :
  Calls Tryz.prog 33 #[.slice ca len cc] w fun e w' => ∃ (t : Tk) (a : Option Addr) (cap : Nat), e = .returned (.agg #[.slice a t.L.length cap, .int .i64 t.lim, .int .i64 t.mode, .int .i64 t.A, .int .i64 t.B, .int .i64 t.C, .int .i64 t.D, .int .i64 t.coast, .int .i64 t.fr]) ∧ t.L.length ≤ 400 ∧ aq w' w.heap.size t.L a cap ∧ Below w.heap.size w w' := by
 have Z := an w (.cells #[.slice none 0 0, .int .i64 0, .int .i64 0, .int .i64 0, .int .i64 0, .int .i64 0, .int .i64 0, .int .i64 0, .int .i64 0] 27)
 have HR := yz (aD w [.slice none 0 0, .int .i64 0, .int .i64 0, .int .i64 0, .int .i64 0, .int .i64 0, .int .i64 0, .int .i64 0, .int .i64 0] 27)
 have hz : (w.alloc (.cells #[.slice none 0 0, .int .i64 0, .int .i64 0, .int .i64 0, .int .i64 0, .int .i64 0, .int .i64 0, .int .i64 0, .int .i64 0] 27)).heap.size = w.heap.size + 1 := by simp
 have cS := yz (gv ca len cc (w.alloc (.cells #[.slice none 0 0, .int .i64 0, .int .i64 0, .int .i64 0, .int .i64 0, .int .i64 0, .int .i64 0, .int .i64 0, .int .i64 0] 27)) hl (hR.upL Z.size Z.block))
 have HB := yz Z
 rw [hz] at cS
 clear hR Z
 go_enter Tryz.func33, Tryz.ntmps33
 go_upto_region 1 with fail
 generalize w.alloc (.cells #[.slice none 0 0, .int .i64 0, .int .i64 0, .int .i64 0, .int .i64 0, .int .i64 0, .int .i64 0, .int .i64 0, .int .i64 0] 27) = W0 at *
 go_wp2_with fail
 refine (yy cS).mono ?_
 rintro e W1 ⟨rfl, hS1, hx⟩
 rw [← hz] at hx
 have HR1 := yz ((yy HR).kept hx)
 have HB1 := yz (aj (yy HB) hx)
 have HS1 := yz hS1
 clear hx hS1 HR HB cS hz
 go_wp2_with fail
 refine (fh (w.heap.size + 1) W1 (yy HS1)).mono ?_
 rintro e W2 ⟨t, u, a, cap, rfl, hlen, hC2, hS2, hg2⟩
 have hne : ∀ k, k < (w.heap.size + 1) → some k ≠ some (w.heap.size + 1) := fun k hk e => by have := Option.some.inj e; omega
 have HR2a := yz (ax (yy HR1) hg2 (hne _ (by omega)))
 have HB2 := yz (bP (yy HB1) hg2 (yy HB1).size (fun q e => by have := Option.some.inj e; omega))
 have hy := aM W2 (.cells #[.slice a t.L.length cap, .int .i64 t.lim, .int .i64 t.mode, .int .i64 t.A, .int .i64 t.B, .int .i64 t.C, .int .i64 t.D, .int .i64 t.coast, .int .i64 t.fr] 27) (.cells #[.int .i64 u.1, .int .i64 u.2.1, .int .i64 u.2.2.1, .int .i64 u.2.2.2] 25)
 have HK := yz ((aD W2 [.slice a t.L.length cap, .int .i64 t.lim, .int .i64 t.mode, .int .i64 t.A, .int .i64 t.B, .int .i64 t.C, .int .i64 t.D, .int .i64 t.coast, .int .i64 t.fr] 27).alloc (.cells #[.int .i64 u.1, .int .i64 u.2.1, .int .i64 u.2.2.1, .int .i64 u.2.2.2] 25))
 have HU : Hid (Blk ((W2.alloc (.cells #[.slice a t.L.length cap, .int .i64 t.lim, .int .i64 t.mode, .int .i64 t.A, .int .i64 t.B, .int .i64 t.C, .int .i64 t.D, .int .i64 t.coast, .int .i64 t.fr] 27)).alloc (.cells #[.int .i64 u.1, .int .i64 u.2.1, .int .i64 u.2.2.1, .int .i64 u.2.2.2] 25)) (W2.heap.size + 1) [.int .i64 u.1, .int .i64 u.2.1, .int .i64 u.2.2.1, .int .i64 u.2.2.2] 25) := yz (by have h := aD (W2.alloc (.cells #[.slice a t.L.length cap, .int .i64 t.lim, .int .i64 t.mode, .int .i64 t.A, .int .i64 t.B, .int .i64 t.C, .int .i64 t.D, .int .i64 t.coast, .int .i64 t.fr] 27)) [.int .i64 u.1, .int .i64 u.2.1, .int .i64 u.2.2.1, .int .i64 u.2.2.2] 25; simpa using h)
 have HR := yz ((yy HR2a).kept hy)
 have HC : Hid (aq _ W1.heap.size t.L a cap) := yz (hC2.kept hy)
 have hsW : (w.heap.size + 1) < W1.heap.size := (yy HS1).lt
 have hwW : w.heap.size ≤ W1.heap.size := (yy HB1).size
 have HB := yz (aj (yy HB2) hy)
 have HS := yz (hS2.below hy)
 have hks : (w.heap.size + 1) < W2.heap.size := hS2.lt
 have hzz : ((W2.alloc (.cells #[.slice a t.L.length cap, .int .i64 t.lim, .int .i64 t.mode, .int .i64 t.A, .int .i64 t.B, .int .i64 t.C, .int .i64 t.D, .int .i64 t.coast, .int .i64 t.fr] 27)).alloc (.cells #[.int .i64 u.1, .int .i64 u.2.1, .int .i64 u.2.2.1, .int .i64 u.2.2.2] 25)).heap.size = W2.heap.size + 2 := by simp
 clear hC2 hS2 hg2 hy HR1 HB1 HS1 HR2a HB2
 go_upto_region 2 with fail
 generalize (W2.alloc (.cells #[.slice a t.L.length cap, .int .i64 t.lim, .int .i64 t.mode, .int .i64 t.A, .int .i64 t.B, .int .i64 t.C, .int .i64 t.D, .int .i64 t.coast, .int .i64 t.fr] 27)).alloc (.cells #[.int .i64 u.1, .int .i64 u.2.1, .int .i64 u.2.2.1, .int .i64 u.2.2.2] 25) = W3 at *
 generalize W2.heap.size = kb at *
 obtain ⟨k0, k1, k2, k3, k4, k5, k6, k7, k8⟩ : W3.cell? ⟨kb, 0, none⟩ = some (.slice a t.L.length cap) ∧ W3.cell? ⟨kb, 1, none⟩ = some (.int .i64 t.lim) ∧ W3.cell? ⟨kb, 2, none⟩ = some (.int .i64 t.mode) ∧ W3.cell? ⟨kb, 3, none⟩ = some (.int .i64 t.A) ∧ W3.cell? ⟨kb, 4, none⟩ = some (.int .i64 t.B) ∧ W3.cell? ⟨kb, 5, none⟩ = some (.int .i64 t.C) ∧ W3.cell? ⟨kb, 6, none⟩ = some (.int .i64 t.D) ∧ W3.cell? ⟨kb, 7, none⟩ = some (.int .i64 t.coast) ∧ W3.cell? ⟨kb, 8, none⟩ = some (.int .i64 t.fr) := ⟨(yy HK).cell 0 _ rfl, (yy HK).cell 1 _ rfl, (yy HK).cell 2 _ rfl, (yy HK).cell 3 _ rfl, (yy HK).cell 4 _ rfl, (yy HK).cell 5 _ rfl, (yy HK).cell 6 _ rfl, (yy HK).cell 7 _ rfl, (yy HK).cell 8 _ rfl⟩
 obtain ⟨y0, y1, y2, y3, y4, y5, y6, y7, y8⟩ : W3.cell? ⟨w.heap.size, 0, none⟩ = some (.slice none 0 0) ∧ W3.cell? ⟨w.heap.size, 1, none⟩ = some (.int .i64 0) ∧ W3.cell? ⟨w.heap.size, 2, none⟩ = some (.int .i64 0) ∧ W3.cell? ⟨w.heap.size, 3, none⟩ = some (.int .i64 0) ∧ W3.cell? ⟨w.heap.size, 4, none⟩ = some (.int .i64 0) ∧ W3.cell? ⟨w.heap.size, 5, none⟩ = some (.int .i64 0) ∧ W3.cell? ⟨w.heap.size, 6, none⟩ = some (.int .i64 0) ∧ W3.cell? ⟨w.heap.size, 7, none⟩ = some (.int .i64 0) ∧ W3.cell? ⟨w.heap.size, 8, none⟩ = some (.int .i64 0) := ⟨(yy HR).cell 0 _ rfl, (yy HR).cell 1 _ rfl, (yy HR).cell 2 _ rfl, (yy HR).cell 3 _ rfl, (yy HR).cell 4 _ rfl, (yy HR).cell 5 _ rfl, (yy HR).cell 6 _ rfl, (yy HR).cell 7 _ rfl, (yy HR).cell 8 _ rfl⟩
 obtain ⟨z0, z1, z2, z3, z4, z5, z6, z7, z8⟩ : W3.frozen? ⟨w.heap.size, 0, none⟩ = false ∧ W3.frozen? ⟨w.heap.size, 1, none⟩ = false ∧ W3.frozen? ⟨w.heap.size, 2, none⟩ = false ∧ W3.frozen? ⟨w.heap.size, 3, none⟩ = false ∧ W3.frozen? ⟨w.heap.size, 4, none⟩ = false ∧ W3.frozen? ⟨w.heap.size, 5, none⟩ = false ∧ W3.frozen? ⟨w.heap.size, 6, none⟩ = false ∧ W3.frozen? ⟨w.heap.size, 7, none⟩ = false ∧ W3.frozen? ⟨w.heap.size, 8, none⟩ = false := ⟨(yy HR).free 0, (yy HR).free 1, (yy HR).free 2, (yy HR).free 3, (yy HR).free 4, (yy HR).free 5, (yy HR).free 6, (yy HR).free 7, (yy HR).free 8⟩
 have hgq := eQ W3 (w.heap.size) (.slice a t.L.length cap) (.int .i64 t.lim) (.int .i64 t.mode) (.int .i64 t.A) (.int .i64 t.B) (.int .i64 t.C) (.int .i64 t.D) (.int .i64 t.coast) (.int .i64 t.fr)
 have HRn := yz (kO (yy HR) (.slice a t.L.length cap) (.int .i64 t.lim) (.int .i64 t.mode) (.int .i64 t.A) (.int .i64 t.B) (.int .i64 t.C) (.int .i64 t.D) (.int .i64 t.coast) (.int .i64 t.fr))
 have HCn : Hid (aq _ W1.heap.size t.L a cap) := yz (World.ownsRow.kept (yy HC) hgq (bl (yy HC) (yy HR) (by decide)))
 have HBn := yz (bP (yy HB) hgq (yy HB).size (fun q e => by have h1 := Option.some.inj e; omega))
 clear hgq
 go_wp2_with fail
 refine bodyPost_ret (v := .agg #[.slice a t.L.length cap, .int .i64 t.lim, .int .i64 t.mode, .int .i64 t.A, .int .i64 t.B, .int .i64 t.C, .int .i64 t.D, .int .i64 t.coast, .int .i64 t.fr]) (vB _ _ w.heap.size _ _ _ _ _ _ _ _ _ rfl (yy HRn)) rfl ⟨t, a, cap, rfl, hlen, World.ownsRow.mono (yy HCn) hwW, yy HBn⟩
theorem vC (T : Array Value) (X : World) (b : Nat) (v0 v1 v2 v3 v4 v5 v6 v7 v8 : Value) (hT : T.getD 2 undef = .pointer (some ⟨b, 0, none⟩)) (h : Blk X b [v0, v1, v2, v3, v4, v5, v6, v7, v8] 27) : (results Tryz.f8 T).run Tryz.prog X = .ok (.agg #[v0, v1, v2, v3, v4, v5, v6, v7, v8]) X := by
 obtain ⟨h0, h1, h2, h3, h4, h5, h6, h7, h8⟩ := dM (h)
 simp only [Array.getD_eq_getD_getElem?] at hT
 simp [results, Tryz.results8, go_sem, hT, h0, h1, h2, h3, h4, h5, h6, h7, h8]
theorem mJ (ca : Option Addr) (len cc : Nat) (w : World) (hl : len ≤ 1048576) (hR : Row w ca len w.heap.size) :
  Calls Tryz.prog 8 #[.slice ca len cc] w fun e w' => ∃ (t : Tk) (a : Option Addr) (cap : Nat), e = .returned (.agg #[.slice a t.L.length cap, .int .i64 t.lim, .int .i64 t.mode, .int .i64 t.A, .int .i64 t.B, .int .i64 t.C, .int .i64 t.D, .int .i64 t.coast, .int .i64 t.fr]) ∧ t.L.length ≤ 400 ∧ aq w' w.heap.size t.L a cap ∧ Below w.heap.size w w' := by
 have Z := an w (.cells #[.slice none 0 0, .int .i64 0, .int .i64 0, .int .i64 0, .int .i64 0, .int .i64 0, .int .i64 0, .int .i64 0, .int .i64 0] 27)
 have HR0 := yz (aD w [.slice none 0 0, .int .i64 0, .int .i64 0, .int .i64 0, .int .i64 0, .int .i64 0, .int .i64 0, .int .i64 0, .int .i64 0] 27)
 have hz : (w.alloc (.cells #[.slice none 0 0, .int .i64 0, .int .i64 0, .int .i64 0, .int .i64 0, .int .i64 0, .int .i64 0, .int .i64 0, .int .i64 0] 27)).heap.size = w.heap.size + 1 := by simp
 have cS := yz (gH ca len cc (w.alloc (.cells #[.slice none 0 0, .int .i64 0, .int .i64 0, .int .i64 0, .int .i64 0, .int .i64 0, .int .i64 0, .int .i64 0, .int .i64 0] 27)) hl (hR.upL Z.size Z.block))
 have HB0 := yz Z
 clear hR Z
 go_enter Tryz.func8, Tryz.ntmps8
 go_upto_region 1 with fail
 generalize w.alloc (.cells #[.slice none 0 0, .int .i64 0, .int .i64 0, .int .i64 0, .int .i64 0, .int .i64 0, .int .i64 0, .int .i64 0, .int .i64 0] 27) = W0 at *
 go_wp2_with fail
 refine (yy cS).mono ?_
 rintro e W1 ⟨t, a, cap, rfl, hlen, hC, hx⟩
 have HR := yz ((yy HR0).kept hx)
 have HB := yz (aj (yy HB0) hx)
 have HC := yz hC
 clear hx hC HR0 HB0 cS
 obtain ⟨y0, y1, y2, y3, y4, y5, y6, y7, y8⟩ : W1.cell? ⟨w.heap.size, 0, none⟩ = some (.slice none 0 0) ∧ W1.cell? ⟨w.heap.size, 1, none⟩ = some (.int .i64 0) ∧ W1.cell? ⟨w.heap.size, 2, none⟩ = some (.int .i64 0) ∧ W1.cell? ⟨w.heap.size, 3, none⟩ = some (.int .i64 0) ∧ W1.cell? ⟨w.heap.size, 4, none⟩ = some (.int .i64 0) ∧ W1.cell? ⟨w.heap.size, 5, none⟩ = some (.int .i64 0) ∧ W1.cell? ⟨w.heap.size, 6, none⟩ = some (.int .i64 0) ∧ W1.cell? ⟨w.heap.size, 7, none⟩ = some (.int .i64 0) ∧ W1.cell? ⟨w.heap.size, 8, none⟩ = some (.int .i64 0) := ⟨(yy HR).cell 0 _ rfl, (yy HR).cell 1 _ rfl, (yy HR).cell 2 _ rfl, (yy HR).cell 3 _ rfl, (yy HR).cell 4 _ rfl, (yy HR).cell 5 _ rfl, (yy HR).cell 6 _ rfl, (yy HR).cell 7 _ rfl, (yy HR).cell 8 _ rfl⟩
 obtain ⟨z0, z1, z2, z3, z4, z5, z6, z7, z8⟩ : W1.frozen? ⟨w.heap.size, 0, none⟩ = false ∧ W1.frozen? ⟨w.heap.size, 1, none⟩ = false ∧ W1.frozen? ⟨w.heap.size, 2, none⟩ = false ∧ W1.frozen? ⟨w.heap.size, 3, none⟩ = false ∧ W1.frozen? ⟨w.heap.size, 4, none⟩ = false ∧ W1.frozen? ⟨w.heap.size, 5, none⟩ = false ∧ W1.frozen? ⟨w.heap.size, 6, none⟩ = false ∧ W1.frozen? ⟨w.heap.size, 7, none⟩ = false ∧ W1.frozen? ⟨w.heap.size, 8, none⟩ = false := ⟨(yy HR).free 0, (yy HR).free 1, (yy HR).free 2, (yy HR).free 3, (yy HR).free 4, (yy HR).free 5, (yy HR).free 6, (yy HR).free 7, (yy HR).free 8⟩
 have hgq := eQ W1 (w.heap.size) (.slice a t.L.length cap) (.int .i64 t.lim) (.int .i64 t.mode) (.int .i64 t.A) (.int .i64 t.B) (.int .i64 t.C) (.int .i64 t.D) (.int .i64 t.coast) (.int .i64 t.fr)
 have HRn := yz (kO (yy HR) (.slice a t.L.length cap) (.int .i64 t.lim) (.int .i64 t.mode) (.int .i64 t.A) (.int .i64 t.B) (.int .i64 t.C) (.int .i64 t.D) (.int .i64 t.coast) (.int .i64 t.fr))
 have HCn : Hid (aq _ W0.heap.size t.L a cap) := yz (World.ownsRow.kept (yy HC) hgq (bl (yy HC) (yy HR) (by decide)))
 have HBn := yz (bP (yy HB) hgq (yy HB).size (fun q e => by have h1 := Option.some.inj e; omega))
 clear hgq
 go_wp2_with fail
 refine bodyPost_ret (v := .agg #[.slice a t.L.length cap, .int .i64 t.lim, .int .i64 t.mode, .int .i64 t.A, .int .i64 t.B, .int .i64 t.C, .int .i64 t.D, .int .i64 t.coast, .int .i64 t.fr]) (vC _ _ w.heap.size _ _ _ _ _ _ _ _ _ rfl (yy HRn)) rfl ⟨t, a, cap, rfl, hlen, World.ownsRow.mono (yy HCn) (by omega), yy HBn⟩
theorem iR (ca : Option Addr) (len cc : Nat) (w : World) (hl : len ≤ 1048576) (hR : Row w ca len w.heap.size) :
  Calls Tryz.prog 9 #[.slice ca len cc] w fun e w' => ∃ (L : List St) (lim : Int) (nb : Nat) (cap : Nat), e = .returned (.tuple #[.slice (some ⟨nb, 0, none⟩) L.length cap, .int .i64 lim]) ∧ L.length ≤ 400 ∧ aq w' w.heap.size L (some ⟨nb, 0, none⟩) cap ∧ Below w.heap.size w w' := by
 have cS := yz (gv ca len cc w hl hR)
 clear hR
 go_enter Tryz.func9, Tryz.ntmps9
 go_wp2_with fail
 refine (yy cS).mono ?_
 rintro e W1 ⟨rfl, hS1, hx⟩
 have HB1 := yz hx
 have HS1 := yz hS1
 clear hx hS1 cS
 go_wp2_with fail
 refine (lO w.heap.size W1 (yy HS1)).mono ?_
 rintro e W2 ⟨L, a, cap, rfl, hlen, hK⟩
 have hwW : w.heap.size < W1.heap.size := (yy HS1).lt
 have HB2 := yz (bP (yy HB1) hK.gr (yy HB1).size (fun q e => by have := Option.some.inj e; omega))
 obtain ⟨nb, rfl⟩ : ∃ g, a = some ⟨g, 0, none⟩ := by
  rcases hK.row.2 with ⟨h1, _⟩ | ⟨g, cp, cur, e, _⟩
  ·injection h1 with e1 _ _
   exact absurd e1 hK.nn
  ·injection e with e1 _ _
   exact ⟨g, e1⟩
 have HK := yz hK
 clear hK HB1 HS1
 go_wp2_with fail
 refine (bp w.heap.size 8 W2 (yy HK).src (by omega)).mono ?_
 rintro e W3 ⟨k, rfl, k0, k1, _, hS3, hg3⟩
 have HC3 := yz ((yy HK).call hS3 hg3).row
 have HB3 := yz (bP (yy HB2) hg3 (yy HB2).size (fun q e => by have := Option.some.inj e; omega))
 clear hS3 hg3 HK HB2 k0 k1
 go_wp2_with fail
 go_ret2
 exact ⟨L, _, nb, cap, rfl, by omega, World.ownsRow.mono (yy HC3) (by omega), yy HB3⟩
theorem ua (T : Array Value) (X : World) (b : Nat) (v0 v1 v2 v3 v4 v5 v6 v7 v8 u : Value) (hT : T.getD 2 undef = .pointer (some ⟨b, 0, none⟩)) (hT3 : T.getD 3 undef = u) (h : Blk X b [v0, v1, v2, v3, v4, v5, v6, v7, v8] 27) : (results Tryz.f5 T).run Tryz.prog X = .ok (.tuple #[.agg #[v0, v1, v2, v3, v4, v5, v6, v7, v8], u]) X := by
 obtain ⟨h0, h1, h2, h3, h4, h5, h6, h7, h8⟩ := dM (h)
 simp only [Array.getD_eq_getD_getElem?] at hT hT3
 simp [results, Tryz.results5, go_sem, hT, hT3, h0, h1, h2, h3, h4, h5, h6, h7, h8]
theorem oo (ca : Option Addr) (len cc : Nat) (w : World) (hl : len ≤ 1048576) (hR : Row w ca len w.heap.size) :
  Calls Tryz.prog 5 #[.slice ca len cc] w fun e w' => ∃ (t : Tk) (a : Option Addr) (cap : Nat) (S : List D3) (sa : Option Addr) (sc : Nat), e = .returned (.tuple #[.agg #[.slice a t.L.length cap, .int .i64 t.lim, .int .i64 t.mode, .int .i64 t.A, .int .i64 t.B, .int .i64 t.C, .int .i64 t.D, .int .i64 t.coast, .int .i64 t.fr], .slice sa S.length sc]) ∧ t.L.length ≤ 400 ∧ S.length ≤ 7 ∧ aq w' w.heap.size t.L a cap ∧ w'.ownsRow w.heap.size 78 3 (.slice sa S.length sc) S.length (flL S) ∧ Below w.heap.size w w' := by
 have Z := an w (.cells #[.slice none 0 0, .int .i64 0, .int .i64 0, .int .i64 0, .int .i64 0, .int .i64 0, .int .i64 0, .int .i64 0, .int .i64 0] 27)
 have HR := yz (aD w [.slice none 0 0, .int .i64 0, .int .i64 0, .int .i64 0, .int .i64 0, .int .i64 0, .int .i64 0, .int .i64 0, .int .i64 0] 27)
 have hz : (w.alloc (.cells #[.slice none 0 0, .int .i64 0, .int .i64 0, .int .i64 0, .int .i64 0, .int .i64 0, .int .i64 0, .int .i64 0, .int .i64 0] 27)).heap.size = w.heap.size + 1 := by simp
 have cS := yz (gv ca len cc (w.alloc (.cells #[.slice none 0 0, .int .i64 0, .int .i64 0, .int .i64 0, .int .i64 0, .int .i64 0, .int .i64 0, .int .i64 0, .int .i64 0] 27)) hl (hR.upL Z.size Z.block))
 have HB := yz Z
 rw [hz] at cS
 clear hR Z
 go_enter Tryz.func5, Tryz.ntmps5
 go_upto_region 1 with fail
 generalize w.alloc (.cells #[.slice none 0 0, .int .i64 0, .int .i64 0, .int .i64 0, .int .i64 0, .int .i64 0, .int .i64 0, .int .i64 0, .int .i64 0] 27) = W0 at *
 go_wp2_with fail
 refine (yy cS).mono ?_
 rintro e W1 ⟨rfl, hS1, hx⟩
 rw [← hz] at hx
 have HR1 := yz ((yy HR).kept hx)
 have HB1 := yz (aj (yy HB) hx)
 have HS1 := yz hS1
 clear hx hS1 HR HB cS hz
 go_wp2_with fail
 refine (fh (w.heap.size + 1) W1 (yy HS1)).mono ?_
 rintro e W2 ⟨t, u, a, cap, rfl, hlen, hC2, hS2, hg2⟩
 have hne : ∀ k, k < (w.heap.size + 1) → some k ≠ some (w.heap.size + 1) := fun k hk e => by have := Option.some.inj e; omega
 have HR2a := yz (ax (yy HR1) hg2 (hne _ (by omega)))
 have HB2 := yz (bP (yy HB1) hg2 (yy HB1).size (fun q e => by have := Option.some.inj e; omega))
 have hy := aM W2 (.cells #[.slice a t.L.length cap, .int .i64 t.lim, .int .i64 t.mode, .int .i64 t.A, .int .i64 t.B, .int .i64 t.C, .int .i64 t.D, .int .i64 t.coast, .int .i64 t.fr] 27) (.cells #[.int .i64 u.1, .int .i64 u.2.1, .int .i64 u.2.2.1, .int .i64 u.2.2.2] 25)
 have HK := yz ((aD W2 [.slice a t.L.length cap, .int .i64 t.lim, .int .i64 t.mode, .int .i64 t.A, .int .i64 t.B, .int .i64 t.C, .int .i64 t.D, .int .i64 t.coast, .int .i64 t.fr] 27).alloc (.cells #[.int .i64 u.1, .int .i64 u.2.1, .int .i64 u.2.2.1, .int .i64 u.2.2.2] 25))
 have HU : Hid (Blk ((W2.alloc (.cells #[.slice a t.L.length cap, .int .i64 t.lim, .int .i64 t.mode, .int .i64 t.A, .int .i64 t.B, .int .i64 t.C, .int .i64 t.D, .int .i64 t.coast, .int .i64 t.fr] 27)).alloc (.cells #[.int .i64 u.1, .int .i64 u.2.1, .int .i64 u.2.2.1, .int .i64 u.2.2.2] 25)) (W2.heap.size + 1) [.int .i64 u.1, .int .i64 u.2.1, .int .i64 u.2.2.1, .int .i64 u.2.2.2] 25) := yz (by have h := aD (W2.alloc (.cells #[.slice a t.L.length cap, .int .i64 t.lim, .int .i64 t.mode, .int .i64 t.A, .int .i64 t.B, .int .i64 t.C, .int .i64 t.D, .int .i64 t.coast, .int .i64 t.fr] 27)) [.int .i64 u.1, .int .i64 u.2.1, .int .i64 u.2.2.1, .int .i64 u.2.2.2] 25; simpa using h)
 have HR := yz ((yy HR2a).kept hy)
 have HC : Hid (aq _ W1.heap.size t.L a cap) := yz (hC2.kept hy)
 have hsW : (w.heap.size + 1) < W1.heap.size := (yy HS1).lt
 have hwW : w.heap.size ≤ W1.heap.size := (yy HB1).size
 have HB := yz (aj (yy HB2) hy)
 have HS := yz (hS2.below hy)
 have hks : (w.heap.size + 1) < W2.heap.size := hS2.lt
 have hzz : ((W2.alloc (.cells #[.slice a t.L.length cap, .int .i64 t.lim, .int .i64 t.mode, .int .i64 t.A, .int .i64 t.B, .int .i64 t.C, .int .i64 t.D, .int .i64 t.coast, .int .i64 t.fr] 27)).alloc (.cells #[.int .i64 u.1, .int .i64 u.2.1, .int .i64 u.2.2.1, .int .i64 u.2.2.2] 25)).heap.size = W2.heap.size + 2 := by simp
 clear hC2 hS2 hg2 hy HR1 HB1 HS1 HR2a HB2
 go_upto_region 3 with fail
 generalize (W2.alloc (.cells #[.slice a t.L.length cap, .int .i64 t.lim, .int .i64 t.mode, .int .i64 t.A, .int .i64 t.B, .int .i64 t.C, .int .i64 t.D, .int .i64 t.coast, .int .i64 t.fr] 27)).alloc (.cells #[.int .i64 u.1, .int .i64 u.2.1, .int .i64 u.2.2.1, .int .i64 u.2.2.2] 25) = W3 at *
 generalize W2.heap.size = kb at *
 go_wp2_with fail
 refine (bJ (w.heap.size + 1) 4 W3 (yy HS) (by omega)).mono ?_
 rintro e W4 ⟨y, rfl, hS4, hg4⟩
 replace HR := yz (ax (yy HR) hg4 (hne _ (by omega)))
 replace HK := yz (ax (yy HK) hg4 (fun e => by have := Option.some.inj e; omega))
 replace HU := yz (ax (yy HU) hg4 (fun e => by have := Option.some.inj e; omega))
 replace HC : Hid (aq W4 W1.heap.size t.L a cap) := yz (World.ownsRow.kept (yy HC) hg4 (mq (yy HC) hsW))
 replace HB := yz (bP (yy HB) hg4 (yy HB).size (fun q e => by have := Option.some.inj e; omega))
 replace HS := yz hS4
 have hz4 : kb + 2 ≤ W4.heap.size := by have := hg4.size; omega
 clear hg4 hS4 hzz
 cases y
 ·go_upto_region 5 with fail
  have HKS : Hid (∀ w' : World, Blk w' kb [.slice a t.L.length cap, .int .i64 t.lim, .int .i64 t.mode, .int .i64 t.A, .int .i64 t.B, .int .i64 t.C, .int .i64 t.D, .int .i64 t.coast, .int .i64 t.fr] 27 → Blk w' (kb + 1) [.int .i64 u.1, .int .i64 u.2.1, .int .i64 u.2.2.1, .int .i64 u.2.2.2] 25 → w'.cell? ⟨kb, 0, none⟩ = some (.slice a t.L.length cap) ∧ w'.cell? ⟨kb, 1, none⟩ = some (.int .i64 t.lim) ∧ w'.cell? ⟨kb, 2, none⟩ = some (.int .i64 t.mode) ∧ w'.cell? ⟨kb, 3, none⟩ = some (.int .i64 t.A) ∧ w'.cell? ⟨kb, 4, none⟩ = some (.int .i64 t.B) ∧ w'.cell? ⟨kb, 5, none⟩ = some (.int .i64 t.C) ∧ w'.cell? ⟨kb, 6, none⟩ = some (.int .i64 t.D) ∧ w'.cell? ⟨kb, 7, none⟩ = some (.int .i64 t.coast) ∧ w'.cell? ⟨kb, 8, none⟩ = some (.int .i64 t.fr) ∧ w'.cell? ⟨kb + 1, 0, none⟩ = some (.int .i64 u.1) ∧ w'.cell? ⟨kb + 1, 1, none⟩ = some (.int .i64 u.2.1) ∧ w'.cell? ⟨kb + 1, 2, none⟩ = some (.int .i64 u.2.2.1) ∧ w'.cell? ⟨kb + 1, 3, none⟩ = some (.int .i64 u.2.2.2)) := yz (fun w' hk hu => ⟨hk.cell 0 _ rfl, hk.cell 1 _ rfl, hk.cell 2 _ rfl, hk.cell 3 _ rfl, hk.cell 4 _ rfl, hk.cell 5 _ rfl, hk.cell 6 _ rfl, hk.cell 7 _ rfl, hk.cell 8 _ rfl, hu.cell 0 _ rfl, hu.cell 1 _ rfl, hu.cell 2 _ rfl, hu.cell 3 _ rfl⟩)
  refine wp_region_held_drew (S := (fun w' => w'.cell? ⟨kb, 0, none⟩ = some (.slice a t.L.length cap) ∧ w'.cell? ⟨kb, 1, none⟩ = some (.int .i64 t.lim) ∧ w'.cell? ⟨kb, 2, none⟩ = some (.int .i64 t.mode) ∧ w'.cell? ⟨kb, 3, none⟩ = some (.int .i64 t.A) ∧ w'.cell? ⟨kb, 4, none⟩ = some (.int .i64 t.B) ∧ w'.cell? ⟨kb, 5, none⟩ = some (.int .i64 t.C) ∧ w'.cell? ⟨kb, 6, none⟩ = some (.int .i64 t.D) ∧ w'.cell? ⟨kb, 7, none⟩ = some (.int .i64 t.coast) ∧ w'.cell? ⟨kb, 8, none⟩ = some (.int .i64 t.fr) ∧ w'.cell? ⟨kb + 1, 0, none⟩ = some (.int .i64 u.1) ∧ w'.cell? ⟨kb + 1, 1, none⟩ = some (.int .i64 u.2.1) ∧ w'.cell? ⟨kb + 1, 2, none⟩ = some (.int .i64 u.2.2.1) ∧ w'.cell? ⟨kb + 1, 3, none⟩ = some (.int .i64 u.2.2.2))) (by kernel_rfl) (yy HKS W4.drew (yy HK) (yy HU)) (fun hHeld => ?_)
  refine ab 0 rfl ?_
  try simp only [Act.put, ag, ah, ai]
  refine ab 1 rfl ?_
  try simp only [Act.put, ag, ah, ai]
  refine ab 2 rfl ?_
  try simp only [Act.put, ag, ah, ai]
  refine ab 3 rfl ?_
  try simp only [Act.put, ag, ah, ai]
  refine ab 4 rfl ?_
  try simp only [Act.put, ag, ah, ai]
  replace HR : Hid (Blk W4.drew _ _ _) := HR
  replace HK : Hid (Blk W4.drew _ _ _) := HK
  replace HU : Hid (Blk W4.drew _ _ _) := HU
  replace HS := yz ((yy HS).below (Below.refl W4.heap.size W4).drew)
  replace HC := yz ((yy HC).kept (Below.refl W4.heap.size W4).drew)
  replace HB := yz (aj (yy HB) (Below.refl W4.heap.size W4).drew)
  have hz5 : kb + 2 ≤ W4.drew.heap.size := hz4
  obtain ⟨V0, HYY⟩ : ∃ YY, YY = W4.drew := ⟨_, rfl⟩
  rw [← HYY] at HR HK HU HS HC HB hHeld hz5 ⊢
  clear HYY
  refine ae 5 rfl fun K hK => ?_
  go_simp
  refine (gl (w.heap.size + 1) V0 t.L a cap u.1 u.2.1 u.2.2.1 u.2.2.2 (yy HS) hlen (yy HC).stars (fun x e => by have h1 := (bf (yy HC) x e).1; omega)).mono ?_
  rintro e V1 ⟨S, sa, sc, rfl, hsl, hP⟩
  replace HR := yz (ax (yy HR) hP.gr (hne _ (by omega)))
  replace HK := yz (ax (yy HK) hP.gr (fun e => by have := Option.some.inj e; omega))
  replace HU := yz (ax (yy HU) hP.gr (fun e => by have := Option.some.inj e; omega))
  replace HC : Hid (aq V1 W1.heap.size t.L a cap) := yz (World.ownsRow.kept (yy HC) hP.gr (mq (yy HC) hsW))
  replace HB := yz (bP (yy HB) hP.gr (yy HB).size (fun q e => by have := Option.some.inj e; omega))
  have HSP := yz (World.ownsRow.mono hP.row (show w.heap.size ≤ V0.heap.size + 1 by omega))
  clear hP HS
  refine hK.out _ _ (yy HKS _ (yy HK) (yy HU)) (fun hHeld2 => ?_)
  clear hK K hHeld
  have hHeld := hHeld2
  clear hHeld2
  refine ae 6 rfl fun K hK => ?_
  obtain ⟨y0, y1, y2, y3, y4, y5, y6, y7, y8⟩ : V1.cell? ⟨w.heap.size, 0, none⟩ = some (.slice none 0 0) ∧ V1.cell? ⟨w.heap.size, 1, none⟩ = some (.int .i64 0) ∧ V1.cell? ⟨w.heap.size, 2, none⟩ = some (.int .i64 0) ∧ V1.cell? ⟨w.heap.size, 3, none⟩ = some (.int .i64 0) ∧ V1.cell? ⟨w.heap.size, 4, none⟩ = some (.int .i64 0) ∧ V1.cell? ⟨w.heap.size, 5, none⟩ = some (.int .i64 0) ∧ V1.cell? ⟨w.heap.size, 6, none⟩ = some (.int .i64 0) ∧ V1.cell? ⟨w.heap.size, 7, none⟩ = some (.int .i64 0) ∧ V1.cell? ⟨w.heap.size, 8, none⟩ = some (.int .i64 0) := ⟨(yy HR).cell 0 _ rfl, (yy HR).cell 1 _ rfl, (yy HR).cell 2 _ rfl, (yy HR).cell 3 _ rfl, (yy HR).cell 4 _ rfl, (yy HR).cell 5 _ rfl, (yy HR).cell 6 _ rfl, (yy HR).cell 7 _ rfl, (yy HR).cell 8 _ rfl⟩
  obtain ⟨z0, z1, z2, z3, z4, z5, z6, z7, z8⟩ : V1.frozen? ⟨w.heap.size, 0, none⟩ = false ∧ V1.frozen? ⟨w.heap.size, 1, none⟩ = false ∧ V1.frozen? ⟨w.heap.size, 2, none⟩ = false ∧ V1.frozen? ⟨w.heap.size, 3, none⟩ = false ∧ V1.frozen? ⟨w.heap.size, 4, none⟩ = false ∧ V1.frozen? ⟨w.heap.size, 5, none⟩ = false ∧ V1.frozen? ⟨w.heap.size, 6, none⟩ = false ∧ V1.frozen? ⟨w.heap.size, 7, none⟩ = false ∧ V1.frozen? ⟨w.heap.size, 8, none⟩ = false := ⟨(yy HR).free 0, (yy HR).free 1, (yy HR).free 2, (yy HR).free 3, (yy HR).free 4, (yy HR).free 5, (yy HR).free 6, (yy HR).free 7, (yy HR).free 8⟩
  have hraw := yy HR
  go_simp
  have hgq := eQ V1 (w.heap.size) (.slice a t.L.length cap) (.int .i64 t.lim) (.int .i64 t.mode) (.int .i64 t.A) (.int .i64 t.B) (.int .i64 t.C) (.int .i64 t.D) (.int .i64 t.coast) (.int .i64 t.fr)
  replace HR := yz (kO (yy HR) (.slice a t.L.length cap) (.int .i64 t.lim) (.int .i64 t.mode) (.int .i64 t.A) (.int .i64 t.B) (.int .i64 t.C) (.int .i64 t.D) (.int .i64 t.coast) (.int .i64 t.fr))
  replace HK := yz (ax (yy HK) hgq (fun e => by have h1 := Option.some.inj e; omega))
  replace HU := yz (ax (yy HU) hgq (fun e => by have h1 := Option.some.inj e; omega))
  replace HC : Hid (aq _ W1.heap.size t.L a cap) := yz (World.ownsRow.kept (yy HC) hgq (bl (yy HC) hraw (by decide)))
  replace HSP := yz (World.ownsRow.kept (yy HSP) hgq (bl (yy HSP) hraw (by decide)))
  replace HB := yz (bP (yy HB) hgq (yy HB).size (fun q e => by have h1 := Option.some.inj e; omega))
  refine hK.out _ _ (yy HKS _ (yy HK) (yy HU)) (fun hHeld2 => ?_)
  clear hK K hHeld hgq hraw y0 y1 y2 y3 y4 y5 y6 y7 y8 z0 z1 z2 z3 z4 z5 z6 z7 z8
  have hHeld := hHeld2
  clear hHeld2
  generalize (((((((((V1.setCell ⟨w.heap.size, 0, none⟩ (.slice a t.L.length cap)).setCell ⟨w.heap.size, 1, none⟩ (.int .i64 t.lim)).setCell ⟨w.heap.size, 2, none⟩ (.int .i64 t.mode)).setCell ⟨w.heap.size, 3, none⟩ (.int .i64 t.A)).setCell ⟨w.heap.size, 4, none⟩ (.int .i64 t.B)).setCell ⟨w.heap.size, 5, none⟩ (.int .i64 t.C)).setCell ⟨w.heap.size, 6, none⟩ (.int .i64 t.D)).setCell ⟨w.heap.size, 7, none⟩ (.int .i64 t.coast)).setCell ⟨w.heap.size, 8, none⟩ (.int .i64 t.fr)) = V2 at *
  refine ae 7 rfl fun K hK => ?_
  go_simp
  refine hK.out _ _ (yy HKS _ (yy HK) (yy HU)) (fun hHeld2 => ?_)
  clear hK K hHeld hHeld2
  refine wpAnyH_done (by kernel_rfl) ?_ _
  go_wp2_with fail
  refine bodyPost_ret (v := .tuple #[.agg #[.slice a t.L.length cap, .int .i64 t.lim, .int .i64 t.mode, .int .i64 t.A, .int .i64 t.B, .int .i64 t.C, .int .i64 t.D, .int .i64 t.coast, .int .i64 t.fr], .slice sa S.length sc]) (ua _ _ w.heap.size _ _ _ _ _ _ _ _ _ _ rfl rfl (yy HR)) rfl ⟨t, a, cap, S, sa, sc, rfl, hlen, hsl, World.ownsRow.mono (yy HC) hwW, yy HSP, yy HB⟩
 ·obtain ⟨k0, k1, k2, k3, k4, k5, k6, k7, k8⟩ : W4.cell? ⟨kb, 0, none⟩ = some (.slice a t.L.length cap) ∧ W4.cell? ⟨kb, 1, none⟩ = some (.int .i64 t.lim) ∧ W4.cell? ⟨kb, 2, none⟩ = some (.int .i64 t.mode) ∧ W4.cell? ⟨kb, 3, none⟩ = some (.int .i64 t.A) ∧ W4.cell? ⟨kb, 4, none⟩ = some (.int .i64 t.B) ∧ W4.cell? ⟨kb, 5, none⟩ = some (.int .i64 t.C) ∧ W4.cell? ⟨kb, 6, none⟩ = some (.int .i64 t.D) ∧ W4.cell? ⟨kb, 7, none⟩ = some (.int .i64 t.coast) ∧ W4.cell? ⟨kb, 8, none⟩ = some (.int .i64 t.fr) := ⟨(yy HK).cell 0 _ rfl, (yy HK).cell 1 _ rfl, (yy HK).cell 2 _ rfl, (yy HK).cell 3 _ rfl, (yy HK).cell 4 _ rfl, (yy HK).cell 5 _ rfl, (yy HK).cell 6 _ rfl, (yy HK).cell 7 _ rfl, (yy HK).cell 8 _ rfl⟩
  obtain ⟨y0, y1, y2, y3, y4, y5, y6, y7, y8⟩ : W4.cell? ⟨w.heap.size, 0, none⟩ = some (.slice none 0 0) ∧ W4.cell? ⟨w.heap.size, 1, none⟩ = some (.int .i64 0) ∧ W4.cell? ⟨w.heap.size, 2, none⟩ = some (.int .i64 0) ∧ W4.cell? ⟨w.heap.size, 3, none⟩ = some (.int .i64 0) ∧ W4.cell? ⟨w.heap.size, 4, none⟩ = some (.int .i64 0) ∧ W4.cell? ⟨w.heap.size, 5, none⟩ = some (.int .i64 0) ∧ W4.cell? ⟨w.heap.size, 6, none⟩ = some (.int .i64 0) ∧ W4.cell? ⟨w.heap.size, 7, none⟩ = some (.int .i64 0) ∧ W4.cell? ⟨w.heap.size, 8, none⟩ = some (.int .i64 0) := ⟨(yy HR).cell 0 _ rfl, (yy HR).cell 1 _ rfl, (yy HR).cell 2 _ rfl, (yy HR).cell 3 _ rfl, (yy HR).cell 4 _ rfl, (yy HR).cell 5 _ rfl, (yy HR).cell 6 _ rfl, (yy HR).cell 7 _ rfl, (yy HR).cell 8 _ rfl⟩
  obtain ⟨z0, z1, z2, z3, z4, z5, z6, z7, z8⟩ : W4.frozen? ⟨w.heap.size, 0, none⟩ = false ∧ W4.frozen? ⟨w.heap.size, 1, none⟩ = false ∧ W4.frozen? ⟨w.heap.size, 2, none⟩ = false ∧ W4.frozen? ⟨w.heap.size, 3, none⟩ = false ∧ W4.frozen? ⟨w.heap.size, 4, none⟩ = false ∧ W4.frozen? ⟨w.heap.size, 5, none⟩ = false ∧ W4.frozen? ⟨w.heap.size, 6, none⟩ = false ∧ W4.frozen? ⟨w.heap.size, 7, none⟩ = false ∧ W4.frozen? ⟨w.heap.size, 8, none⟩ = false := ⟨(yy HR).free 0, (yy HR).free 1, (yy HR).free 2, (yy HR).free 3, (yy HR).free 4, (yy HR).free 5, (yy HR).free 6, (yy HR).free 7, (yy HR).free 8⟩
  have hgq := eQ W4 (w.heap.size) (.slice a t.L.length cap) (.int .i64 t.lim) (.int .i64 t.mode) (.int .i64 t.A) (.int .i64 t.B) (.int .i64 t.C) (.int .i64 t.D) (.int .i64 t.coast) (.int .i64 t.fr)
  have HRn := yz (kO (yy HR) (.slice a t.L.length cap) (.int .i64 t.lim) (.int .i64 t.mode) (.int .i64 t.A) (.int .i64 t.B) (.int .i64 t.C) (.int .i64 t.D) (.int .i64 t.coast) (.int .i64 t.fr))
  have HCn : Hid (aq _ W1.heap.size t.L a cap) := yz (World.ownsRow.kept (yy HC) hgq (bl (yy HC) (yy HR) (by decide)))
  have HBn := yz (bP (yy HB) hgq (yy HB).size (fun q e => by have h1 := Option.some.inj e; omega))
  clear hgq
  go_wp2_with fail
  refine bodyPost_ret (v := .tuple #[.agg #[.slice a t.L.length cap, .int .i64 t.lim, .int .i64 t.mode, .int .i64 t.A, .int .i64 t.B, .int .i64 t.C, .int .i64 t.D, .int .i64 t.coast, .int .i64 t.fr], .slice none 0 0]) (ua _ _ w.heap.size _ _ _ _ _ _ _ _ _ _ rfl rfl (yy HRn)) rfl ⟨t, a, cap, [], none, 0, rfl, hlen, by decide, World.ownsRow.mono (yy HCn) hwW, ⟨rfl, .inl ⟨rfl, rfl⟩⟩, yy HBn⟩
end
end Go.Proofs.YtgiodlllokdcdaaGreatDoor
