/- Several texts in one: ObC, ObD. -/
import Derived.Test.YteoonaanoenjiaaGreatDoorQObeyOwn10
import Derived.Test.YteoonaanoenjiaaGreatDoorQObeyOwn22
import Derived.Test.YteoonaanoenjiaaGreatDoorQObeyOwn19
import Derived.Test.YteoonaanoenjiaaGreatDoorQObeyOwn24
namespace Go.Proofs.YteoonaanoenjiaaGreatDoor
open Go.RowKit Go.Sort
set_option linter.unusedVariables false
set_option linter.unusedSimpArgs false
def obeyT (t : Tk) (c : Cm) : Tk := if cmdB c = true then (if c.kind = 1 then resetT t else if c.kind = 2 then gyroT t c.A c.B c.C c.D else if c.kind = 3 then lookT t c.S else lookT t (fewS (spotsR c.wd c.ht c.px c.lv c.fo))) else zeroK
def obeyC (t : Tk) (c : Cm) : Int := if cmdB c = true then (if c.kind = 1 then resetC t else if c.kind = 2 then gyroC t c.A c.B c.C c.D else if c.kind = 3 then lookC t c.S else lookC t (fewS (spotsR c.wd c.ht c.px c.lv c.fo))) else 1
theorem obey_1 {t : Tk} {c : Cm} (h : cmdB c = true) (hk : c.kind = 1) : obeyT t c = resetT t ∧ obeyC t c = resetC t := by unfold obeyT obeyC; rw [if_pos h, if_pos hk, if_pos h, if_pos hk]; exact ⟨rfl, rfl⟩
theorem obey_2 {t : Tk} {c : Cm} (h : cmdB c = true) (hk : c.kind = 2) : obeyT t c = gyroT t c.A c.B c.C c.D ∧ obeyC t c = gyroC t c.A c.B c.C c.D := by
  unfold obeyT obeyC; rw [if_pos h, if_neg (by omega), if_pos hk, if_pos h, if_neg (by omega), if_pos hk]; exact ⟨rfl, rfl⟩
theorem obey_3 {t : Tk} {c : Cm} (h : cmdB c = true) (hk : c.kind = 3) : obeyT t c = lookT t c.S ∧ obeyC t c = lookC t c.S := by
  unfold obeyT obeyC; rw [if_pos h, if_neg (by omega), if_neg (by omega), if_pos hk, if_pos h, if_neg (by omega), if_neg (by omega), if_pos hk]; exact ⟨rfl, rfl⟩
theorem obey_4 {t : Tk} {c : Cm} (h : cmdB c = true) (hk : c.kind = 4) : obeyT t c = lookT t (fewS (spotsR c.wd c.ht c.px c.lv c.fo)) ∧ obeyC t c = lookC t (fewS (spotsR c.wd c.ht c.px c.lv c.fo)) := by
  unfold obeyT obeyC; rw [if_pos h, if_neg (by omega), if_neg (by omega), if_neg (by omega), if_pos h, if_neg (by omega), if_neg (by omega), if_neg (by omega)]; exact ⟨rfl, rfl⟩
theorem obey_no {t : Tk} {c : Cm} (h : cmdB c = false) : obeyT t c = zeroK ∧ obeyC t c = 1 := by
  unfold obeyT obeyC; rw [if_neg (by rw [h]; decide), if_neg (by rw [h]; decide)]; exact ⟨rfl, rfl⟩
theorem spots_right {L : List D3} (h : spotsB L = true) : L.length ≤ 6 := (spots_ok h).1
theorem right_nO {c : Cm} (h : cmdB c = true) : c.kind = 1 ∨ c.kind = 2 ∨ c.kind = 3 ∨ c.kind = 4 := by
  by_cases h1 : c.kind = 1
  · exact .inl h1
  by_cases h2 : c.kind = 2
  · exact .inr (.inl h2)
  by_cases h3 : c.kind = 3
  · exact .inr (.inr (.inl h3))
  by_cases h4 : c.kind = 4
  · exact .inr (.inr (.inr h4))
  · rw [cmd_n h1 h2 h3 h4] at h; cases h
theorem few_short (R : List D3) : (fewS R).length ≤ 6 := (few_len R R.length).1
theorem obey_ill {t : Tk} {c : Cm} (h : trackB t = false) : obeyT t c = zeroK ∧ obeyC t c = 1 := by
  cases hc : cmdB c
  · exact obey_no hc
  have hl : ∀ S : List D3, S.length ≤ 400 → lookT t S = zeroK ∧ lookC t S = 1 := fun S hS => look_ill (by omega) (by rw [h]; rfl)
  rcases right_nO hc with hk | hk | hk | hk
  · rw [(obey_1 hc hk).1, (obey_1 hc hk).2]; unfold resetT resetC; rw [if_neg (by rw [h]; decide), if_neg (by rw [h]; decide)]; exact ⟨rfl, rfl⟩
  · rw [(obey_2 hc hk).1, (obey_2 hc hk).2]; unfold gyroT gyroC gyroOk; rw [if_neg (by rw [h]; simp), if_neg (by rw [h]; simp)]; exact ⟨rfl, rfl⟩
  · rw [(obey_3 hc hk).1, (obey_3 hc hk).2]
    refine hl _ ?_
    rw [cmd_3 hk] at hc; simp only [Bool.and_eq_true] at hc
    have := spots_right hc.1.2
    omega
  · rw [(obey_4 hc hk).1, (obey_4 hc hk).2]
    refine hl _ ?_
    have := few_short (spotsR c.wd c.ht c.px c.lv c.fo)
    omega
theorem spotsR_right (wd ht : Int) (s : ByteArray) (lv fo : Int) : rightA (spotsR wd ht s lv fo) := by
  intro j hj
  have hm : vA (spotsR wd ht s lv fo) j ∈ spotsR wd ht s lv fo := by
    unfold vA
    rw [List.getD_eq_getElem?_getD, List.getElem?_eq_getElem hj]
    exact List.getElem_mem hj
  generalize vA (spotsR wd ht s lv fo) j = v at hm
  unfold spotsR at hm
  split at hm
  · unfold pickS at hm
    rw [List.mem_map] at hm
    obtain ⟨b, hb, rfl⟩ := hm
    have := (List.mem_filter.1 hb).2
    unfold keepS at this
    rw [Bool.and_eq_true] at this
    exact (wide_iff this.2).1
  · cases hm
theorem Blk.offO {w : World} {b b' : Nat} {cs : List Value} {t : TypeId} (h : Blk w b cs t) (hne : b ≠ b') (o : Nat) (x : Value) : Blk (w.setCell ⟨b', o, none⟩ x) b cs t := by
  unfold Blk at h ⊢
  rw [Below.heap_setCell w ⟨b', o, none⟩ x b hne]
  exact h
theorem blk_off10 {w : World} {b b' : Nat} {cs : List Value} {t : TypeId} (h : Blk w b cs t) (hne : b ≠ b') (y0 y1 y2 y3 y4 y5 y6 y7 y8 y9 : Value) : Blk ((((((((((w.setCell ⟨b', 0, none⟩ y0).setCell ⟨b', 1, none⟩ y1).setCell ⟨b', 2, none⟩ y2).setCell ⟨b', 3, none⟩ y3).setCell ⟨b', 4, none⟩ y4).setCell ⟨b', 5, none⟩ y5).setCell ⟨b', 6, none⟩ y6).setCell ⟨b', 7, none⟩ y7).setCell ⟨b', 8, none⟩ y8).setCell ⟨b', 9, none⟩ y9) b cs t :=
  (((((((((h.offO hne 0 y0).offO hne 1 y1).offO hne 2 y2).offO hne 3 y3).offO hne 4 y4).offO hne 5 y5).offO hne 6 y6).offO hne 7 y7).offO hne 8 y8).offO hne 9 y9
theorem res_sob (T : Array Value) (X : World) (b : Nat) (v : Value) (lim mode A B C D coast fr code : Int) (hT : T.getD 4 undef = .pointer (some ⟨b, 0, none⟩)) (h : TkO X b v lim mode A B C D coast fr code) : (results Tryz.f29 T).run Tryz.prog X = .ok (.agg #[v, .int .i64 lim, .int .i64 mode, .int .i64 A, .int .i64 B, .int .i64 C, .int .i64 D, .int .i64 coast, .int .i64 fr, .int .i64 code]) X := by
  obtain ⟨⟨h0, h1, h2, h3, h4, h5, h6, h7, h8⟩, h9⟩ := h
  simp only [Array.getD_eq_getD_getElem?] at hT
  simp [results, Tryz.results29, go_sem, hT, h0, h1, h2, h3, h4, h5, h6, h7, h8, h9]
set_option maxHeartbeats 8000000 in
set_option maxRecDepth 100000 in
theorem l08Obey_1 (L : List St) (lim mode A B C D coast fr : Int) (ad : Option Addr) (c : Nat) (S : List D3) (g1 g2 g3 g4 wd ht lv fo : Int) (px : ByteArray) (br : Option Addr) (dr : Nat) (w : World) (hn : L.length ≤ 1048576) (hS : Stars w ad L L.length) (hb : ∀ y, ad = some y → y.block < w.heap.size) (hn2 : S.length ≤ 1048576) (hdr : S.length ≤ dr) (hd9 : dr ≤ 9223372036854775807) (hD : Dirs w br S S.length) (hB : ∀ y, br = some y → y.block < w.heap.size) (hc : cmdB ⟨1, g1, g2, g3, g4, S, wd, ht, px, lv, fo⟩ = true) (hs : px.size ≤ maxLen) :
    Calls Tryz.prog 29 #[.agg #[.slice ad L.length c, .int .i64 lim, .int .i64 mode, .int .i64 A, .int .i64 B, .int .i64 C, .int .i64 D, .int .i64 coast, .int .i64 fr], .agg #[.int .i64 1, .int .i64 g1, .int .i64 g2, .int .i64 g3, .int .i64 g4, .slice br S.length dr, .int .i64 wd, .int .i64 ht, .string px, .int .i64 lv, .int .i64 fo]] w fun e w' => OutT w' w.heap.size (obeyT ⟨L, lim, mode, A, B, C, D, coast, fr⟩ ⟨1, g1, g2, g3, g4, S, wd, ht, px, lv, fo⟩) (obeyC ⟨L, lim, mode, A, B, C, D, coast, fr⟩ ⟨1, g1, g2, g3, g4, S, wd, ht, px, lv, fo⟩) e ∧ Below w.heap.size w w' := by
  rw [(obey_1 hc rfl).1, (obey_1 hc rfl).2]
  try dsimp only
  clear hc
  have B0 := yz (below3 w (.cells #[.slice ad L.length c, .int .i64 lim, .int .i64 mode, .int .i64 A, .int .i64 B, .int .i64 C, .int .i64 D, .int .i64 coast, .int .i64 fr] 37) (.cells #[.int .i64 1, .int .i64 g1, .int .i64 g2, .int .i64 g3, .int .i64 g4, .slice br S.length dr, .int .i64 wd, .int .i64 ht, .string px, .int .i64 lv, .int .i64 fo] 45) (.cells #[.slice none 0 0, .int .i64 0, .int .i64 0, .int .i64 0, .int .i64 0, .int .i64 0, .int .i64 0, .int .i64 0, .int .i64 0, .int .i64 0] 39))
  have A0 := yz (((blk_new w [.slice ad L.length c, .int .i64 lim, .int .i64 mode, .int .i64 A, .int .i64 B, .int .i64 C, .int .i64 D, .int .i64 coast, .int .i64 fr] 37).alloc (.cells #[.int .i64 1, .int .i64 g1, .int .i64 g2, .int .i64 g3, .int .i64 g4, .slice br S.length dr, .int .i64 wd, .int .i64 ht, .string px, .int .i64 lv, .int .i64 fo] 45)).alloc (.cells #[.slice none 0 0, .int .i64 0, .int .i64 0, .int .i64 0, .int .i64 0, .int .i64 0, .int .i64 0, .int .i64 0, .int .i64 0, .int .i64 0] 39))
  have K0 := yz ((by simpa using blk_new (w.alloc (.cells #[.slice ad L.length c, .int .i64 lim, .int .i64 mode, .int .i64 A, .int .i64 B, .int .i64 C, .int .i64 D, .int .i64 coast, .int .i64 fr] 37)) [.int .i64 1, .int .i64 g1, .int .i64 g2, .int .i64 g3, .int .i64 g4, .slice br S.length dr, .int .i64 wd, .int .i64 ht, .string px, .int .i64 lv, .int .i64 fo] 45 : Blk ((w.alloc (.cells #[.slice ad L.length c, .int .i64 lim, .int .i64 mode, .int .i64 A, .int .i64 B, .int .i64 C, .int .i64 D, .int .i64 coast, .int .i64 fr] 37)).alloc (.cells #[.int .i64 1, .int .i64 g1, .int .i64 g2, .int .i64 g3, .int .i64 g4, .slice br S.length dr, .int .i64 wd, .int .i64 ht, .string px, .int .i64 lv, .int .i64 fo] 45)) (w.heap.size + 1) [.int .i64 1, .int .i64 g1, .int .i64 g2, .int .i64 g3, .int .i64 g4, .slice br S.length dr, .int .i64 wd, .int .i64 ht, .string px, .int .i64 lv, .int .i64 fo] 45).alloc (.cells #[.slice none 0 0, .int .i64 0, .int .i64 0, .int .i64 0, .int .i64 0, .int .i64 0, .int .i64 0, .int .i64 0, .int .i64 0, .int .i64 0] 39))
  have R0 := yz (by simpa using blk_new ((w.alloc (.cells #[.slice ad L.length c, .int .i64 lim, .int .i64 mode, .int .i64 A, .int .i64 B, .int .i64 C, .int .i64 D, .int .i64 coast, .int .i64 fr] 37)).alloc (.cells #[.int .i64 1, .int .i64 g1, .int .i64 g2, .int .i64 g3, .int .i64 g4, .slice br S.length dr, .int .i64 wd, .int .i64 ht, .string px, .int .i64 lv, .int .i64 fo] 45)) [.slice none 0 0, .int .i64 0, .int .i64 0, .int .i64 0, .int .i64 0, .int .i64 0, .int .i64 0, .int .i64 0, .int .i64 0, .int .i64 0] 39 : Blk (((w.alloc (.cells #[.slice ad L.length c, .int .i64 lim, .int .i64 mode, .int .i64 A, .int .i64 B, .int .i64 C, .int .i64 D, .int .i64 coast, .int .i64 fr] 37)).alloc (.cells #[.int .i64 1, .int .i64 g1, .int .i64 g2, .int .i64 g3, .int .i64 g4, .slice br S.length dr, .int .i64 wd, .int .i64 ht, .string px, .int .i64 lv, .int .i64 fo] 45)).alloc (.cells #[.slice none 0 0, .int .i64 0, .int .i64 0, .int .i64 0, .int .i64 0, .int .i64 0, .int .i64 0, .int .i64 0, .int .i64 0, .int .i64 0] 39)) (w.heap.size + 1 + 1) [.slice none 0 0, .int .i64 0, .int .i64 0, .int .i64 0, .int .i64 0, .int .i64 0, .int .i64 0, .int .i64 0, .int .i64 0, .int .i64 0] 39)
  have hl0 : w.heap.size + 1 + 1 + 1 ≤ (((w.alloc (.cells #[.slice ad L.length c, .int .i64 lim, .int .i64 mode, .int .i64 A, .int .i64 B, .int .i64 C, .int .i64 D, .int .i64 coast, .int .i64 fr] 37)).alloc (.cells #[.int .i64 1, .int .i64 g1, .int .i64 g2, .int .i64 g3, .int .i64 g4, .slice br S.length dr, .int .i64 wd, .int .i64 ht, .string px, .int .i64 lv, .int .i64 fo] 45)).alloc (.cells #[.slice none 0 0, .int .i64 0, .int .i64 0, .int .i64 0, .int .i64 0, .int .i64 0, .int .i64 0, .int .i64 0, .int .i64 0, .int .i64 0] 39)).heap.size := by simp
  have hb0 : ∀ W : World, Below w.heap.size w W → ∀ y, ad = some y → y.block < W.heap.size := fun W h y e => Nat.lt_of_lt_of_le (hb y e) h.size
  have hB0 : ∀ W : World, Below w.heap.size w W → ∀ y, br = some y → y.block < W.heap.size := fun W h y e => Nat.lt_of_lt_of_le (hB y e) h.size
  have cK := yz (fun (W : World) (h : Below w.heap.size w W) => specReset_any L lim mode A B C D coast fr ad c W hn (hS.kept h))
  obtain ⟨t2, ht2⟩ : ∃ z, resetT ⟨L, lim, mode, A, B, C, D, coast, fr⟩ = z := ⟨_, rfl⟩
  obtain ⟨code, hco⟩ : ∃ z, resetC ⟨L, lim, mode, A, B, C, D, coast, fr⟩ = z := ⟨_, rfl⟩
  rw [ht2, hco] at cK ⊢
  obtain ⟨L2, lim2, mode2, A2, B2, C2, D2, coast2, fr2⟩ := t2
  clear ht2 hco hS hD hb hB hb0 hB0
  go_enter Tryz.func29, Tryz.ntmps29
  have k0 := (yx K0).cell 0 _ rfl
  obtain ⟨q0, q1, q2, q3, q4, q5, q6, q7, q8⟩ := bcs9 (yx A0)
  go_wp2_with fail
  clear q0 q1 q2 q3 q4 q5 q6 q7 q8 k0
  refine (yx cK _ (yx B0)).mono ?_
  rintro e w3 ⟨⟨a2, c2, rfl, hC⟩, hx⟩
  dsimp only at hC
  have C5 := yz (hC.low (B' := w.heap.size + 1 + 1 + 1) (by omega))
  have R5 := yz ((yx R0).kept hx)
  have B5 := yz (below_call (yx B0) hx)
  clear hx hC R0 B0 A0 K0 cK
  obtain ⟨r0, r1, r2, r3, r4, r5, r6, r7, r8, r9⟩ := bcs10 (yx R5)
  obtain ⟨e0, e1, e2, e3, e4, e5, e6, e7, e8, e9⟩ := bfs10 (yx R5)
  go_wp2_with fail
  clear r0 r1 r2 r3 r4 r5 r6 r7 r8 r9 e0 e1 e2 e3 e4 e5 e6 e7 e8 e9
  refine bodyPost_ret (v := .agg #[.slice a2 L2.length c2, .int .i64 lim2, .int .i64 mode2, .int .i64 A2, .int .i64 B2, .int .i64 C2, .int .i64 D2, .int .i64 coast2, .int .i64 fr2, .int .i64 code]) ?_ rfl ⟨?_, ?_⟩
  · exact res_sob _ _ (w.heap.size + 1 + 1) _ lim2 mode2 A2 B2 C2 D2 coast2 fr2 code rfl (tkO_blk (blk_set10 (yx R5) rfl _ lim2 mode2 A2 B2 C2 D2 coast2 fr2 code))
  · refine ⟨a2, c2, rfl, ?_⟩
    refine Copied.low (B := w.heap.size + 1 + 1 + 1) ?_ (by omega)
    iterate 10 (refine Copied.far ?_ (Nat.lt_succ_self (w.heap.size + 1 + 1)) _ _)
    exact yx C5
  · iterate 10 (refine belowSet ?_ (show w.heap.size ≤ w.heap.size + 1 + 1 by omega) _ _)
    exact yx B5
set_option maxHeartbeats 8000000 in
set_option maxRecDepth 100000 in
theorem l08Obey_2 (L : List St) (lim mode A B C D coast fr : Int) (ad : Option Addr) (c : Nat) (S : List D3) (g1 g2 g3 g4 wd ht lv fo : Int) (px : ByteArray) (br : Option Addr) (dr : Nat) (w : World) (hn : L.length ≤ 1048576) (hS : Stars w ad L L.length) (hb : ∀ y, ad = some y → y.block < w.heap.size) (hn2 : S.length ≤ 1048576) (hdr : S.length ≤ dr) (hd9 : dr ≤ 9223372036854775807) (hD : Dirs w br S S.length) (hB : ∀ y, br = some y → y.block < w.heap.size) (hc : cmdB ⟨2, g1, g2, g3, g4, S, wd, ht, px, lv, fo⟩ = true) (hs : px.size ≤ maxLen) :
    Calls Tryz.prog 29 #[.agg #[.slice ad L.length c, .int .i64 lim, .int .i64 mode, .int .i64 A, .int .i64 B, .int .i64 C, .int .i64 D, .int .i64 coast, .int .i64 fr], .agg #[.int .i64 2, .int .i64 g1, .int .i64 g2, .int .i64 g3, .int .i64 g4, .slice br S.length dr, .int .i64 wd, .int .i64 ht, .string px, .int .i64 lv, .int .i64 fo]] w fun e w' => OutT w' w.heap.size (obeyT ⟨L, lim, mode, A, B, C, D, coast, fr⟩ ⟨2, g1, g2, g3, g4, S, wd, ht, px, lv, fo⟩) (obeyC ⟨L, lim, mode, A, B, C, D, coast, fr⟩ ⟨2, g1, g2, g3, g4, S, wd, ht, px, lv, fo⟩) e ∧ Below w.heap.size w w' := by
  rw [(obey_2 hc rfl).1, (obey_2 hc rfl).2]
  try dsimp only
  clear hc
  have B0 := yz (below3 w (.cells #[.slice ad L.length c, .int .i64 lim, .int .i64 mode, .int .i64 A, .int .i64 B, .int .i64 C, .int .i64 D, .int .i64 coast, .int .i64 fr] 37) (.cells #[.int .i64 2, .int .i64 g1, .int .i64 g2, .int .i64 g3, .int .i64 g4, .slice br S.length dr, .int .i64 wd, .int .i64 ht, .string px, .int .i64 lv, .int .i64 fo] 45) (.cells #[.slice none 0 0, .int .i64 0, .int .i64 0, .int .i64 0, .int .i64 0, .int .i64 0, .int .i64 0, .int .i64 0, .int .i64 0, .int .i64 0] 39))
  have A0 := yz (((blk_new w [.slice ad L.length c, .int .i64 lim, .int .i64 mode, .int .i64 A, .int .i64 B, .int .i64 C, .int .i64 D, .int .i64 coast, .int .i64 fr] 37).alloc (.cells #[.int .i64 2, .int .i64 g1, .int .i64 g2, .int .i64 g3, .int .i64 g4, .slice br S.length dr, .int .i64 wd, .int .i64 ht, .string px, .int .i64 lv, .int .i64 fo] 45)).alloc (.cells #[.slice none 0 0, .int .i64 0, .int .i64 0, .int .i64 0, .int .i64 0, .int .i64 0, .int .i64 0, .int .i64 0, .int .i64 0, .int .i64 0] 39))
  have K0 := yz ((by simpa using blk_new (w.alloc (.cells #[.slice ad L.length c, .int .i64 lim, .int .i64 mode, .int .i64 A, .int .i64 B, .int .i64 C, .int .i64 D, .int .i64 coast, .int .i64 fr] 37)) [.int .i64 2, .int .i64 g1, .int .i64 g2, .int .i64 g3, .int .i64 g4, .slice br S.length dr, .int .i64 wd, .int .i64 ht, .string px, .int .i64 lv, .int .i64 fo] 45 : Blk ((w.alloc (.cells #[.slice ad L.length c, .int .i64 lim, .int .i64 mode, .int .i64 A, .int .i64 B, .int .i64 C, .int .i64 D, .int .i64 coast, .int .i64 fr] 37)).alloc (.cells #[.int .i64 2, .int .i64 g1, .int .i64 g2, .int .i64 g3, .int .i64 g4, .slice br S.length dr, .int .i64 wd, .int .i64 ht, .string px, .int .i64 lv, .int .i64 fo] 45)) (w.heap.size + 1) [.int .i64 2, .int .i64 g1, .int .i64 g2, .int .i64 g3, .int .i64 g4, .slice br S.length dr, .int .i64 wd, .int .i64 ht, .string px, .int .i64 lv, .int .i64 fo] 45).alloc (.cells #[.slice none 0 0, .int .i64 0, .int .i64 0, .int .i64 0, .int .i64 0, .int .i64 0, .int .i64 0, .int .i64 0, .int .i64 0, .int .i64 0] 39))
  have R0 := yz (by simpa using blk_new ((w.alloc (.cells #[.slice ad L.length c, .int .i64 lim, .int .i64 mode, .int .i64 A, .int .i64 B, .int .i64 C, .int .i64 D, .int .i64 coast, .int .i64 fr] 37)).alloc (.cells #[.int .i64 2, .int .i64 g1, .int .i64 g2, .int .i64 g3, .int .i64 g4, .slice br S.length dr, .int .i64 wd, .int .i64 ht, .string px, .int .i64 lv, .int .i64 fo] 45)) [.slice none 0 0, .int .i64 0, .int .i64 0, .int .i64 0, .int .i64 0, .int .i64 0, .int .i64 0, .int .i64 0, .int .i64 0, .int .i64 0] 39 : Blk (((w.alloc (.cells #[.slice ad L.length c, .int .i64 lim, .int .i64 mode, .int .i64 A, .int .i64 B, .int .i64 C, .int .i64 D, .int .i64 coast, .int .i64 fr] 37)).alloc (.cells #[.int .i64 2, .int .i64 g1, .int .i64 g2, .int .i64 g3, .int .i64 g4, .slice br S.length dr, .int .i64 wd, .int .i64 ht, .string px, .int .i64 lv, .int .i64 fo] 45)).alloc (.cells #[.slice none 0 0, .int .i64 0, .int .i64 0, .int .i64 0, .int .i64 0, .int .i64 0, .int .i64 0, .int .i64 0, .int .i64 0, .int .i64 0] 39)) (w.heap.size + 1 + 1) [.slice none 0 0, .int .i64 0, .int .i64 0, .int .i64 0, .int .i64 0, .int .i64 0, .int .i64 0, .int .i64 0, .int .i64 0, .int .i64 0] 39)
  have hl0 : w.heap.size + 1 + 1 + 1 ≤ (((w.alloc (.cells #[.slice ad L.length c, .int .i64 lim, .int .i64 mode, .int .i64 A, .int .i64 B, .int .i64 C, .int .i64 D, .int .i64 coast, .int .i64 fr] 37)).alloc (.cells #[.int .i64 2, .int .i64 g1, .int .i64 g2, .int .i64 g3, .int .i64 g4, .slice br S.length dr, .int .i64 wd, .int .i64 ht, .string px, .int .i64 lv, .int .i64 fo] 45)).alloc (.cells #[.slice none 0 0, .int .i64 0, .int .i64 0, .int .i64 0, .int .i64 0, .int .i64 0, .int .i64 0, .int .i64 0, .int .i64 0, .int .i64 0] 39)).heap.size := by simp
  have hb0 : ∀ W : World, Below w.heap.size w W → ∀ y, ad = some y → y.block < W.heap.size := fun W h y e => Nat.lt_of_lt_of_le (hb y e) h.size
  have hB0 : ∀ W : World, Below w.heap.size w W → ∀ y, br = some y → y.block < W.heap.size := fun W h y e => Nat.lt_of_lt_of_le (hB y e) h.size
  have cK := yz (fun (W : World) (h : Below w.heap.size w W) => specGyro_any L lim mode A B C D coast fr g1 g2 g3 g4 ad c W hn (hS.kept h))
  obtain ⟨t2, ht2⟩ : ∃ z, gyroT ⟨L, lim, mode, A, B, C, D, coast, fr⟩ g1 g2 g3 g4 = z := ⟨_, rfl⟩
  obtain ⟨code, hco⟩ : ∃ z, gyroC ⟨L, lim, mode, A, B, C, D, coast, fr⟩ g1 g2 g3 g4 = z := ⟨_, rfl⟩
  rw [ht2, hco] at cK ⊢
  obtain ⟨L2, lim2, mode2, A2, B2, C2, D2, coast2, fr2⟩ := t2
  clear ht2 hco hS hD hb hB hb0 hB0
  go_enter Tryz.func29, Tryz.ntmps29
  have k0 := (yx K0).cell 0 _ rfl
  obtain ⟨q0, q1, q2, q3, q4, q5, q6, q7, q8⟩ := bcs9 (yx A0)
  have k1 := (yx K0).cell 1 _ rfl
  have k2 := (yx K0).cell 2 _ rfl
  have k3 := (yx K0).cell 3 _ rfl
  have k4 := (yx K0).cell 4 _ rfl
  go_wp2_with fail
  clear q0 q1 q2 q3 q4 q5 q6 q7 q8 k0 k1 k2 k3 k4
  refine (yx cK _ (yx B0)).mono ?_
  rintro e w3 ⟨⟨a2, c2, rfl, hC⟩, hx⟩
  dsimp only at hC
  have C5 := yz (hC.low (B' := w.heap.size + 1 + 1 + 1) (by omega))
  have R5 := yz ((yx R0).kept hx)
  have B5 := yz (below_call (yx B0) hx)
  clear hx hC R0 B0 A0 K0 cK
  obtain ⟨r0, r1, r2, r3, r4, r5, r6, r7, r8, r9⟩ := bcs10 (yx R5)
  obtain ⟨e0, e1, e2, e3, e4, e5, e6, e7, e8, e9⟩ := bfs10 (yx R5)
  go_wp2_with fail
  clear r0 r1 r2 r3 r4 r5 r6 r7 r8 r9 e0 e1 e2 e3 e4 e5 e6 e7 e8 e9
  refine bodyPost_ret (v := .agg #[.slice a2 L2.length c2, .int .i64 lim2, .int .i64 mode2, .int .i64 A2, .int .i64 B2, .int .i64 C2, .int .i64 D2, .int .i64 coast2, .int .i64 fr2, .int .i64 code]) ?_ rfl ⟨?_, ?_⟩
  · exact res_sob _ _ (w.heap.size + 1 + 1) _ lim2 mode2 A2 B2 C2 D2 coast2 fr2 code rfl (tkO_blk (blk_set10 (yx R5) rfl _ lim2 mode2 A2 B2 C2 D2 coast2 fr2 code))
  · refine ⟨a2, c2, rfl, ?_⟩
    refine Copied.low (B := w.heap.size + 1 + 1 + 1) ?_ (by omega)
    iterate 10 (refine Copied.far ?_ (Nat.lt_succ_self (w.heap.size + 1 + 1)) _ _)
    exact yx C5
  · iterate 10 (refine belowSet ?_ (show w.heap.size ≤ w.heap.size + 1 + 1 by omega) _ _)
    exact yx B5
set_option maxHeartbeats 8000000 in
set_option maxRecDepth 100000 in
theorem l08Obey_3 (L : List St) (lim mode A B C D coast fr : Int) (ad : Option Addr) (c : Nat) (S : List D3) (g1 g2 g3 g4 wd ht lv fo : Int) (px : ByteArray) (br : Option Addr) (dr : Nat) (w : World) (hn : L.length ≤ 1048576) (hS : Stars w ad L L.length) (hb : ∀ y, ad = some y → y.block < w.heap.size) (hn2 : S.length ≤ 1048576) (hdr : S.length ≤ dr) (hd9 : dr ≤ 9223372036854775807) (hD : Dirs w br S S.length) (hB : ∀ y, br = some y → y.block < w.heap.size) (hc : cmdB ⟨3, g1, g2, g3, g4, S, wd, ht, px, lv, fo⟩ = true) (hs : px.size ≤ maxLen) :
    Calls Tryz.prog 29 #[.agg #[.slice ad L.length c, .int .i64 lim, .int .i64 mode, .int .i64 A, .int .i64 B, .int .i64 C, .int .i64 D, .int .i64 coast, .int .i64 fr], .agg #[.int .i64 3, .int .i64 g1, .int .i64 g2, .int .i64 g3, .int .i64 g4, .slice br S.length dr, .int .i64 wd, .int .i64 ht, .string px, .int .i64 lv, .int .i64 fo]] w fun e w' => OutT w' w.heap.size (obeyT ⟨L, lim, mode, A, B, C, D, coast, fr⟩ ⟨3, g1, g2, g3, g4, S, wd, ht, px, lv, fo⟩) (obeyC ⟨L, lim, mode, A, B, C, D, coast, fr⟩ ⟨3, g1, g2, g3, g4, S, wd, ht, px, lv, fo⟩) e ∧ Below w.heap.size w w' := by
  rw [(obey_3 hc rfl).1, (obey_3 hc rfl).2]
  try dsimp only
  clear hc
  have B0 := yz (below3 w (.cells #[.slice ad L.length c, .int .i64 lim, .int .i64 mode, .int .i64 A, .int .i64 B, .int .i64 C, .int .i64 D, .int .i64 coast, .int .i64 fr] 37) (.cells #[.int .i64 3, .int .i64 g1, .int .i64 g2, .int .i64 g3, .int .i64 g4, .slice br S.length dr, .int .i64 wd, .int .i64 ht, .string px, .int .i64 lv, .int .i64 fo] 45) (.cells #[.slice none 0 0, .int .i64 0, .int .i64 0, .int .i64 0, .int .i64 0, .int .i64 0, .int .i64 0, .int .i64 0, .int .i64 0, .int .i64 0] 39))
  have A0 := yz (((blk_new w [.slice ad L.length c, .int .i64 lim, .int .i64 mode, .int .i64 A, .int .i64 B, .int .i64 C, .int .i64 D, .int .i64 coast, .int .i64 fr] 37).alloc (.cells #[.int .i64 3, .int .i64 g1, .int .i64 g2, .int .i64 g3, .int .i64 g4, .slice br S.length dr, .int .i64 wd, .int .i64 ht, .string px, .int .i64 lv, .int .i64 fo] 45)).alloc (.cells #[.slice none 0 0, .int .i64 0, .int .i64 0, .int .i64 0, .int .i64 0, .int .i64 0, .int .i64 0, .int .i64 0, .int .i64 0, .int .i64 0] 39))
  have K0 := yz ((by simpa using blk_new (w.alloc (.cells #[.slice ad L.length c, .int .i64 lim, .int .i64 mode, .int .i64 A, .int .i64 B, .int .i64 C, .int .i64 D, .int .i64 coast, .int .i64 fr] 37)) [.int .i64 3, .int .i64 g1, .int .i64 g2, .int .i64 g3, .int .i64 g4, .slice br S.length dr, .int .i64 wd, .int .i64 ht, .string px, .int .i64 lv, .int .i64 fo] 45 : Blk ((w.alloc (.cells #[.slice ad L.length c, .int .i64 lim, .int .i64 mode, .int .i64 A, .int .i64 B, .int .i64 C, .int .i64 D, .int .i64 coast, .int .i64 fr] 37)).alloc (.cells #[.int .i64 3, .int .i64 g1, .int .i64 g2, .int .i64 g3, .int .i64 g4, .slice br S.length dr, .int .i64 wd, .int .i64 ht, .string px, .int .i64 lv, .int .i64 fo] 45)) (w.heap.size + 1) [.int .i64 3, .int .i64 g1, .int .i64 g2, .int .i64 g3, .int .i64 g4, .slice br S.length dr, .int .i64 wd, .int .i64 ht, .string px, .int .i64 lv, .int .i64 fo] 45).alloc (.cells #[.slice none 0 0, .int .i64 0, .int .i64 0, .int .i64 0, .int .i64 0, .int .i64 0, .int .i64 0, .int .i64 0, .int .i64 0, .int .i64 0] 39))
  have R0 := yz (by simpa using blk_new ((w.alloc (.cells #[.slice ad L.length c, .int .i64 lim, .int .i64 mode, .int .i64 A, .int .i64 B, .int .i64 C, .int .i64 D, .int .i64 coast, .int .i64 fr] 37)).alloc (.cells #[.int .i64 3, .int .i64 g1, .int .i64 g2, .int .i64 g3, .int .i64 g4, .slice br S.length dr, .int .i64 wd, .int .i64 ht, .string px, .int .i64 lv, .int .i64 fo] 45)) [.slice none 0 0, .int .i64 0, .int .i64 0, .int .i64 0, .int .i64 0, .int .i64 0, .int .i64 0, .int .i64 0, .int .i64 0, .int .i64 0] 39 : Blk (((w.alloc (.cells #[.slice ad L.length c, .int .i64 lim, .int .i64 mode, .int .i64 A, .int .i64 B, .int .i64 C, .int .i64 D, .int .i64 coast, .int .i64 fr] 37)).alloc (.cells #[.int .i64 3, .int .i64 g1, .int .i64 g2, .int .i64 g3, .int .i64 g4, .slice br S.length dr, .int .i64 wd, .int .i64 ht, .string px, .int .i64 lv, .int .i64 fo] 45)).alloc (.cells #[.slice none 0 0, .int .i64 0, .int .i64 0, .int .i64 0, .int .i64 0, .int .i64 0, .int .i64 0, .int .i64 0, .int .i64 0, .int .i64 0] 39)) (w.heap.size + 1 + 1) [.slice none 0 0, .int .i64 0, .int .i64 0, .int .i64 0, .int .i64 0, .int .i64 0, .int .i64 0, .int .i64 0, .int .i64 0, .int .i64 0] 39)
  have hl0 : w.heap.size + 1 + 1 + 1 ≤ (((w.alloc (.cells #[.slice ad L.length c, .int .i64 lim, .int .i64 mode, .int .i64 A, .int .i64 B, .int .i64 C, .int .i64 D, .int .i64 coast, .int .i64 fr] 37)).alloc (.cells #[.int .i64 3, .int .i64 g1, .int .i64 g2, .int .i64 g3, .int .i64 g4, .slice br S.length dr, .int .i64 wd, .int .i64 ht, .string px, .int .i64 lv, .int .i64 fo] 45)).alloc (.cells #[.slice none 0 0, .int .i64 0, .int .i64 0, .int .i64 0, .int .i64 0, .int .i64 0, .int .i64 0, .int .i64 0, .int .i64 0, .int .i64 0] 39)).heap.size := by simp
  have hb0 : ∀ W : World, Below w.heap.size w W → ∀ y, ad = some y → y.block < W.heap.size := fun W h y e => Nat.lt_of_lt_of_le (hb y e) h.size
  have hB0 : ∀ W : World, Below w.heap.size w W → ∀ y, br = some y → y.block < W.heap.size := fun W h y e => Nat.lt_of_lt_of_le (hB y e) h.size
  have cK := yz (fun (W : World) (h : Below w.heap.size w W) => specLook_any L S lim mode A B C D coast fr ad c br dr W hn hn2 (hS.kept h) (hD.kept h) (hb0 W h) (hB0 W h) hdr hd9)
  obtain ⟨t2, ht2⟩ : ∃ z, lookT ⟨L, lim, mode, A, B, C, D, coast, fr⟩ S = z := ⟨_, rfl⟩
  obtain ⟨code, hco⟩ : ∃ z, lookC ⟨L, lim, mode, A, B, C, D, coast, fr⟩ S = z := ⟨_, rfl⟩
  rw [ht2, hco] at cK ⊢
  obtain ⟨L2, lim2, mode2, A2, B2, C2, D2, coast2, fr2⟩ := t2
  clear ht2 hco hS hD hb hB hb0 hB0
  go_enter Tryz.func29, Tryz.ntmps29
  have k0 := (yx K0).cell 0 _ rfl
  obtain ⟨q0, q1, q2, q3, q4, q5, q6, q7, q8⟩ := bcs9 (yx A0)
  have k5 := (yx K0).cell 5 _ rfl
  go_wp2_with fail
  clear q0 q1 q2 q3 q4 q5 q6 q7 q8 k0 k5
  refine (yx cK _ (yx B0)).mono ?_
  rintro e w3 ⟨⟨a2, c2, rfl, hC⟩, hx⟩
  dsimp only at hC
  have C5 := yz (hC.low (B' := w.heap.size + 1 + 1 + 1) (by omega))
  have R5 := yz ((yx R0).kept hx)
  have B5 := yz (below_call (yx B0) hx)
  clear hx hC R0 B0 A0 K0 cK
  obtain ⟨r0, r1, r2, r3, r4, r5, r6, r7, r8, r9⟩ := bcs10 (yx R5)
  obtain ⟨e0, e1, e2, e3, e4, e5, e6, e7, e8, e9⟩ := bfs10 (yx R5)
  go_wp2_with fail
  clear r0 r1 r2 r3 r4 r5 r6 r7 r8 r9 e0 e1 e2 e3 e4 e5 e6 e7 e8 e9
  refine bodyPost_ret (v := .agg #[.slice a2 L2.length c2, .int .i64 lim2, .int .i64 mode2, .int .i64 A2, .int .i64 B2, .int .i64 C2, .int .i64 D2, .int .i64 coast2, .int .i64 fr2, .int .i64 code]) ?_ rfl ⟨?_, ?_⟩
  · exact res_sob _ _ (w.heap.size + 1 + 1) _ lim2 mode2 A2 B2 C2 D2 coast2 fr2 code rfl (tkO_blk (blk_set10 (yx R5) rfl _ lim2 mode2 A2 B2 C2 D2 coast2 fr2 code))
  · refine ⟨a2, c2, rfl, ?_⟩
    refine Copied.low (B := w.heap.size + 1 + 1 + 1) ?_ (by omega)
    iterate 10 (refine Copied.far ?_ (Nat.lt_succ_self (w.heap.size + 1 + 1)) _ _)
    exact yx C5
  · iterate 10 (refine belowSet ?_ (show w.heap.size ≤ w.heap.size + 1 + 1 by omega) _ _)
    exact yx B5
set_option maxHeartbeats 8000000 in
set_option maxRecDepth 100000 in
theorem l08Obey_4 (L : List St) (lim mode A B C D coast fr : Int) (ad : Option Addr) (c : Nat) (S : List D3) (g1 g2 g3 g4 wd ht lv fo : Int) (px : ByteArray) (br : Option Addr) (dr : Nat) (w : World) (hn : L.length ≤ 1048576) (hS : Stars w ad L L.length) (hb : ∀ y, ad = some y → y.block < w.heap.size) (hn2 : S.length ≤ 1048576) (hdr : S.length ≤ dr) (hd9 : dr ≤ 9223372036854775807) (hD : Dirs w br S S.length) (hB : ∀ y, br = some y → y.block < w.heap.size) (hc : cmdB ⟨4, g1, g2, g3, g4, S, wd, ht, px, lv, fo⟩ = true) (hs : px.size ≤ maxLen) :
    Calls Tryz.prog 29 #[.agg #[.slice ad L.length c, .int .i64 lim, .int .i64 mode, .int .i64 A, .int .i64 B, .int .i64 C, .int .i64 D, .int .i64 coast, .int .i64 fr], .agg #[.int .i64 4, .int .i64 g1, .int .i64 g2, .int .i64 g3, .int .i64 g4, .slice br S.length dr, .int .i64 wd, .int .i64 ht, .string px, .int .i64 lv, .int .i64 fo]] w fun e w' => OutT w' w.heap.size (obeyT ⟨L, lim, mode, A, B, C, D, coast, fr⟩ ⟨4, g1, g2, g3, g4, S, wd, ht, px, lv, fo⟩) (obeyC ⟨L, lim, mode, A, B, C, D, coast, fr⟩ ⟨4, g1, g2, g3, g4, S, wd, ht, px, lv, fo⟩) e ∧ Below w.heap.size w w' := by
  rw [(obey_4 hc rfl).1, (obey_4 hc rfl).2]
  try dsimp only
  clear hc
  have B0 := yz (below3 w (.cells #[.slice ad L.length c, .int .i64 lim, .int .i64 mode, .int .i64 A, .int .i64 B, .int .i64 C, .int .i64 D, .int .i64 coast, .int .i64 fr] 37) (.cells #[.int .i64 4, .int .i64 g1, .int .i64 g2, .int .i64 g3, .int .i64 g4, .slice br S.length dr, .int .i64 wd, .int .i64 ht, .string px, .int .i64 lv, .int .i64 fo] 45) (.cells #[.slice none 0 0, .int .i64 0, .int .i64 0, .int .i64 0, .int .i64 0, .int .i64 0, .int .i64 0, .int .i64 0, .int .i64 0, .int .i64 0] 39))
  have A0 := yz (((blk_new w [.slice ad L.length c, .int .i64 lim, .int .i64 mode, .int .i64 A, .int .i64 B, .int .i64 C, .int .i64 D, .int .i64 coast, .int .i64 fr] 37).alloc (.cells #[.int .i64 4, .int .i64 g1, .int .i64 g2, .int .i64 g3, .int .i64 g4, .slice br S.length dr, .int .i64 wd, .int .i64 ht, .string px, .int .i64 lv, .int .i64 fo] 45)).alloc (.cells #[.slice none 0 0, .int .i64 0, .int .i64 0, .int .i64 0, .int .i64 0, .int .i64 0, .int .i64 0, .int .i64 0, .int .i64 0, .int .i64 0] 39))
  have K0 := yz ((by simpa using blk_new (w.alloc (.cells #[.slice ad L.length c, .int .i64 lim, .int .i64 mode, .int .i64 A, .int .i64 B, .int .i64 C, .int .i64 D, .int .i64 coast, .int .i64 fr] 37)) [.int .i64 4, .int .i64 g1, .int .i64 g2, .int .i64 g3, .int .i64 g4, .slice br S.length dr, .int .i64 wd, .int .i64 ht, .string px, .int .i64 lv, .int .i64 fo] 45 : Blk ((w.alloc (.cells #[.slice ad L.length c, .int .i64 lim, .int .i64 mode, .int .i64 A, .int .i64 B, .int .i64 C, .int .i64 D, .int .i64 coast, .int .i64 fr] 37)).alloc (.cells #[.int .i64 4, .int .i64 g1, .int .i64 g2, .int .i64 g3, .int .i64 g4, .slice br S.length dr, .int .i64 wd, .int .i64 ht, .string px, .int .i64 lv, .int .i64 fo] 45)) (w.heap.size + 1) [.int .i64 4, .int .i64 g1, .int .i64 g2, .int .i64 g3, .int .i64 g4, .slice br S.length dr, .int .i64 wd, .int .i64 ht, .string px, .int .i64 lv, .int .i64 fo] 45).alloc (.cells #[.slice none 0 0, .int .i64 0, .int .i64 0, .int .i64 0, .int .i64 0, .int .i64 0, .int .i64 0, .int .i64 0, .int .i64 0, .int .i64 0] 39))
  have R0 := yz (by simpa using blk_new ((w.alloc (.cells #[.slice ad L.length c, .int .i64 lim, .int .i64 mode, .int .i64 A, .int .i64 B, .int .i64 C, .int .i64 D, .int .i64 coast, .int .i64 fr] 37)).alloc (.cells #[.int .i64 4, .int .i64 g1, .int .i64 g2, .int .i64 g3, .int .i64 g4, .slice br S.length dr, .int .i64 wd, .int .i64 ht, .string px, .int .i64 lv, .int .i64 fo] 45)) [.slice none 0 0, .int .i64 0, .int .i64 0, .int .i64 0, .int .i64 0, .int .i64 0, .int .i64 0, .int .i64 0, .int .i64 0, .int .i64 0] 39 : Blk (((w.alloc (.cells #[.slice ad L.length c, .int .i64 lim, .int .i64 mode, .int .i64 A, .int .i64 B, .int .i64 C, .int .i64 D, .int .i64 coast, .int .i64 fr] 37)).alloc (.cells #[.int .i64 4, .int .i64 g1, .int .i64 g2, .int .i64 g3, .int .i64 g4, .slice br S.length dr, .int .i64 wd, .int .i64 ht, .string px, .int .i64 lv, .int .i64 fo] 45)).alloc (.cells #[.slice none 0 0, .int .i64 0, .int .i64 0, .int .i64 0, .int .i64 0, .int .i64 0, .int .i64 0, .int .i64 0, .int .i64 0, .int .i64 0] 39)) (w.heap.size + 1 + 1) [.slice none 0 0, .int .i64 0, .int .i64 0, .int .i64 0, .int .i64 0, .int .i64 0, .int .i64 0, .int .i64 0, .int .i64 0, .int .i64 0] 39)
  have hl0 : w.heap.size + 1 + 1 + 1 ≤ (((w.alloc (.cells #[.slice ad L.length c, .int .i64 lim, .int .i64 mode, .int .i64 A, .int .i64 B, .int .i64 C, .int .i64 D, .int .i64 coast, .int .i64 fr] 37)).alloc (.cells #[.int .i64 4, .int .i64 g1, .int .i64 g2, .int .i64 g3, .int .i64 g4, .slice br S.length dr, .int .i64 wd, .int .i64 ht, .string px, .int .i64 lv, .int .i64 fo] 45)).alloc (.cells #[.slice none 0 0, .int .i64 0, .int .i64 0, .int .i64 0, .int .i64 0, .int .i64 0, .int .i64 0, .int .i64 0, .int .i64 0, .int .i64 0] 39)).heap.size := by simp
  have hb0 : ∀ W : World, Below w.heap.size w W → ∀ y, ad = some y → y.block < W.heap.size := fun W h y e => Nat.lt_of_lt_of_le (hb y e) h.size
  have hB0 : ∀ W : World, Below w.heap.size w W → ∀ y, br = some y → y.block < W.heap.size := fun W h y e => Nat.lt_of_lt_of_le (hB y e) h.size
  have hRl := spotsR_len wd ht px lv fo
  have hRr := spotsR_right wd ht px lv fo
  have hFl := few_short (spotsR wd ht px lv fo)
  have cP := yz (fun W => specSpotsOf_any wd ht px lv fo W hs)
  have cK := yz (fun (W : World) (h : Below w.heap.size w W) (x : Option Addr) (k : Nat) (hk : (fewS (spotsR wd ht px lv fo)).length ≤ k) (hk9 : k ≤ 9223372036854775807) (hd : Dirs W x (fewS (spotsR wd ht px lv fo)) (fewS (spotsR wd ht px lv fo)).length) (hx : ∀ y, x = some y → y.block < W.heap.size) => specLook_any L (fewS (spotsR wd ht px lv fo)) lim mode A B C D coast fr ad c x k W hn (by omega) (hS.kept h) hd (hb0 W h) hx hk hk9)
  obtain ⟨t2, ht2⟩ : ∃ z, lookT ⟨L, lim, mode, A, B, C, D, coast, fr⟩ (fewS (spotsR wd ht px lv fo)) = z := ⟨_, rfl⟩
  obtain ⟨code, hco⟩ : ∃ z, lookC ⟨L, lim, mode, A, B, C, D, coast, fr⟩ (fewS (spotsR wd ht px lv fo)) = z := ⟨_, rfl⟩
  rw [ht2, hco] at cK ⊢
  obtain ⟨L2, lim2, mode2, A2, B2, C2, D2, coast2, fr2⟩ := t2
  clear ht2 hco hS hD hb hB hb0 hB0
  have cF := yz (fun W x y h1 h2 => l08Few_any (spotsR wd ht px lv fo) x y W hRl hRr h1 h2)
  generalize fewS (spotsR wd ht px lv fo) = FS at cF cK hFl
  generalize spotsR wd ht px lv fo = RS at cF cP hRl
  clear hRr
  go_enter Tryz.func29, Tryz.ntmps29
  have k0 := (yx K0).cell 0 _ rfl
  go_wp2_with fail
  clear k0
  refine wp_region_held_drew (S := (fun w' => w'.cell? ⟨w.heap.size, 0, none⟩ = some (.slice ad L.length c) ∧ w'.cell? ⟨w.heap.size, 1, none⟩ = some (.int .i64 lim) ∧ w'.cell? ⟨w.heap.size, 2, none⟩ = some (.int .i64 mode) ∧ w'.cell? ⟨w.heap.size, 3, none⟩ = some (.int .i64 A) ∧ w'.cell? ⟨w.heap.size, 4, none⟩ = some (.int .i64 B) ∧ w'.cell? ⟨w.heap.size, 5, none⟩ = some (.int .i64 C) ∧ w'.cell? ⟨w.heap.size, 6, none⟩ = some (.int .i64 D) ∧ w'.cell? ⟨w.heap.size, 7, none⟩ = some (.int .i64 coast) ∧ w'.cell? ⟨w.heap.size, 8, none⟩ = some (.int .i64 fr) ∧ w'.cell? ⟨w.heap.size + 1, 6, none⟩ = some (.int .i64 wd) ∧ w'.cell? ⟨w.heap.size + 1, 7, none⟩ = some (.int .i64 ht) ∧ w'.cell? ⟨w.heap.size + 1, 8, none⟩ = some (.string px) ∧ w'.cell? ⟨w.heap.size + 1, 9, none⟩ = some (.int .i64 lv) ∧ w'.cell? ⟨w.heap.size + 1, 10, none⟩ = some (.int .i64 fo) )) (by kernel_rfl) ?_ (fun hHeld => ?_)
  · exact ⟨(yx A0).cell 0 _ rfl, (yx A0).cell 1 _ rfl, (yx A0).cell 2 _ rfl, (yx A0).cell 3 _ rfl, (yx A0).cell 4 _ rfl, (yx A0).cell 5 _ rfl, (yx A0).cell 6 _ rfl, (yx A0).cell 7 _ rfl, (yx A0).cell 8 _ rfl, (yx K0).cell 6 _ rfl, (yx K0).cell 7 _ rfl, (yx K0).cell 8 _ rfl, (yx K0).cell 9 _ rfl, (yx K0).cell 10 _ rfl⟩
  refine wpAnyH_take (i := 0) (v := ?_) rfl (by kernel_rfl) (by kernel_rfl) (by kernel_rfl) (fun _ _ _ h => h) (Or.inl ⟨by rfl, ?_⟩) (by assumption) ?_
  rotate_left
  · intro W0 hSw; (try dsimp only at hSw); go_simp <;> with_reducible rfl
  try simp only [Act.put, List.setIfInBounds_toArray, List.set_cons_zero, List.set_cons_succ]
  refine wpAnyH_take (i := 1) (v := ?_) rfl (by kernel_rfl) (by kernel_rfl) (by kernel_rfl) (fun _ _ _ h => h) (Or.inl ⟨by rfl, ?_⟩) (by assumption) ?_
  rotate_left
  · intro W0 hSw; (try dsimp only at hSw); go_simp <;> with_reducible rfl
  try simp only [Act.put, List.setIfInBounds_toArray, List.set_cons_zero, List.set_cons_succ]
  refine wpAnyH_take (i := 2) (v := ?_) rfl (by kernel_rfl) (by kernel_rfl) (by kernel_rfl) (fun _ _ _ h => h) (Or.inl ⟨by rfl, ?_⟩) (by assumption) ?_
  rotate_left
  · intro W0 hSw; (try dsimp only at hSw); go_simp <;> with_reducible rfl
  try simp only [Act.put, List.setIfInBounds_toArray, List.set_cons_zero, List.set_cons_succ]
  refine wpAnyH_take (i := 3) (v := ?_) rfl (by kernel_rfl) (by kernel_rfl) (by kernel_rfl) (fun _ _ _ h => h) (Or.inl ⟨by rfl, ?_⟩) (by assumption) ?_
  rotate_left
  · intro W0 hSw; (try dsimp only at hSw); go_simp <;> with_reducible rfl
  try simp only [Act.put, List.setIfInBounds_toArray, List.set_cons_zero, List.set_cons_succ]
  refine wpAnyH_take (i := 4) (v := ?_) rfl (by kernel_rfl) (by kernel_rfl) (by kernel_rfl) (fun _ _ _ h => h) (Or.inl ⟨by rfl, ?_⟩) (by assumption) ?_
  rotate_left
  · intro W0 hSw; (try dsimp only at hSw); go_simp <;> with_reducible rfl
  try simp only [Act.put, List.setIfInBounds_toArray, List.set_cons_zero, List.set_cons_succ]
  refine wpAnyH_take (i := 5) (v := ?_) rfl (by kernel_rfl) (by kernel_rfl) (by kernel_rfl) (fun _ _ _ h => h) (Or.inl ⟨by rfl, ?_⟩) (by assumption) ?_
  rotate_left
  · intro W0 hSw; (try dsimp only at hSw); go_simp <;> with_reducible rfl
  try simp only [Act.put, List.setIfInBounds_toArray, List.set_cons_zero, List.set_cons_succ]
  refine wpAnyH_take (i := 6) (v := ?_) rfl (by kernel_rfl) (by kernel_rfl) (by kernel_rfl) (fun _ _ _ h => h) (Or.inl ⟨by rfl, ?_⟩) (by assumption) ?_
  rotate_left
  · intro W0 hSw; (try dsimp only at hSw); go_simp <;> with_reducible rfl
  try simp only [Act.put, List.setIfInBounds_toArray, List.set_cons_zero, List.set_cons_succ]
  have Bd := yz ((yx B0).drew)
  have Ad := yz ((yx A0).drewn)
  have Kd := yz ((yx K0).drewn)
  have Rd := yz ((yx R0).drewn)
  have hld : w.heap.size + 1 + 1 + 1 ≤ (World.drew (((w.alloc (.cells #[.slice ad L.length c, .int .i64 lim, .int .i64 mode, .int .i64 A, .int .i64 B, .int .i64 C, .int .i64 D, .int .i64 coast, .int .i64 fr] 37)).alloc (.cells #[.int .i64 4, .int .i64 g1, .int .i64 g2, .int .i64 g3, .int .i64 g4, .slice br S.length dr, .int .i64 wd, .int .i64 ht, .string px, .int .i64 lv, .int .i64 fo] 45)).alloc (.cells #[.slice none 0 0, .int .i64 0, .int .i64 0, .int .i64 0, .int .i64 0, .int .i64 0, .int .i64 0, .int .i64 0, .int .i64 0, .int .i64 0] 39))).heap.size := hl0
  generalize World.drew (((w.alloc (.cells #[.slice ad L.length c, .int .i64 lim, .int .i64 mode, .int .i64 A, .int .i64 B, .int .i64 C, .int .i64 D, .int .i64 coast, .int .i64 fr] 37)).alloc (.cells #[.int .i64 4, .int .i64 g1, .int .i64 g2, .int .i64 g3, .int .i64 g4, .slice br S.length dr, .int .i64 wd, .int .i64 ht, .string px, .int .i64 lv, .int .i64 fo] 45)).alloc (.cells #[.slice none 0 0, .int .i64 0, .int .i64 0, .int .i64 0, .int .i64 0, .int .i64 0, .int .i64 0, .int .i64 0, .int .i64 0, .int .i64 0] 39)) = V at Bd Ad Kd Rd hld hHeld ⊢
  clear B0 A0 K0 R0 hl0
  refine wpAnyH_ready (rs := [7]) (by kernel_rfl) (by simp) ?_
  refine AllReadyH.cons rfl (fun K hK => ?_) AllReadyH.nil
  go_simp
  refine (yx cP _).mono ?_
  rintro e v1 ⟨⟨x1, rfl, ho⟩, hx⟩
  obtain ⟨a1, c1, rfl⟩ := own_slice ho
  have B1 := yz (below_call (yx Bd) hx)
  have A1 := yz ((yx Ad).kept hx)
  have K1 := yz ((yx Kd).kept hx)
  have R1 := yz ((yx Rd).kept hx)
  have D1 := yz (dirs_ownV ho).1
  have hf1 : ∀ y, a1 = some y → y.block < v1.heap.size := fun y e => (own_far ho y e).2
  have hl1 := hx.size
  clear hx ho Bd Ad Kd Rd cP
  refine hK.out _ _ ⟨(yx A1).cell 0 _ rfl, (yx A1).cell 1 _ rfl, (yx A1).cell 2 _ rfl, (yx A1).cell 3 _ rfl, (yx A1).cell 4 _ rfl, (yx A1).cell 5 _ rfl, (yx A1).cell 6 _ rfl, (yx A1).cell 7 _ rfl, (yx A1).cell 8 _ rfl, (yx K1).cell 6 _ rfl, (yx K1).cell 7 _ rfl, (yx K1).cell 8 _ rfl, (yx K1).cell 9 _ rfl, (yx K1).cell 10 _ rfl⟩ (fun hHeld1 => ?_)
  clear hK K hHeld
  refine wpAnyH_ready (rs := [8]) (by kernel_rfl) (by simp) ?_
  refine AllReadyH.cons rfl (fun K hK => ?_) AllReadyH.nil
  go_simp
  refine (yx cF _ _ _ (yx D1) hf1).mono ?_
  rintro e v2 ⟨⟨x2, rfl, ho⟩, hx⟩
  obtain ⟨a3, c3, rfl⟩ := own_slice ho
  have B2' := yz (below_call (yx B1) hx)
  have A2' := yz ((yx A1).kept hx)
  have K2' := yz ((yx K1).kept hx)
  have R2' := yz ((yx R1).kept hx)
  have hm8 : maxLen ≤ 9223372036854775807 := by decide +kernel
  have hdd := dirs_ownV ho
  have D2'' := yz hdd.1
  have hf2 : ∀ y, a3 = some y → y.block < v2.heap.size := fun y e => (own_far ho y e).2
  have hc3 : FS.length ≤ c3 ∧ c3 ≤ 9223372036854775807 := by rcases hdd.2 with h | h <;> omega
  have hl2 := hx.size
  clear hx ho hdd B1 A1 K1 R1 D1 cF
  refine hK.out _ _ ⟨(yx A2').cell 0 _ rfl, (yx A2').cell 1 _ rfl, (yx A2').cell 2 _ rfl, (yx A2').cell 3 _ rfl, (yx A2').cell 4 _ rfl, (yx A2').cell 5 _ rfl, (yx A2').cell 6 _ rfl, (yx A2').cell 7 _ rfl, (yx A2').cell 8 _ rfl, (yx K2').cell 6 _ rfl, (yx K2').cell 7 _ rfl, (yx K2').cell 8 _ rfl, (yx K2').cell 9 _ rfl, (yx K2').cell 10 _ rfl⟩ (fun hHeld2 => ?_)
  clear hK K hHeld1
  refine wpAnyH_ready (rs := [9]) (by kernel_rfl) (by simp) ?_
  refine AllReadyH.cons rfl (fun K hK => ?_) AllReadyH.nil
  go_simp
  refine (yx cK _ (yx B2') a3 c3 hc3.1 hc3.2 (yx D2'') hf2).mono ?_
  rintro e w3 ⟨⟨a2, c2, rfl, hC⟩, hx⟩
  dsimp only at hC
  have C5 := yz (hC.low (B' := w.heap.size + 1 + 1 + 1) (by omega))
  have R5 := yz ((yx R2').kept hx)
  have A5 := yz ((yx A2').kept hx)
  have K5 := yz ((yx K2').kept hx)
  have B5 := yz (below_call (yx B2') hx)
  clear hx hC R2' B2' A2' K2' cK D2''
  refine hK.out _ _ ⟨(yx A5).cell 0 _ rfl, (yx A5).cell 1 _ rfl, (yx A5).cell 2 _ rfl, (yx A5).cell 3 _ rfl, (yx A5).cell 4 _ rfl, (yx A5).cell 5 _ rfl, (yx A5).cell 6 _ rfl, (yx A5).cell 7 _ rfl, (yx A5).cell 8 _ rfl, (yx K5).cell 6 _ rfl, (yx K5).cell 7 _ rfl, (yx K5).cell 8 _ rfl, (yx K5).cell 9 _ rfl, (yx K5).cell 10 _ rfl⟩ (fun hHeld3 => ?_)
  clear hK K hHeld2
  refine wpAnyH_ready (rs := [10]) (by kernel_rfl) (by simp) ?_
  refine AllReadyH.cons rfl (fun K hK => ?_) AllReadyH.nil
  obtain ⟨r0, r1, r2, r3, r4, r5, r6, r7, r8, r9⟩ := bcs10 (yx R5)
  obtain ⟨e0, e1, e2, e3, e4, e5, e6, e7, e8, e9⟩ := bfs10 (yx R5)
  go_simp
  clear r0 r1 r2 r3 r4 r5 r6 r7 r8 r9 e0 e1 e2 e3 e4 e5 e6 e7 e8 e9
  have A6 := yz (blk_off10 (yx A5) (show w.heap.size ≠ w.heap.size + 1 + 1 by omega) (.slice a2 L2.length c2) (.int .i64 lim2) (.int .i64 mode2) (.int .i64 A2) (.int .i64 B2) (.int .i64 C2) (.int .i64 D2) (.int .i64 coast2) (.int .i64 fr2) (.int .i64 code))
  have K6 := yz (blk_off10 (yx K5) (show w.heap.size + 1 ≠ w.heap.size + 1 + 1 by omega) (.slice a2 L2.length c2) (.int .i64 lim2) (.int .i64 mode2) (.int .i64 A2) (.int .i64 B2) (.int .i64 C2) (.int .i64 D2) (.int .i64 coast2) (.int .i64 fr2) (.int .i64 code))
  refine hK.out _ _ ⟨(yx A6).cell 0 _ rfl, (yx A6).cell 1 _ rfl, (yx A6).cell 2 _ rfl, (yx A6).cell 3 _ rfl, (yx A6).cell 4 _ rfl, (yx A6).cell 5 _ rfl, (yx A6).cell 6 _ rfl, (yx A6).cell 7 _ rfl, (yx A6).cell 8 _ rfl, (yx K6).cell 6 _ rfl, (yx K6).cell 7 _ rfl, (yx K6).cell 8 _ rfl, (yx K6).cell 9 _ rfl, (yx K6).cell 10 _ rfl⟩ (fun hHeld4 => ?_)
  clear hK K hHeld3 A6 K6
  refine wpAnyH_done (by kernel_rfl) ?_ _
  clear hHeld4
  go_wp2_with fail
  refine bodyPost_ret (v := .agg #[.slice a2 L2.length c2, .int .i64 lim2, .int .i64 mode2, .int .i64 A2, .int .i64 B2, .int .i64 C2, .int .i64 D2, .int .i64 coast2, .int .i64 fr2, .int .i64 code]) ?_ rfl ⟨?_, ?_⟩
  · exact res_sob _ _ (w.heap.size + 1 + 1) _ lim2 mode2 A2 B2 C2 D2 coast2 fr2 code rfl (tkO_blk (blk_set10 (yx R5) rfl _ lim2 mode2 A2 B2 C2 D2 coast2 fr2 code))
  · refine ⟨a2, c2, rfl, ?_⟩
    refine Copied.low (B := w.heap.size + 1 + 1 + 1) ?_ (by omega)
    iterate 10 (refine Copied.far ?_ (Nat.lt_succ_self (w.heap.size + 1 + 1)) _ _)
    exact yx C5
  · iterate 10 (refine belowSet ?_ (show w.heap.size ≤ w.heap.size + 1 + 1 by omega) _ _)
    exact yx B5
theorem res_sobey (T : Array Value) (X : World) (b : Nat) (v : Value) (lim mode A B C D coast fr code : Int) (hT : T.getD 4 undef = .pointer (some ⟨b, 0, none⟩)) (h : TkO X b v lim mode A B C D coast fr code) : (results Tryz.f7 T).run Tryz.prog X = .ok (.agg #[v, .int .i64 lim, .int .i64 mode, .int .i64 A, .int .i64 B, .int .i64 C, .int .i64 D, .int .i64 coast, .int .i64 fr, .int .i64 code]) X := by
  obtain ⟨⟨h0, h1, h2, h3, h4, h5, h6, h7, h8⟩, h9⟩ := h
  simp only [Array.getD_eq_getD_getElem?] at hT
  simp [results, Tryz.results7, go_sem, hT, h0, h1, h2, h3, h4, h5, h6, h7, h8, h9]
theorem l08Obey_any (kind : Int) (L : List St) (lim mode A B C D coast fr : Int) (ad : Option Addr) (c : Nat) (S : List D3) (g1 g2 g3 g4 wd ht lv fo : Int) (px : ByteArray) (br : Option Addr) (dr : Nat) (w : World) (hn : L.length ≤ 1048576) (hS : Stars w ad L L.length) (hb : ∀ y, ad = some y → y.block < w.heap.size) (hn2 : S.length ≤ 1048576) (hdr : S.length ≤ dr) (hd9 : dr ≤ 9223372036854775807) (hD : Dirs w br S S.length) (hB : ∀ y, br = some y → y.block < w.heap.size) (hc : cmdB ⟨kind, g1, g2, g3, g4, S, wd, ht, px, lv, fo⟩ = true) (hs : px.size ≤ maxLen) :
    Calls Tryz.prog 29 #[.agg #[.slice ad L.length c, .int .i64 lim, .int .i64 mode, .int .i64 A, .int .i64 B, .int .i64 C, .int .i64 D, .int .i64 coast, .int .i64 fr], .agg #[.int .i64 kind, .int .i64 g1, .int .i64 g2, .int .i64 g3, .int .i64 g4, .slice br S.length dr, .int .i64 wd, .int .i64 ht, .string px, .int .i64 lv, .int .i64 fo]] w fun e w' => OutT w' w.heap.size (obeyT ⟨L, lim, mode, A, B, C, D, coast, fr⟩ ⟨kind, g1, g2, g3, g4, S, wd, ht, px, lv, fo⟩) (obeyC ⟨L, lim, mode, A, B, C, D, coast, fr⟩ ⟨kind, g1, g2, g3, g4, S, wd, ht, px, lv, fo⟩) e ∧ Below w.heap.size w w' := by
  rcases right_nO hc with hk | hk | hk | hk
  · obtain rfl : kind = 1 := hk
    exact l08Obey_1 L lim mode A B C D coast fr ad c S g1 g2 g3 g4 wd ht lv fo px br dr w hn hS hb hn2 hdr hd9 hD hB hc hs
  · obtain rfl : kind = 2 := hk
    exact l08Obey_2 L lim mode A B C D coast fr ad c S g1 g2 g3 g4 wd ht lv fo px br dr w hn hS hb hn2 hdr hd9 hD hB hc hs
  · obtain rfl : kind = 3 := hk
    exact l08Obey_3 L lim mode A B C D coast fr ad c S g1 g2 g3 g4 wd ht lv fo px br dr w hn hS hb hn2 hdr hd9 hD hB hc hs
  · obtain rfl : kind = 4 := hk
    exact l08Obey_4 L lim mode A B C D coast fr ad c S g1 g2 g3 g4 wd ht lv fo px br dr w hn hS hb hn2 hdr hd9 hD hB hc hs
set_option maxHeartbeats 8000000 in
set_option maxRecDepth 100000 in
theorem specObey_any (kind : Int) (L : List St) (lim mode A B C D coast fr : Int) (ad : Option Addr) (c : Nat) (S : List D3) (g1 g2 g3 g4 wd ht lv fo : Int) (px : ByteArray) (br : Option Addr) (dr : Nat) (w : World) (hn : L.length ≤ 1048576) (hS : Stars w ad L L.length) (hb : ∀ y, ad = some y → y.block < w.heap.size) (hn2 : S.length ≤ 1048576) (hdr : S.length ≤ dr) (hd9 : dr ≤ 9223372036854775807) (hD : Dirs w br S S.length) (hB : ∀ y, br = some y → y.block < w.heap.size) (hs : px.size ≤ maxLen) :
    Calls Tryz.prog 7 #[.agg #[.slice ad L.length c, .int .i64 lim, .int .i64 mode, .int .i64 A, .int .i64 B, .int .i64 C, .int .i64 D, .int .i64 coast, .int .i64 fr], .agg #[.int .i64 kind, .int .i64 g1, .int .i64 g2, .int .i64 g3, .int .i64 g4, .slice br S.length dr, .int .i64 wd, .int .i64 ht, .string px, .int .i64 lv, .int .i64 fo]] w fun e w' => OutT w' w.heap.size (obeyT ⟨L, lim, mode, A, B, C, D, coast, fr⟩ ⟨kind, g1, g2, g3, g4, S, wd, ht, px, lv, fo⟩) (obeyC ⟨L, lim, mode, A, B, C, D, coast, fr⟩ ⟨kind, g1, g2, g3, g4, S, wd, ht, px, lv, fo⟩) e ∧ Below w.heap.size w w' := by
  have B0 := yz (below3 w (.cells #[.slice ad L.length c, .int .i64 lim, .int .i64 mode, .int .i64 A, .int .i64 B, .int .i64 C, .int .i64 D, .int .i64 coast, .int .i64 fr] 37) (.cells #[.int .i64 kind, .int .i64 g1, .int .i64 g2, .int .i64 g3, .int .i64 g4, .slice br S.length dr, .int .i64 wd, .int .i64 ht, .string px, .int .i64 lv, .int .i64 fo] 45) (.cells #[.slice none 0 0, .int .i64 0, .int .i64 0, .int .i64 0, .int .i64 0, .int .i64 0, .int .i64 0, .int .i64 0, .int .i64 0, .int .i64 0] 39))
  have A0 := yz (((blk_new w [.slice ad L.length c, .int .i64 lim, .int .i64 mode, .int .i64 A, .int .i64 B, .int .i64 C, .int .i64 D, .int .i64 coast, .int .i64 fr] 37).alloc (.cells #[.int .i64 kind, .int .i64 g1, .int .i64 g2, .int .i64 g3, .int .i64 g4, .slice br S.length dr, .int .i64 wd, .int .i64 ht, .string px, .int .i64 lv, .int .i64 fo] 45)).alloc (.cells #[.slice none 0 0, .int .i64 0, .int .i64 0, .int .i64 0, .int .i64 0, .int .i64 0, .int .i64 0, .int .i64 0, .int .i64 0, .int .i64 0] 39))
  have K0 := yz ((by simpa using blk_new (w.alloc (.cells #[.slice ad L.length c, .int .i64 lim, .int .i64 mode, .int .i64 A, .int .i64 B, .int .i64 C, .int .i64 D, .int .i64 coast, .int .i64 fr] 37)) [.int .i64 kind, .int .i64 g1, .int .i64 g2, .int .i64 g3, .int .i64 g4, .slice br S.length dr, .int .i64 wd, .int .i64 ht, .string px, .int .i64 lv, .int .i64 fo] 45 : Blk ((w.alloc (.cells #[.slice ad L.length c, .int .i64 lim, .int .i64 mode, .int .i64 A, .int .i64 B, .int .i64 C, .int .i64 D, .int .i64 coast, .int .i64 fr] 37)).alloc (.cells #[.int .i64 kind, .int .i64 g1, .int .i64 g2, .int .i64 g3, .int .i64 g4, .slice br S.length dr, .int .i64 wd, .int .i64 ht, .string px, .int .i64 lv, .int .i64 fo] 45)) (w.heap.size + 1) [.int .i64 kind, .int .i64 g1, .int .i64 g2, .int .i64 g3, .int .i64 g4, .slice br S.length dr, .int .i64 wd, .int .i64 ht, .string px, .int .i64 lv, .int .i64 fo] 45).alloc (.cells #[.slice none 0 0, .int .i64 0, .int .i64 0, .int .i64 0, .int .i64 0, .int .i64 0, .int .i64 0, .int .i64 0, .int .i64 0, .int .i64 0] 39))
  have R0 := yz (by simpa using blk_new ((w.alloc (.cells #[.slice ad L.length c, .int .i64 lim, .int .i64 mode, .int .i64 A, .int .i64 B, .int .i64 C, .int .i64 D, .int .i64 coast, .int .i64 fr] 37)).alloc (.cells #[.int .i64 kind, .int .i64 g1, .int .i64 g2, .int .i64 g3, .int .i64 g4, .slice br S.length dr, .int .i64 wd, .int .i64 ht, .string px, .int .i64 lv, .int .i64 fo] 45)) [.slice none 0 0, .int .i64 0, .int .i64 0, .int .i64 0, .int .i64 0, .int .i64 0, .int .i64 0, .int .i64 0, .int .i64 0, .int .i64 0] 39 : Blk (((w.alloc (.cells #[.slice ad L.length c, .int .i64 lim, .int .i64 mode, .int .i64 A, .int .i64 B, .int .i64 C, .int .i64 D, .int .i64 coast, .int .i64 fr] 37)).alloc (.cells #[.int .i64 kind, .int .i64 g1, .int .i64 g2, .int .i64 g3, .int .i64 g4, .slice br S.length dr, .int .i64 wd, .int .i64 ht, .string px, .int .i64 lv, .int .i64 fo] 45)).alloc (.cells #[.slice none 0 0, .int .i64 0, .int .i64 0, .int .i64 0, .int .i64 0, .int .i64 0, .int .i64 0, .int .i64 0, .int .i64 0, .int .i64 0] 39)) (w.heap.size + 1 + 1) [.slice none 0 0, .int .i64 0, .int .i64 0, .int .i64 0, .int .i64 0, .int .i64 0, .int .i64 0, .int .i64 0, .int .i64 0, .int .i64 0] 39)
  have hl0 : w.heap.size + 1 + 1 + 1 ≤ (((w.alloc (.cells #[.slice ad L.length c, .int .i64 lim, .int .i64 mode, .int .i64 A, .int .i64 B, .int .i64 C, .int .i64 D, .int .i64 coast, .int .i64 fr] 37)).alloc (.cells #[.int .i64 kind, .int .i64 g1, .int .i64 g2, .int .i64 g3, .int .i64 g4, .slice br S.length dr, .int .i64 wd, .int .i64 ht, .string px, .int .i64 lv, .int .i64 fo] 45)).alloc (.cells #[.slice none 0 0, .int .i64 0, .int .i64 0, .int .i64 0, .int .i64 0, .int .i64 0, .int .i64 0, .int .i64 0, .int .i64 0, .int .i64 0] 39)).heap.size := by simp
  have cT := yz (specTrack_any L lim mode A B C D coast fr ad c _ hn (hS.kept (yx B0)))
  have cC := yz (fun (W : World) (h : Below w.heap.size w W) => specCommandRight_any S kind g1 g2 g3 g4 wd ht lv fo px br dr W hn2 (hD.kept h))
  have cO := yz (fun (W : World) (h : Below w.heap.size w W) (hc : cmdB ⟨kind, g1, g2, g3, g4, S, wd, ht, px, lv, fo⟩ = true) => l08Obey_any kind L lim mode A B C D coast fr ad c S g1 g2 g3 g4 wd ht lv fo px br dr W hn (hS.kept h) (fun y e => Nat.lt_of_lt_of_le (hb y e) h.size) hn2 hdr hd9 (hD.kept h) (fun y e => Nat.lt_of_lt_of_le (hB y e) h.size) hc hs)
  have HI := yz (fun h => obey_ill (t := ⟨L, lim, mode, A, B, C, D, coast, fr⟩) (c := ⟨kind, g1, g2, g3, g4, S, wd, ht, px, lv, fo⟩) h)
  have HN := yz (fun h => obey_no (t := ⟨L, lim, mode, A, B, C, D, coast, fr⟩) (c := ⟨kind, g1, g2, g3, g4, S, wd, ht, px, lv, fo⟩) h)
  obtain ⟨t2, ht2⟩ : ∃ z, obeyT ⟨L, lim, mode, A, B, C, D, coast, fr⟩ ⟨kind, g1, g2, g3, g4, S, wd, ht, px, lv, fo⟩ = z := ⟨_, rfl⟩
  obtain ⟨code, hco⟩ : ∃ z, obeyC ⟨L, lim, mode, A, B, C, D, coast, fr⟩ ⟨kind, g1, g2, g3, g4, S, wd, ht, px, lv, fo⟩ = z := ⟨_, rfl⟩
  rw [ht2, hco] at cO HI HN ⊢
  generalize trackB ⟨L, lim, mode, A, B, C, D, coast, fr⟩ = tb at cT HI
  generalize cmdB ⟨kind, g1, g2, g3, g4, S, wd, ht, px, lv, fo⟩ = cb at cC cO HN
  clear ht2 hco hS hD hb hB
  go_enter Tryz.func7, Tryz.ntmps7
  obtain ⟨q0, q1, q2, q3, q4, q5, q6, q7, q8⟩ := bcs9 (yx A0)
  go_wp2_with fail
  clear q0 q1 q2 q3 q4 q5 q6 q7 q8
  refine (yx cT).mono ?_
  rintro e w1 ⟨rfl, hx⟩
  have B1 := yz (below_call (yx B0) hx)
  have A1 := yz ((yx A0).kept hx)
  have K1 := yz ((yx K0).kept hx)
  have R1 := yz ((yx R0).kept hx)
  have hl1 := hx.size
  clear hx B0 A0 K0 R0 cT
  cases tb
  · have HO := yz (yx HI rfl)
    clear HI HN cC cO
    go_wp2_with fail
    refine (l07Ill_any 1 _).mono ?_
    rintro e w2 ⟨rfl, hx⟩
    have R2 := yz ((yx R1).kept hx)
    have B2 := yz (below_call (yx B1) hx)
    clear hx R1 B1 A1 K1
    obtain ⟨r0, r1, r2, r3, r4, r5, r6, r7, r8, r9⟩ := bcs10 (yx R2)
    obtain ⟨e0, e1, e2, e3, e4, e5, e6, e7, e8, e9⟩ := bfs10 (yx R2)
    go_wp2_with fail
    clear r0 r1 r2 r3 r4 r5 r6 r7 r8 r9 e0 e1 e2 e3 e4 e5 e6 e7 e8 e9
    refine bodyPost_ret (v := .agg #[.slice none 0 0, .int .i64 0, .int .i64 0, .int .i64 0, .int .i64 0, .int .i64 0, .int .i64 0, .int .i64 0, .int .i64 0, .int .i64 1]) ?_ rfl ⟨?_, ?_⟩
    · exact res_sobey _ _ (w.heap.size + 1 + 1) _ 0 0 0 0 0 0 0 0 1 rfl (tkO_blk (blk_set10 (yx R2) rfl _ 0 0 0 0 0 0 0 0 1))
    · rw [(yx HO).1, (yx HO).2]
      exact outT_ill _ _ _
    · iterate 10 (refine belowSet ?_ (show w.heap.size ≤ w.heap.size + 1 + 1 by omega) _ _)
      exact yx B2
  clear HI
  obtain ⟨k0, k1, k2, k3, k4, k5, k6, k7, k8, k9, k10⟩ := bcs11 (yx K1)
  go_wp2_with fail
  clear k0 k1 k2 k3 k4 k5 k6 k7 k8 k9 k10
  refine (yx cC _ (yx B1)).mono ?_
  rintro e w2 ⟨rfl, hx⟩
  have B2 := yz (below_call (yx B1) hx)
  have A2 := yz ((yx A1).kept hx)
  have K2 := yz ((yx K1).kept hx)
  have R2 := yz ((yx R1).kept hx)
  have hl2 := hx.size
  clear hx B1 A1 K1 R1 cC
  cases cb
  · have HO := yz (yx HN rfl)
    clear HN cO
    go_wp2_with fail
    refine (l07Ill_any 1 _).mono ?_
    rintro e w3 ⟨rfl, hx⟩
    have R3 := yz ((yx R2).kept hx)
    have B3 := yz (below_call (yx B2) hx)
    clear hx R2 B2 A2 K2
    obtain ⟨r0, r1, r2, r3, r4, r5, r6, r7, r8, r9⟩ := bcs10 (yx R3)
    obtain ⟨e0, e1, e2, e3, e4, e5, e6, e7, e8, e9⟩ := bfs10 (yx R3)
    go_wp2_with fail
    clear r0 r1 r2 r3 r4 r5 r6 r7 r8 r9 e0 e1 e2 e3 e4 e5 e6 e7 e8 e9
    refine bodyPost_ret (v := .agg #[.slice none 0 0, .int .i64 0, .int .i64 0, .int .i64 0, .int .i64 0, .int .i64 0, .int .i64 0, .int .i64 0, .int .i64 0, .int .i64 1]) ?_ rfl ⟨?_, ?_⟩
    · exact res_sobey _ _ (w.heap.size + 1 + 1) _ 0 0 0 0 0 0 0 0 1 rfl (tkO_blk (blk_set10 (yx R3) rfl _ 0 0 0 0 0 0 0 0 1))
    · rw [(yx HO).1, (yx HO).2]
      exact outT_ill _ _ _
    · iterate 10 (refine belowSet ?_ (show w.heap.size ≤ w.heap.size + 1 + 1 by omega) _ _)
      exact yx B3
  clear HN
  obtain ⟨L2, lim2, mode2, A2', B2', C2, D2', coast2, fr2⟩ := t2
  obtain ⟨q0, q1, q2, q3, q4, q5, q6, q7, q8⟩ := bcs9 (yx A2)
  obtain ⟨k0, k1, k2, k3, k4, k5, k6, k7, k8, k9, k10⟩ := bcs11 (yx K2)
  go_wp2_with fail
  clear q0 q1 q2 q3 q4 q5 q6 q7 q8 k0 k1 k2 k3 k4 k5 k6 k7 k8 k9 k10
  refine (yx cO _ (yx B2) (by first | rfl | trivial)).mono ?_
  rintro e w3 ⟨⟨a2, c2, rfl, hC⟩, hx⟩
  dsimp only at hC
  have C5 := yz (hC.low (B' := w.heap.size + 1 + 1 + 1) (by omega))
  have R5 := yz ((yx R2).kept hx)
  have B5 := yz (below_call (yx B2) hx)
  clear hx hC R2 B2 A2 K2 cO
  obtain ⟨r0, r1, r2, r3, r4, r5, r6, r7, r8, r9⟩ := bcs10 (yx R5)
  obtain ⟨e0, e1, e2, e3, e4, e5, e6, e7, e8, e9⟩ := bfs10 (yx R5)
  go_wp2_with fail
  clear r0 r1 r2 r3 r4 r5 r6 r7 r8 r9 e0 e1 e2 e3 e4 e5 e6 e7 e8 e9
  refine bodyPost_ret (v := .agg #[.slice a2 L2.length c2, .int .i64 lim2, .int .i64 mode2, .int .i64 A2', .int .i64 B2', .int .i64 C2, .int .i64 D2', .int .i64 coast2, .int .i64 fr2, .int .i64 code]) ?_ rfl ⟨?_, ?_⟩
  · exact res_sobey _ _ (w.heap.size + 1 + 1) _ lim2 mode2 A2' B2' C2 D2' coast2 fr2 code rfl (tkO_blk (blk_set10 (yx R5) rfl _ lim2 mode2 A2' B2' C2 D2' coast2 fr2 code))
  · refine ⟨a2, c2, rfl, ?_⟩
    refine Copied.low (B := w.heap.size + 1 + 1 + 1) ?_ (by omega)
    iterate 10 (refine Copied.far ?_ (Nat.lt_succ_self (w.heap.size + 1 + 1)) _ _)
    exact yx C5
  · iterate 10 (refine belowSet ?_ (show w.heap.size ≤ w.heap.size + 1 + 1 by omega) _ _)
    exact yx B5
end Go.Proofs.YteoonaanoenjiaaGreatDoor
