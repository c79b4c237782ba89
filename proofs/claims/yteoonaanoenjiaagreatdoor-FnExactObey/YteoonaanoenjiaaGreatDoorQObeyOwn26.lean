/- Several texts in one: ObE, ObF, CmF. -/
import Derived.Deep.RegionHeld
import Derived.Deep.DeepCutAuto
import Derived.Test.YteoonaanoenjiaaGreatDoorQObeyOwn25
import Derived.Test.YteoonaanoenjiaaGreatDoorQObeyOwn21
import Derived.Test.YteoonaanoenjiaaGreatDoorQObeyOwn19
import Derived.Test.YteoonaanoenjiaaGreatDoorQObeyOwn18
import Derived.Test.YteoonaanoenjiaaGreatDoorQObeyOwn24
namespace Go.Proofs.YteoonaanoenjiaaGreatDoor
open Go.RowKit Go.Sort
set_option linter.unusedVariables false
set_option linter.unusedSimpArgs false
theorem res_obd (T : Array Value) (X : World) (b : Nat) (v : Value) (lim mode A B C D coast fr code : Int) (hT : T.getD 4 undef = .pointer (some ⟨b, 0, none⟩)) (h : TkO X b v lim mode A B C D coast fr code) : (results Tryz.f35 T).run Tryz.prog X = .ok (.agg #[v, .int .i64 lim, .int .i64 mode, .int .i64 A, .int .i64 B, .int .i64 C, .int .i64 D, .int .i64 coast, .int .i64 fr, .int .i64 code]) X := by
  obtain ⟨⟨h0, h1, h2, h3, h4, h5, h6, h7, h8⟩, h9⟩ := h
  simp only [Array.getD_eq_getD_getElem?] at hT
  simp [results, Tryz.results35, go_sem, hT, h0, h1, h2, h3, h4, h5, h6, h7, h8, h9]
set_option maxHeartbeats 8000000 in
set_option maxRecDepth 100000 in
theorem obeyed_1 (L : List St) (lim mode A B C D coast fr : Int) (ad : Option Addr) (c : Nat) (S : List D3) (g1 g2 g3 g4 wd ht lv fo : Int) (px : ByteArray) (br : Option Addr) (dr : Nat) (p : Addr) (w : World) (hn : L.length ≤ 1048576) (hS : Stars w ad L L.length) (hb : ∀ y, ad = some y → y.block < w.heap.size) (hn2 : S.length ≤ 1048576) (hdr : S.length ≤ dr) (hd9 : dr ≤ 9223372036854775807) (hD : Dirs w br S S.length) (hB : ∀ y, br = some y → y.block < w.heap.size) (hcap : L.length ≤ c) (hc9 : c ≤ 9223372036854775807) (hE : ErrSky p w) (hs : px.size ≤ maxLen) :
    Calls Tryz.prog 35 #[.agg #[.slice ad L.length c, .int .i64 lim, .int .i64 mode, .int .i64 A, .int .i64 B, .int .i64 C, .int .i64 D, .int .i64 coast, .int .i64 fr], .iface 120 (.agg #[])] w fun e w' => OutT w' w.heap.size (resetT ⟨L, lim, mode, A, B, C, D, coast, fr⟩) (resetC ⟨L, lim, mode, A, B, C, D, coast, fr⟩) e ∧ Below w.heap.size w w' := by
  have B0 := yz (below2 w (.cells #[.slice ad L.length c, .int .i64 lim, .int .i64 mode, .int .i64 A, .int .i64 B, .int .i64 C, .int .i64 D, .int .i64 coast, .int .i64 fr] 37) (.cells #[.slice none 0 0, .int .i64 0, .int .i64 0, .int .i64 0, .int .i64 0, .int .i64 0, .int .i64 0, .int .i64 0, .int .i64 0, .int .i64 0] 39))
  have A0 := yz ((blk_new w [.slice ad L.length c, .int .i64 lim, .int .i64 mode, .int .i64 A, .int .i64 B, .int .i64 C, .int .i64 D, .int .i64 coast, .int .i64 fr] 37).alloc (.cells #[.slice none 0 0, .int .i64 0, .int .i64 0, .int .i64 0, .int .i64 0, .int .i64 0, .int .i64 0, .int .i64 0, .int .i64 0, .int .i64 0] 39))
  have R0 := yz (by simpa using blk_new (w.alloc (.cells #[.slice ad L.length c, .int .i64 lim, .int .i64 mode, .int .i64 A, .int .i64 B, .int .i64 C, .int .i64 D, .int .i64 coast, .int .i64 fr] 37)) [.slice none 0 0, .int .i64 0, .int .i64 0, .int .i64 0, .int .i64 0, .int .i64 0, .int .i64 0, .int .i64 0, .int .i64 0, .int .i64 0] 39 : Blk ((w.alloc (.cells #[.slice ad L.length c, .int .i64 lim, .int .i64 mode, .int .i64 A, .int .i64 B, .int .i64 C, .int .i64 D, .int .i64 coast, .int .i64 fr] 37)).alloc (.cells #[.slice none 0 0, .int .i64 0, .int .i64 0, .int .i64 0, .int .i64 0, .int .i64 0, .int .i64 0, .int .i64 0, .int .i64 0, .int .i64 0] 39)) (w.heap.size + 1) [.slice none 0 0, .int .i64 0, .int .i64 0, .int .i64 0, .int .i64 0, .int .i64 0, .int .i64 0, .int .i64 0, .int .i64 0, .int .i64 0] 39)
  have hl0 : w.heap.size + 1 + 1 ≤ ((w.alloc (.cells #[.slice ad L.length c, .int .i64 lim, .int .i64 mode, .int .i64 A, .int .i64 B, .int .i64 C, .int .i64 D, .int .i64 coast, .int .i64 fr] 37)).alloc (.cells #[.slice none 0 0, .int .i64 0, .int .i64 0, .int .i64 0, .int .i64 0, .int .i64 0, .int .i64 0, .int .i64 0, .int .i64 0, .int .i64 0] 39)).heap.size := by simp
  have hb0 : ∀ W : World, Below w.heap.size w W → ∀ y, ad = some y → y.block < W.heap.size := fun W h y e => Nat.lt_of_lt_of_le (hb y e) h.size
  have hB0 : ∀ W : World, Below w.heap.size w W → ∀ y, br = some y → y.block < W.heap.size := fun W h y e => Nat.lt_of_lt_of_le (hB y e) h.size
  have cK := yz (fun (W : World) (h : Below w.heap.size w W) => implReset_any L lim mode A B C D coast fr ad c p W hn hcap hc9 (hE.kept h) (hS.kept h))
  obtain ⟨t2, ht2⟩ : ∃ z, resetT ⟨L, lim, mode, A, B, C, D, coast, fr⟩ = z := ⟨_, rfl⟩
  obtain ⟨code, hco⟩ : ∃ z, resetC ⟨L, lim, mode, A, B, C, D, coast, fr⟩ = z := ⟨_, rfl⟩
  rw [ht2, hco] at cK ⊢
  obtain ⟨L2, lim2, mode2, A2, B2, C2, D2, coast2, fr2⟩ := t2
  clear ht2 hco hS hD hb hB hb0 hB0 hE
  have Z1 := below1 ((w.alloc (.cells #[.slice ad L.length c, .int .i64 lim, .int .i64 mode, .int .i64 A, .int .i64 B, .int .i64 C, .int .i64 D, .int .i64 coast, .int .i64 fr] 37)).alloc (.cells #[.slice none 0 0, .int .i64 0, .int .i64 0, .int .i64 0, .int .i64 0, .int .i64 0, .int .i64 0, .int .i64 0, .int .i64 0, .int .i64 0] 39)) (.cells #[] 120)
  have B1 := yz (below_call (yx B0) Z1)
  have A1 := yz ((yx A0).kept Z1)
  have R1 := yz ((yx R0).kept Z1)
  have hl1 := Z1.size
  have ta1 : ∀ W : World, (Instr.typeAssert (.iface 120 (.agg #[])) 73 120 true).run Tryz.prog W = .ok (.tuple #[.agg #[], .bool true]) W := fun _ => by kernel_rfl
  clear Z1 B0 A0 R0
  go_enter Tryz.func35, Tryz.ntmps35
  obtain ⟨q0, q1, q2, q3, q4, q5, q6, q7, q8⟩ := bcs9 (yx A1)
  go_wp2_with fail
  clear q0 q1 q2 q3 q4 q5 q6 q7 q8 
  refine (yx cK _ (yx B1)).mono ?_
  rintro e w3 ⟨⟨a2, c2, rfl, hC⟩, hx⟩
  dsimp only at hC
  have C5 := yz (hC.low (B' := w.heap.size + 1 + 1) (by omega))
  have R5 := yz ((yx R1).kept hx)
  have B5 := yz (below_call (yx B1) hx)
  clear hx hC R1 B1 A1 cK
  obtain ⟨r0, r1, r2, r3, r4, r5, r6, r7, r8, r9⟩ := bcs10 (yx R5)
  obtain ⟨e0, e1, e2, e3, e4, e5, e6, e7, e8, e9⟩ := bfs10 (yx R5)
  go_wp2_with fail
  clear r0 r1 r2 r3 r4 r5 r6 r7 r8 r9 e0 e1 e2 e3 e4 e5 e6 e7 e8 e9
  refine bodyPost_ret (v := .agg #[.slice a2 L2.length c2, .int .i64 lim2, .int .i64 mode2, .int .i64 A2, .int .i64 B2, .int .i64 C2, .int .i64 D2, .int .i64 coast2, .int .i64 fr2, .int .i64 code]) ?_ rfl ⟨?_, ?_⟩
  · exact res_obd _ _ (w.heap.size + 1) _ lim2 mode2 A2 B2 C2 D2 coast2 fr2 code rfl (tkO_blk (blk_set10 (yx R5) rfl _ lim2 mode2 A2 B2 C2 D2 coast2 fr2 code))
  · refine ⟨a2, c2, rfl, ?_⟩
    refine Copied.low (B := w.heap.size + 1 + 1) ?_ (by omega)
    iterate 10 (refine Copied.far ?_ (Nat.lt_succ_self (w.heap.size + 1)) _ _)
    exact yx C5
  · iterate 10 (refine belowSet ?_ (show w.heap.size ≤ w.heap.size + 1 by omega) _ _)
    exact yx B5
set_option maxHeartbeats 8000000 in
set_option maxRecDepth 100000 in
theorem obeyed_2 (L : List St) (lim mode A B C D coast fr : Int) (ad : Option Addr) (c : Nat) (S : List D3) (g1 g2 g3 g4 wd ht lv fo : Int) (px : ByteArray) (br : Option Addr) (dr : Nat) (p : Addr) (w : World) (hn : L.length ≤ 1048576) (hS : Stars w ad L L.length) (hb : ∀ y, ad = some y → y.block < w.heap.size) (hn2 : S.length ≤ 1048576) (hdr : S.length ≤ dr) (hd9 : dr ≤ 9223372036854775807) (hD : Dirs w br S S.length) (hB : ∀ y, br = some y → y.block < w.heap.size) (hcap : L.length ≤ c) (hc9 : c ≤ 9223372036854775807) (hE : ErrSky p w) (hs : px.size ≤ maxLen) :
    Calls Tryz.prog 35 #[.agg #[.slice ad L.length c, .int .i64 lim, .int .i64 mode, .int .i64 A, .int .i64 B, .int .i64 C, .int .i64 D, .int .i64 coast, .int .i64 fr], .iface 122 (.agg #[.int .i64 g1, .int .i64 g2, .int .i64 g3, .int .i64 g4])] w fun e w' => OutT w' w.heap.size (gyroT ⟨L, lim, mode, A, B, C, D, coast, fr⟩ g1 g2 g3 g4) (gyroC ⟨L, lim, mode, A, B, C, D, coast, fr⟩ g1 g2 g3 g4) e ∧ Below w.heap.size w w' := by
  have B0 := yz (below2 w (.cells #[.slice ad L.length c, .int .i64 lim, .int .i64 mode, .int .i64 A, .int .i64 B, .int .i64 C, .int .i64 D, .int .i64 coast, .int .i64 fr] 37) (.cells #[.slice none 0 0, .int .i64 0, .int .i64 0, .int .i64 0, .int .i64 0, .int .i64 0, .int .i64 0, .int .i64 0, .int .i64 0, .int .i64 0] 39))
  have A0 := yz ((blk_new w [.slice ad L.length c, .int .i64 lim, .int .i64 mode, .int .i64 A, .int .i64 B, .int .i64 C, .int .i64 D, .int .i64 coast, .int .i64 fr] 37).alloc (.cells #[.slice none 0 0, .int .i64 0, .int .i64 0, .int .i64 0, .int .i64 0, .int .i64 0, .int .i64 0, .int .i64 0, .int .i64 0, .int .i64 0] 39))
  have R0 := yz (by simpa using blk_new (w.alloc (.cells #[.slice ad L.length c, .int .i64 lim, .int .i64 mode, .int .i64 A, .int .i64 B, .int .i64 C, .int .i64 D, .int .i64 coast, .int .i64 fr] 37)) [.slice none 0 0, .int .i64 0, .int .i64 0, .int .i64 0, .int .i64 0, .int .i64 0, .int .i64 0, .int .i64 0, .int .i64 0, .int .i64 0] 39 : Blk ((w.alloc (.cells #[.slice ad L.length c, .int .i64 lim, .int .i64 mode, .int .i64 A, .int .i64 B, .int .i64 C, .int .i64 D, .int .i64 coast, .int .i64 fr] 37)).alloc (.cells #[.slice none 0 0, .int .i64 0, .int .i64 0, .int .i64 0, .int .i64 0, .int .i64 0, .int .i64 0, .int .i64 0, .int .i64 0, .int .i64 0] 39)) (w.heap.size + 1) [.slice none 0 0, .int .i64 0, .int .i64 0, .int .i64 0, .int .i64 0, .int .i64 0, .int .i64 0, .int .i64 0, .int .i64 0, .int .i64 0] 39)
  have hl0 : w.heap.size + 1 + 1 ≤ ((w.alloc (.cells #[.slice ad L.length c, .int .i64 lim, .int .i64 mode, .int .i64 A, .int .i64 B, .int .i64 C, .int .i64 D, .int .i64 coast, .int .i64 fr] 37)).alloc (.cells #[.slice none 0 0, .int .i64 0, .int .i64 0, .int .i64 0, .int .i64 0, .int .i64 0, .int .i64 0, .int .i64 0, .int .i64 0, .int .i64 0] 39)).heap.size := by simp
  have hb0 : ∀ W : World, Below w.heap.size w W → ∀ y, ad = some y → y.block < W.heap.size := fun W h y e => Nat.lt_of_lt_of_le (hb y e) h.size
  have hB0 : ∀ W : World, Below w.heap.size w W → ∀ y, br = some y → y.block < W.heap.size := fun W h y e => Nat.lt_of_lt_of_le (hB y e) h.size
  have cK := yz (fun (W : World) (h : Below w.heap.size w W) => implGyro_any L lim mode A B C D coast fr g1 g2 g3 g4 ad c p W hn hcap hc9 (hE.kept h) (hS.kept h))
  obtain ⟨t2, ht2⟩ : ∃ z, gyroT ⟨L, lim, mode, A, B, C, D, coast, fr⟩ g1 g2 g3 g4 = z := ⟨_, rfl⟩
  obtain ⟨code, hco⟩ : ∃ z, gyroC ⟨L, lim, mode, A, B, C, D, coast, fr⟩ g1 g2 g3 g4 = z := ⟨_, rfl⟩
  rw [ht2, hco] at cK ⊢
  obtain ⟨L2, lim2, mode2, A2, B2, C2, D2, coast2, fr2⟩ := t2
  clear ht2 hco hS hD hb hB hb0 hB0 hE
  have Z1 := below1 ((w.alloc (.cells #[.slice ad L.length c, .int .i64 lim, .int .i64 mode, .int .i64 A, .int .i64 B, .int .i64 C, .int .i64 D, .int .i64 coast, .int .i64 fr] 37)).alloc (.cells #[.slice none 0 0, .int .i64 0, .int .i64 0, .int .i64 0, .int .i64 0, .int .i64 0, .int .i64 0, .int .i64 0, .int .i64 0, .int .i64 0] 39)) (.cells #[.int .i64 g1, .int .i64 g2, .int .i64 g3, .int .i64 g4] 122)
  have B1 := yz (below_call (yx B0) Z1)
  have A1 := yz ((yx A0).kept Z1)
  have R1 := yz ((yx R0).kept Z1)
  have hl1 := Z1.size
  have N1 := yz (by simpa using blk_new ((w.alloc (.cells #[.slice ad L.length c, .int .i64 lim, .int .i64 mode, .int .i64 A, .int .i64 B, .int .i64 C, .int .i64 D, .int .i64 coast, .int .i64 fr] 37)).alloc (.cells #[.slice none 0 0, .int .i64 0, .int .i64 0, .int .i64 0, .int .i64 0, .int .i64 0, .int .i64 0, .int .i64 0, .int .i64 0, .int .i64 0] 39)) [.int .i64 g1, .int .i64 g2, .int .i64 g3, .int .i64 g4] 122 : Blk (((w.alloc (.cells #[.slice ad L.length c, .int .i64 lim, .int .i64 mode, .int .i64 A, .int .i64 B, .int .i64 C, .int .i64 D, .int .i64 coast, .int .i64 fr] 37)).alloc (.cells #[.slice none 0 0, .int .i64 0, .int .i64 0, .int .i64 0, .int .i64 0, .int .i64 0, .int .i64 0, .int .i64 0, .int .i64 0, .int .i64 0] 39)).alloc (.cells #[.int .i64 g1, .int .i64 g2, .int .i64 g3, .int .i64 g4] 122)) (w.heap.size + 1 + 1) [.int .i64 g1, .int .i64 g2, .int .i64 g3, .int .i64 g4] 122)
  have ta1 : ∀ W : World, (Instr.typeAssert (.iface 122 (.agg #[.int .i64 g1, .int .i64 g2, .int .i64 g3, .int .i64 g4])) 73 120 true).run Tryz.prog W = .ok (.tuple #[.agg #[], .bool false]) W := fun _ => by kernel_rfl
  have ta2 : ∀ W : World, (Instr.typeAssert (.iface 122 (.agg #[.int .i64 g1, .int .i64 g2, .int .i64 g3, .int .i64 g4])) 73 122 true).run Tryz.prog W = .ok (.tuple #[.agg #[.int .i64 g1, .int .i64 g2, .int .i64 g3, .int .i64 g4], .bool true]) W := fun _ => by kernel_rfl
  clear Z1 B0 A0 R0
  go_enter Tryz.func35, Tryz.ntmps35
  obtain ⟨q0, q1, q2, q3, q4, q5, q6, q7, q8⟩ := bcs9 (yx A1)
  obtain ⟨n0, n1, n2, n3⟩ := bcs4 (yx N1)
  go_wp2_with fail
  clear q0 q1 q2 q3 q4 q5 q6 q7 q8 n0 n1 n2 n3
  refine (yx cK _ (yx B1)).mono ?_
  rintro e w3 ⟨⟨a2, c2, rfl, hC⟩, hx⟩
  dsimp only at hC
  have C5 := yz (hC.low (B' := w.heap.size + 1 + 1) (by omega))
  have R5 := yz ((yx R1).kept hx)
  have B5 := yz (below_call (yx B1) hx)
  clear hx hC R1 B1 A1 cK
  obtain ⟨r0, r1, r2, r3, r4, r5, r6, r7, r8, r9⟩ := bcs10 (yx R5)
  obtain ⟨e0, e1, e2, e3, e4, e5, e6, e7, e8, e9⟩ := bfs10 (yx R5)
  go_wp2_with fail
  clear r0 r1 r2 r3 r4 r5 r6 r7 r8 r9 e0 e1 e2 e3 e4 e5 e6 e7 e8 e9
  refine bodyPost_ret (v := .agg #[.slice a2 L2.length c2, .int .i64 lim2, .int .i64 mode2, .int .i64 A2, .int .i64 B2, .int .i64 C2, .int .i64 D2, .int .i64 coast2, .int .i64 fr2, .int .i64 code]) ?_ rfl ⟨?_, ?_⟩
  · exact res_obd _ _ (w.heap.size + 1) _ lim2 mode2 A2 B2 C2 D2 coast2 fr2 code rfl (tkO_blk (blk_set10 (yx R5) rfl _ lim2 mode2 A2 B2 C2 D2 coast2 fr2 code))
  · refine ⟨a2, c2, rfl, ?_⟩
    refine Copied.low (B := w.heap.size + 1 + 1) ?_ (by omega)
    iterate 10 (refine Copied.far ?_ (Nat.lt_succ_self (w.heap.size + 1)) _ _)
    exact yx C5
  · iterate 10 (refine belowSet ?_ (show w.heap.size ≤ w.heap.size + 1 by omega) _ _)
    exact yx B5
set_option maxHeartbeats 8000000 in
set_option maxRecDepth 100000 in
theorem obeyed_3 (L : List St) (lim mode A B C D coast fr : Int) (ad : Option Addr) (c : Nat) (S : List D3) (g1 g2 g3 g4 wd ht lv fo : Int) (px : ByteArray) (br : Option Addr) (dr : Nat) (p : Addr) (w : World) (hn : L.length ≤ 1048576) (hS : Stars w ad L L.length) (hb : ∀ y, ad = some y → y.block < w.heap.size) (hn2 : S.length ≤ 1048576) (hdr : S.length ≤ dr) (hd9 : dr ≤ 9223372036854775807) (hD : Dirs w br S S.length) (hB : ∀ y, br = some y → y.block < w.heap.size) (hcap : L.length ≤ c) (hc9 : c ≤ 9223372036854775807) (hE : ErrSky p w) (hs : px.size ≤ maxLen) :
    Calls Tryz.prog 35 #[.agg #[.slice ad L.length c, .int .i64 lim, .int .i64 mode, .int .i64 A, .int .i64 B, .int .i64 C, .int .i64 D, .int .i64 coast, .int .i64 fr], .iface 124 (.agg #[.slice br S.length dr])] w fun e w' => OutT w' w.heap.size (lookT ⟨L, lim, mode, A, B, C, D, coast, fr⟩ S) (lookC ⟨L, lim, mode, A, B, C, D, coast, fr⟩ S) e ∧ Below w.heap.size w w' := by
  have B0 := yz (below2 w (.cells #[.slice ad L.length c, .int .i64 lim, .int .i64 mode, .int .i64 A, .int .i64 B, .int .i64 C, .int .i64 D, .int .i64 coast, .int .i64 fr] 37) (.cells #[.slice none 0 0, .int .i64 0, .int .i64 0, .int .i64 0, .int .i64 0, .int .i64 0, .int .i64 0, .int .i64 0, .int .i64 0, .int .i64 0] 39))
  have A0 := yz ((blk_new w [.slice ad L.length c, .int .i64 lim, .int .i64 mode, .int .i64 A, .int .i64 B, .int .i64 C, .int .i64 D, .int .i64 coast, .int .i64 fr] 37).alloc (.cells #[.slice none 0 0, .int .i64 0, .int .i64 0, .int .i64 0, .int .i64 0, .int .i64 0, .int .i64 0, .int .i64 0, .int .i64 0, .int .i64 0] 39))
  have R0 := yz (by simpa using blk_new (w.alloc (.cells #[.slice ad L.length c, .int .i64 lim, .int .i64 mode, .int .i64 A, .int .i64 B, .int .i64 C, .int .i64 D, .int .i64 coast, .int .i64 fr] 37)) [.slice none 0 0, .int .i64 0, .int .i64 0, .int .i64 0, .int .i64 0, .int .i64 0, .int .i64 0, .int .i64 0, .int .i64 0, .int .i64 0] 39 : Blk ((w.alloc (.cells #[.slice ad L.length c, .int .i64 lim, .int .i64 mode, .int .i64 A, .int .i64 B, .int .i64 C, .int .i64 D, .int .i64 coast, .int .i64 fr] 37)).alloc (.cells #[.slice none 0 0, .int .i64 0, .int .i64 0, .int .i64 0, .int .i64 0, .int .i64 0, .int .i64 0, .int .i64 0, .int .i64 0, .int .i64 0] 39)) (w.heap.size + 1) [.slice none 0 0, .int .i64 0, .int .i64 0, .int .i64 0, .int .i64 0, .int .i64 0, .int .i64 0, .int .i64 0, .int .i64 0, .int .i64 0] 39)
  have hl0 : w.heap.size + 1 + 1 ≤ ((w.alloc (.cells #[.slice ad L.length c, .int .i64 lim, .int .i64 mode, .int .i64 A, .int .i64 B, .int .i64 C, .int .i64 D, .int .i64 coast, .int .i64 fr] 37)).alloc (.cells #[.slice none 0 0, .int .i64 0, .int .i64 0, .int .i64 0, .int .i64 0, .int .i64 0, .int .i64 0, .int .i64 0, .int .i64 0, .int .i64 0] 39)).heap.size := by simp
  have hb0 : ∀ W : World, Below w.heap.size w W → ∀ y, ad = some y → y.block < W.heap.size := fun W h y e => Nat.lt_of_lt_of_le (hb y e) h.size
  have hB0 : ∀ W : World, Below w.heap.size w W → ∀ y, br = some y → y.block < W.heap.size := fun W h y e => Nat.lt_of_lt_of_le (hB y e) h.size
  have cK := yz (fun (W : World) (h : Below w.heap.size w W) => implLook_any L S lim mode A B C D coast fr ad c br dr p W hn hn2 (hS.kept h) (hD.kept h) (hb0 W h) (hB0 W h) hcap hc9 hdr hd9 (hE.kept h))
  obtain ⟨t2, ht2⟩ : ∃ z, lookT ⟨L, lim, mode, A, B, C, D, coast, fr⟩ S = z := ⟨_, rfl⟩
  obtain ⟨code, hco⟩ : ∃ z, lookC ⟨L, lim, mode, A, B, C, D, coast, fr⟩ S = z := ⟨_, rfl⟩
  rw [ht2, hco] at cK ⊢
  obtain ⟨L2, lim2, mode2, A2, B2, C2, D2, coast2, fr2⟩ := t2
  clear ht2 hco hS hD hb hB hb0 hB0 hE
  have Z1 := below1 ((w.alloc (.cells #[.slice ad L.length c, .int .i64 lim, .int .i64 mode, .int .i64 A, .int .i64 B, .int .i64 C, .int .i64 D, .int .i64 coast, .int .i64 fr] 37)).alloc (.cells #[.slice none 0 0, .int .i64 0, .int .i64 0, .int .i64 0, .int .i64 0, .int .i64 0, .int .i64 0, .int .i64 0, .int .i64 0, .int .i64 0] 39)) (.cells #[.slice br S.length dr] 124)
  have B1 := yz (below_call (yx B0) Z1)
  have A1 := yz ((yx A0).kept Z1)
  have R1 := yz ((yx R0).kept Z1)
  have hl1 := Z1.size
  have N1 := yz (by simpa using blk_new ((w.alloc (.cells #[.slice ad L.length c, .int .i64 lim, .int .i64 mode, .int .i64 A, .int .i64 B, .int .i64 C, .int .i64 D, .int .i64 coast, .int .i64 fr] 37)).alloc (.cells #[.slice none 0 0, .int .i64 0, .int .i64 0, .int .i64 0, .int .i64 0, .int .i64 0, .int .i64 0, .int .i64 0, .int .i64 0, .int .i64 0] 39)) [.slice br S.length dr] 124 : Blk (((w.alloc (.cells #[.slice ad L.length c, .int .i64 lim, .int .i64 mode, .int .i64 A, .int .i64 B, .int .i64 C, .int .i64 D, .int .i64 coast, .int .i64 fr] 37)).alloc (.cells #[.slice none 0 0, .int .i64 0, .int .i64 0, .int .i64 0, .int .i64 0, .int .i64 0, .int .i64 0, .int .i64 0, .int .i64 0, .int .i64 0] 39)).alloc (.cells #[.slice br S.length dr] 124)) (w.heap.size + 1 + 1) [.slice br S.length dr] 124)
  have ta1 : ∀ W : World, (Instr.typeAssert (.iface 124 (.agg #[.slice br S.length dr])) 73 120 true).run Tryz.prog W = .ok (.tuple #[.agg #[], .bool false]) W := fun _ => by kernel_rfl
  have ta2 : ∀ W : World, (Instr.typeAssert (.iface 124 (.agg #[.slice br S.length dr])) 73 122 true).run Tryz.prog W = .ok (.tuple #[.agg #[.int .i64 0, .int .i64 0, .int .i64 0, .int .i64 0], .bool false]) W := fun _ => by kernel_rfl
  have ta3 : ∀ W : World, (Instr.typeAssert (.iface 124 (.agg #[.slice br S.length dr])) 73 124 true).run Tryz.prog W = .ok (.tuple #[.agg #[.slice br S.length dr], .bool true]) W := fun _ => by kernel_rfl
  clear Z1 B0 A0 R0
  go_enter Tryz.func35, Tryz.ntmps35
  obtain ⟨q0, q1, q2, q3, q4, q5, q6, q7, q8⟩ := bcs9 (yx A1)
  have n0 := (yx N1).cell 0 _ rfl
  go_wp2_with fail
  clear q0 q1 q2 q3 q4 q5 q6 q7 q8 n0
  refine (yx cK _ (yx B1)).mono ?_
  rintro e w3 ⟨⟨a2, c2, rfl, hC⟩, hx⟩
  dsimp only at hC
  have C5 := yz (hC.low (B' := w.heap.size + 1 + 1) (by omega))
  have R5 := yz ((yx R1).kept hx)
  have B5 := yz (below_call (yx B1) hx)
  clear hx hC R1 B1 A1 cK
  obtain ⟨r0, r1, r2, r3, r4, r5, r6, r7, r8, r9⟩ := bcs10 (yx R5)
  obtain ⟨e0, e1, e2, e3, e4, e5, e6, e7, e8, e9⟩ := bfs10 (yx R5)
  go_wp2_with fail
  clear r0 r1 r2 r3 r4 r5 r6 r7 r8 r9 e0 e1 e2 e3 e4 e5 e6 e7 e8 e9
  refine bodyPost_ret (v := .agg #[.slice a2 L2.length c2, .int .i64 lim2, .int .i64 mode2, .int .i64 A2, .int .i64 B2, .int .i64 C2, .int .i64 D2, .int .i64 coast2, .int .i64 fr2, .int .i64 code]) ?_ rfl ⟨?_, ?_⟩
  · exact res_obd _ _ (w.heap.size + 1) _ lim2 mode2 A2 B2 C2 D2 coast2 fr2 code rfl (tkO_blk (blk_set10 (yx R5) rfl _ lim2 mode2 A2 B2 C2 D2 coast2 fr2 code))
  · refine ⟨a2, c2, rfl, ?_⟩
    refine Copied.low (B := w.heap.size + 1 + 1) ?_ (by omega)
    iterate 10 (refine Copied.far ?_ (Nat.lt_succ_self (w.heap.size + 1)) _ _)
    exact yx C5
  · iterate 10 (refine belowSet ?_ (show w.heap.size ≤ w.heap.size + 1 by omega) _ _)
    exact yx B5
set_option maxHeartbeats 8000000 in
set_option maxRecDepth 100000 in
theorem obeyed_4 (L : List St) (lim mode A B C D coast fr : Int) (ad : Option Addr) (c : Nat) (S : List D3) (g1 g2 g3 g4 wd ht lv fo : Int) (px : ByteArray) (br : Option Addr) (dr : Nat) (p : Addr) (w : World) (hn : L.length ≤ 1048576) (hS : Stars w ad L L.length) (hb : ∀ y, ad = some y → y.block < w.heap.size) (hn2 : S.length ≤ 1048576) (hdr : S.length ≤ dr) (hd9 : dr ≤ 9223372036854775807) (hD : Dirs w br S S.length) (hB : ∀ y, br = some y → y.block < w.heap.size) (hcap : L.length ≤ c) (hc9 : c ≤ 9223372036854775807) (hE : ErrSky p w) (hs : px.size ≤ maxLen) :
    Calls Tryz.prog 35 #[.agg #[.slice ad L.length c, .int .i64 lim, .int .i64 mode, .int .i64 A, .int .i64 B, .int .i64 C, .int .i64 D, .int .i64 coast, .int .i64 fr], .iface 126 (.agg #[.int .i64 wd, .int .i64 ht, .string px, .int .i64 lv, .int .i64 fo])] w fun e w' => OutT w' w.heap.size (lookT ⟨L, lim, mode, A, B, C, D, coast, fr⟩ (fewS (spotsR wd ht px lv fo))) (lookC ⟨L, lim, mode, A, B, C, D, coast, fr⟩ (fewS (spotsR wd ht px lv fo))) e ∧ Below w.heap.size w w' := by
  have B0 := yz (below2 w (.cells #[.slice ad L.length c, .int .i64 lim, .int .i64 mode, .int .i64 A, .int .i64 B, .int .i64 C, .int .i64 D, .int .i64 coast, .int .i64 fr] 37) (.cells #[.slice none 0 0, .int .i64 0, .int .i64 0, .int .i64 0, .int .i64 0, .int .i64 0, .int .i64 0, .int .i64 0, .int .i64 0, .int .i64 0] 39))
  have A0 := yz ((blk_new w [.slice ad L.length c, .int .i64 lim, .int .i64 mode, .int .i64 A, .int .i64 B, .int .i64 C, .int .i64 D, .int .i64 coast, .int .i64 fr] 37).alloc (.cells #[.slice none 0 0, .int .i64 0, .int .i64 0, .int .i64 0, .int .i64 0, .int .i64 0, .int .i64 0, .int .i64 0, .int .i64 0, .int .i64 0] 39))
  have R0 := yz (by simpa using blk_new (w.alloc (.cells #[.slice ad L.length c, .int .i64 lim, .int .i64 mode, .int .i64 A, .int .i64 B, .int .i64 C, .int .i64 D, .int .i64 coast, .int .i64 fr] 37)) [.slice none 0 0, .int .i64 0, .int .i64 0, .int .i64 0, .int .i64 0, .int .i64 0, .int .i64 0, .int .i64 0, .int .i64 0, .int .i64 0] 39 : Blk ((w.alloc (.cells #[.slice ad L.length c, .int .i64 lim, .int .i64 mode, .int .i64 A, .int .i64 B, .int .i64 C, .int .i64 D, .int .i64 coast, .int .i64 fr] 37)).alloc (.cells #[.slice none 0 0, .int .i64 0, .int .i64 0, .int .i64 0, .int .i64 0, .int .i64 0, .int .i64 0, .int .i64 0, .int .i64 0, .int .i64 0] 39)) (w.heap.size + 1) [.slice none 0 0, .int .i64 0, .int .i64 0, .int .i64 0, .int .i64 0, .int .i64 0, .int .i64 0, .int .i64 0, .int .i64 0, .int .i64 0] 39)
  have hl0 : w.heap.size + 1 + 1 ≤ ((w.alloc (.cells #[.slice ad L.length c, .int .i64 lim, .int .i64 mode, .int .i64 A, .int .i64 B, .int .i64 C, .int .i64 D, .int .i64 coast, .int .i64 fr] 37)).alloc (.cells #[.slice none 0 0, .int .i64 0, .int .i64 0, .int .i64 0, .int .i64 0, .int .i64 0, .int .i64 0, .int .i64 0, .int .i64 0, .int .i64 0] 39)).heap.size := by simp
  have hb0 : ∀ W : World, Below w.heap.size w W → ∀ y, ad = some y → y.block < W.heap.size := fun W h y e => Nat.lt_of_lt_of_le (hb y e) h.size
  have hB0 : ∀ W : World, Below w.heap.size w W → ∀ y, br = some y → y.block < W.heap.size := fun W h y e => Nat.lt_of_lt_of_le (hB y e) h.size
  have hFl := few_short (spotsR wd ht px lv fo)
  have cP := yz (fun W => frameSpots_any wd ht px lv fo W hs)
  have cK := yz (fun (W : World) (h : Below w.heap.size w W) (x : Option Addr) (k : Nat) (hk : (fewS (spotsR wd ht px lv fo)).length ≤ k) (hk9 : k ≤ 9223372036854775807) (hd : Dirs W x (fewS (spotsR wd ht px lv fo)) (fewS (spotsR wd ht px lv fo)).length) (hx : ∀ y, x = some y → y.block < W.heap.size) => implLook_any L (fewS (spotsR wd ht px lv fo)) lim mode A B C D coast fr ad c x k p W hn (by omega) (hS.kept h) hd (hb0 W h) hx hcap hc9 hk hk9 (hE.kept h))
  obtain ⟨t2, ht2⟩ : ∃ z, lookT ⟨L, lim, mode, A, B, C, D, coast, fr⟩ (fewS (spotsR wd ht px lv fo)) = z := ⟨_, rfl⟩
  obtain ⟨code, hco⟩ : ∃ z, lookC ⟨L, lim, mode, A, B, C, D, coast, fr⟩ (fewS (spotsR wd ht px lv fo)) = z := ⟨_, rfl⟩
  rw [ht2, hco] at cK ⊢
  obtain ⟨L2, lim2, mode2, A2, B2, C2, D2, coast2, fr2⟩ := t2
  clear ht2 hco hS hD hb hB hb0 hB0 hE
  generalize fewS (spotsR wd ht px lv fo) = FS at cP cK hFl
  have Z1 := below1 ((w.alloc (.cells #[.slice ad L.length c, .int .i64 lim, .int .i64 mode, .int .i64 A, .int .i64 B, .int .i64 C, .int .i64 D, .int .i64 coast, .int .i64 fr] 37)).alloc (.cells #[.slice none 0 0, .int .i64 0, .int .i64 0, .int .i64 0, .int .i64 0, .int .i64 0, .int .i64 0, .int .i64 0, .int .i64 0, .int .i64 0] 39)) (.cells #[.int .i64 wd, .int .i64 ht, .string px, .int .i64 lv, .int .i64 fo] 126)
  have B1 := yz (below_call (yx B0) Z1)
  have A1 := yz ((yx A0).kept Z1)
  have R1 := yz ((yx R0).kept Z1)
  have hl1 := Z1.size
  have N1 := yz (by simpa using blk_new ((w.alloc (.cells #[.slice ad L.length c, .int .i64 lim, .int .i64 mode, .int .i64 A, .int .i64 B, .int .i64 C, .int .i64 D, .int .i64 coast, .int .i64 fr] 37)).alloc (.cells #[.slice none 0 0, .int .i64 0, .int .i64 0, .int .i64 0, .int .i64 0, .int .i64 0, .int .i64 0, .int .i64 0, .int .i64 0, .int .i64 0] 39)) [.int .i64 wd, .int .i64 ht, .string px, .int .i64 lv, .int .i64 fo] 126 : Blk (((w.alloc (.cells #[.slice ad L.length c, .int .i64 lim, .int .i64 mode, .int .i64 A, .int .i64 B, .int .i64 C, .int .i64 D, .int .i64 coast, .int .i64 fr] 37)).alloc (.cells #[.slice none 0 0, .int .i64 0, .int .i64 0, .int .i64 0, .int .i64 0, .int .i64 0, .int .i64 0, .int .i64 0, .int .i64 0, .int .i64 0] 39)).alloc (.cells #[.int .i64 wd, .int .i64 ht, .string px, .int .i64 lv, .int .i64 fo] 126)) (w.heap.size + 1 + 1) [.int .i64 wd, .int .i64 ht, .string px, .int .i64 lv, .int .i64 fo] 126)
  have ta1 : ∀ W : World, (Instr.typeAssert (.iface 126 (.agg #[.int .i64 wd, .int .i64 ht, .string px, .int .i64 lv, .int .i64 fo])) 73 120 true).run Tryz.prog W = .ok (.tuple #[.agg #[], .bool false]) W := fun _ => by kernel_rfl
  have ta2 : ∀ W : World, (Instr.typeAssert (.iface 126 (.agg #[.int .i64 wd, .int .i64 ht, .string px, .int .i64 lv, .int .i64 fo])) 73 122 true).run Tryz.prog W = .ok (.tuple #[.agg #[.int .i64 0, .int .i64 0, .int .i64 0, .int .i64 0], .bool false]) W := fun _ => by kernel_rfl
  have ta3 : ∀ W : World, (Instr.typeAssert (.iface 126 (.agg #[.int .i64 wd, .int .i64 ht, .string px, .int .i64 lv, .int .i64 fo])) 73 124 true).run Tryz.prog W = .ok (.tuple #[.agg #[.slice none 0 0], .bool false]) W := fun _ => by kernel_rfl
  have ta4 : ∀ W : World, (Instr.typeAssert (.iface 126 (.agg #[.int .i64 wd, .int .i64 ht, .string px, .int .i64 lv, .int .i64 fo])) 73 126 true).run Tryz.prog W = .ok (.tuple #[.agg #[.int .i64 wd, .int .i64 ht, .string px, .int .i64 lv, .int .i64 fo], .bool true]) W := fun _ => by kernel_rfl
  clear Z1 B0 A0 R0
  go_enter Tryz.func35, Tryz.ntmps35
  go_wp2_with fail
  refine wp_region_held_drew (S := (fun w' => w'.cell? ⟨w.heap.size, 0, none⟩ = some (.slice ad L.length c) ∧ w'.cell? ⟨w.heap.size, 1, none⟩ = some (.int .i64 lim) ∧ w'.cell? ⟨w.heap.size, 2, none⟩ = some (.int .i64 mode) ∧ w'.cell? ⟨w.heap.size, 3, none⟩ = some (.int .i64 A) ∧ w'.cell? ⟨w.heap.size, 4, none⟩ = some (.int .i64 B) ∧ w'.cell? ⟨w.heap.size, 5, none⟩ = some (.int .i64 C) ∧ w'.cell? ⟨w.heap.size, 6, none⟩ = some (.int .i64 D) ∧ w'.cell? ⟨w.heap.size, 7, none⟩ = some (.int .i64 coast) ∧ w'.cell? ⟨w.heap.size, 8, none⟩ = some (.int .i64 fr) ∧ w'.cell? ⟨w.heap.size + 1 + 1, 0, none⟩ = some (.int .i64 wd) ∧ w'.cell? ⟨w.heap.size + 1 + 1, 1, none⟩ = some (.int .i64 ht) ∧ w'.cell? ⟨w.heap.size + 1 + 1, 2, none⟩ = some (.string px) ∧ w'.cell? ⟨w.heap.size + 1 + 1, 3, none⟩ = some (.int .i64 lv) ∧ w'.cell? ⟨w.heap.size + 1 + 1, 4, none⟩ = some (.int .i64 fo) )) (by kernel_rfl) ?_ (fun hHeld => ?_)
  · exact ⟨(yx A1).cell 0 _ rfl, (yx A1).cell 1 _ rfl, (yx A1).cell 2 _ rfl, (yx A1).cell 3 _ rfl, (yx A1).cell 4 _ rfl, (yx A1).cell 5 _ rfl, (yx A1).cell 6 _ rfl, (yx A1).cell 7 _ rfl, (yx A1).cell 8 _ rfl, (yx N1).cell 0 _ rfl, (yx N1).cell 1 _ rfl, (yx N1).cell 2 _ rfl, (yx N1).cell 3 _ rfl, (yx N1).cell 4 _ rfl⟩
  refine wpAnyH_take (i := 0) (v := ?_) rfl (by kernel_rfl) (by kernel_rfl) (by kernel_rfl) (fun _ _ _ h => h) (Or.inl ⟨by rfl, ?_⟩) (by assumption) ?_
  rotate_left
  · intro W0 hSw; (try dsimp only at hSw); go_simp <;> with_reducible rfl
  try simp only [Act.put, List.setIfInBounds_toArray, List.set_cons_zero, List.set_cons_succ]
  refine wpAnyH_take (i := 1) (v := ?_) rfl (by kernel_rfl) (by kernel_rfl) (by kernel_rfl) (fun _ _ _ h => h) (Or.inl ⟨by rfl, ?_⟩) (by assumption) ?_
  rotate_left
  · intro W0 hSw; (try dsimp only at hSw); go_simp <;> with_reducible rfl
  try simp only [Act.put, List.setIfInBounds_toArray, List.set_cons_zero, List.set_cons_succ]
  have Bd := yz ((yx B1).drew)
  have Ad := yz ((yx A1).drewn)
  have Nd := yz ((yx N1).drewn)
  have Rd := yz ((yx R1).drewn)
  have hld : w.heap.size + 1 + 1 ≤ (World.drew (((w.alloc (.cells #[.slice ad L.length c, .int .i64 lim, .int .i64 mode, .int .i64 A, .int .i64 B, .int .i64 C, .int .i64 D, .int .i64 coast, .int .i64 fr] 37)).alloc (.cells #[.slice none 0 0, .int .i64 0, .int .i64 0, .int .i64 0, .int .i64 0, .int .i64 0, .int .i64 0, .int .i64 0, .int .i64 0, .int .i64 0] 39)).alloc (.cells #[.int .i64 wd, .int .i64 ht, .string px, .int .i64 lv, .int .i64 fo] 126))).heap.size := Nat.le_trans hl0 hl1
  generalize World.drew (((w.alloc (.cells #[.slice ad L.length c, .int .i64 lim, .int .i64 mode, .int .i64 A, .int .i64 B, .int .i64 C, .int .i64 D, .int .i64 coast, .int .i64 fr] 37)).alloc (.cells #[.slice none 0 0, .int .i64 0, .int .i64 0, .int .i64 0, .int .i64 0, .int .i64 0, .int .i64 0, .int .i64 0, .int .i64 0, .int .i64 0] 39)).alloc (.cells #[.int .i64 wd, .int .i64 ht, .string px, .int .i64 lv, .int .i64 fo] 126)) = V at Bd Ad Nd Rd hld hHeld ⊢
  clear B1 A1 N1 R1 hl0 hl1
  refine wpAnyH_ready (rs := [2]) (by kernel_rfl) (by simp) ?_
  refine AllReadyH.cons rfl (fun K hK => ?_) AllReadyH.nil
  go_simp
  refine (yx cP _).mono ?_
  rintro e v2 ⟨⟨x2, rfl, ho⟩, hx⟩
  obtain ⟨a3, c3, rfl⟩ := own_slice ho
  have B2' := yz (below_call (yx Bd) hx)
  have A2' := yz ((yx Ad).kept hx)
  have N2' := yz ((yx Nd).kept hx)
  have R2' := yz ((yx Rd).kept hx)
  have hm8 : maxLen ≤ 9223372036854775807 := by decide +kernel
  have hdd := dirs_ownV ho
  have D2'' := yz hdd.1
  have hf2 : ∀ y, a3 = some y → y.block < v2.heap.size := fun y e => (own_far ho y e).2
  have hc3 : FS.length ≤ c3 ∧ c3 ≤ 9223372036854775807 := by rcases hdd.2 with h | h <;> omega
  have hl2 := hx.size
  clear hx ho hdd Bd Ad Nd Rd cP
  refine hK.out _ _ ⟨(yx A2').cell 0 _ rfl, (yx A2').cell 1 _ rfl, (yx A2').cell 2 _ rfl, (yx A2').cell 3 _ rfl, (yx A2').cell 4 _ rfl, (yx A2').cell 5 _ rfl, (yx A2').cell 6 _ rfl, (yx A2').cell 7 _ rfl, (yx A2').cell 8 _ rfl, (yx N2').cell 0 _ rfl, (yx N2').cell 1 _ rfl, (yx N2').cell 2 _ rfl, (yx N2').cell 3 _ rfl, (yx N2').cell 4 _ rfl⟩ (fun hHeld2 => ?_)
  clear hK K hHeld
  refine wpAnyH_ready (rs := [3]) (by kernel_rfl) (by simp) ?_
  refine AllReadyH.cons rfl (fun K hK => ?_) AllReadyH.nil
  go_simp
  refine (yx cK _ (yx B2') a3 c3 hc3.1 hc3.2 (yx D2'') hf2).mono ?_
  rintro e w3 ⟨⟨a2, c2, rfl, hC⟩, hx⟩
  dsimp only at hC
  have C5 := yz (hC.low (B' := w.heap.size + 1 + 1) (by omega))
  have R5 := yz ((yx R2').kept hx)
  have A5 := yz ((yx A2').kept hx)
  have N5 := yz ((yx N2').kept hx)
  have B5 := yz (below_call (yx B2') hx)
  clear hx hC R2' B2' A2' N2' cK D2''
  refine hK.out _ _ ⟨(yx A5).cell 0 _ rfl, (yx A5).cell 1 _ rfl, (yx A5).cell 2 _ rfl, (yx A5).cell 3 _ rfl, (yx A5).cell 4 _ rfl, (yx A5).cell 5 _ rfl, (yx A5).cell 6 _ rfl, (yx A5).cell 7 _ rfl, (yx A5).cell 8 _ rfl, (yx N5).cell 0 _ rfl, (yx N5).cell 1 _ rfl, (yx N5).cell 2 _ rfl, (yx N5).cell 3 _ rfl, (yx N5).cell 4 _ rfl⟩ (fun hHeld3 => ?_)
  clear hK K hHeld2
  refine wpAnyH_ready (rs := [4]) (by kernel_rfl) (by simp) ?_
  refine AllReadyH.cons rfl (fun K hK => ?_) AllReadyH.nil
  obtain ⟨r0, r1, r2, r3, r4, r5, r6, r7, r8, r9⟩ := bcs10 (yx R5)
  obtain ⟨e0, e1, e2, e3, e4, e5, e6, e7, e8, e9⟩ := bfs10 (yx R5)
  go_simp
  clear r0 r1 r2 r3 r4 r5 r6 r7 r8 r9 e0 e1 e2 e3 e4 e5 e6 e7 e8 e9
  have A6 := yz (blk_off10 (yx A5) (show w.heap.size ≠ w.heap.size + 1 by omega) (.slice a2 L2.length c2) (.int .i64 lim2) (.int .i64 mode2) (.int .i64 A2) (.int .i64 B2) (.int .i64 C2) (.int .i64 D2) (.int .i64 coast2) (.int .i64 fr2) (.int .i64 code))
  have N6 := yz (blk_off10 (yx N5) (show w.heap.size + 1 + 1 ≠ w.heap.size + 1 by omega) (.slice a2 L2.length c2) (.int .i64 lim2) (.int .i64 mode2) (.int .i64 A2) (.int .i64 B2) (.int .i64 C2) (.int .i64 D2) (.int .i64 coast2) (.int .i64 fr2) (.int .i64 code))
  refine hK.out _ _ ⟨(yx A6).cell 0 _ rfl, (yx A6).cell 1 _ rfl, (yx A6).cell 2 _ rfl, (yx A6).cell 3 _ rfl, (yx A6).cell 4 _ rfl, (yx A6).cell 5 _ rfl, (yx A6).cell 6 _ rfl, (yx A6).cell 7 _ rfl, (yx A6).cell 8 _ rfl, (yx N6).cell 0 _ rfl, (yx N6).cell 1 _ rfl, (yx N6).cell 2 _ rfl, (yx N6).cell 3 _ rfl, (yx N6).cell 4 _ rfl⟩ (fun hHeld4 => ?_)
  clear hK K hHeld3 A6 N6
  refine wpAnyH_done (by kernel_rfl) ?_ _
  clear hHeld4
  go_wp2_with fail
  refine bodyPost_ret (v := .agg #[.slice a2 L2.length c2, .int .i64 lim2, .int .i64 mode2, .int .i64 A2, .int .i64 B2, .int .i64 C2, .int .i64 D2, .int .i64 coast2, .int .i64 fr2, .int .i64 code]) ?_ rfl ⟨?_, ?_⟩
  · exact res_obd _ _ (w.heap.size + 1) _ lim2 mode2 A2 B2 C2 D2 coast2 fr2 code rfl (tkO_blk (blk_set10 (yx R5) rfl _ lim2 mode2 A2 B2 C2 D2 coast2 fr2 code))
  · refine ⟨a2, c2, rfl, ?_⟩
    refine Copied.low (B := w.heap.size + 1 + 1) ?_ (by omega)
    iterate 10 (refine Copied.far ?_ (Nat.lt_succ_self (w.heap.size + 1)) _ _)
    exact yx C5
  · iterate 10 (refine belowSet ?_ (show w.heap.size ≤ w.heap.size + 1 by omega) _ _)
    exact yx B5
theorem res_iobey (T : Array Value) (X : World) (b : Nat) (v : Value) (lim mode A B C D coast fr code : Int) (hT : T.getD 4 undef = .pointer (some ⟨b, 0, none⟩)) (h : TkO X b v lim mode A B C D coast fr code) : (results Tryz.f10 T).run Tryz.prog X = .ok (.agg #[v, .int .i64 lim, .int .i64 mode, .int .i64 A, .int .i64 B, .int .i64 C, .int .i64 D, .int .i64 coast, .int .i64 fr, .int .i64 code]) X := by
  obtain ⟨⟨h0, h1, h2, h3, h4, h5, h6, h7, h8⟩, h9⟩ := h
  simp only [Array.getD_eq_getD_getElem?] at hT
  simp [results, Tryz.results10, go_sem, hT, h0, h1, h2, h3, h4, h5, h6, h7, h8, h9]
theorem leaves_resO {P : Program} {fn : Func} {t t' : Array Value} {R : Ending → World → Prop} (h : results fn t = results fn t') : ∀ (ds : List Deferred) (u : FrameMode) (w : World), Leaves P fn t R ds u w → Leaves P fn t' R ds u w
  | [], .returning, w, hl => by
    obtain ⟨v, h1, h2⟩ := hl
    exact ⟨v, by rw [← h]; exact h1, h2⟩
  | [], .panicking _, w, hl => hl
  | [], .run, w, hl => hl
  | d :: ds, u, w, hl => by
    obtain ⟨hu, fv, cap, f, args, h1, h2, h3⟩ := hl
    refine ⟨hu, fv, cap, f, args, h1, h2, h3.mono ?_⟩
    intro e u' w' he
    cases e with
    | returned v => exact leaves_resO h ds _ _ he
    | panicked c => exact leaves_resO h ds _ _ he
    | outgrown => exact he
theorem resOb {T : Array Value} {v : Value} {k : Nat} (hk : k ≠ 4) : results Tryz.f10 (T.setIfInBounds k v) = results Tryz.f10 T := by
  simp [results, Tryz.results10, Array.getD_eq_getD_getElem?, Array.getElem?_setIfInBounds, hk]
theorem catchO_panicking (b : Nat) (L : List Value) (u : TypeId) (pv : Value) (older : List PanicEntry) (w : World) (hl : L.length = 10) (hB : Blk w b L 39) :
    CallsD Tryz.prog 34 #[.pointer (some ⟨b, 0, none⟩)] (.panicking ({ v := .iface u pv, recovered := false } :: older)) w fun e u' w' =>
      e = .returned (.tuple #[]) ∧ u' = .panicking ({ v := .iface u pv, recovered := true } :: older) ∧ w' = ((((((((((w).setCell ⟨b, 0, none⟩ (.slice none 0 0)).setCell ⟨b, 1, none⟩ (.int .i64 0)).setCell ⟨b, 2, none⟩ (.int .i64 0)).setCell ⟨b, 3, none⟩ (.int .i64 0)).setCell ⟨b, 4, none⟩ (.int .i64 0)).setCell ⟨b, 5, none⟩ (.int .i64 0)).setCell ⟨b, 6, none⟩ (.int .i64 0)).setCell ⟨b, 7, none⟩ (.int .i64 0)).setCell ⟨b, 8, none⟩ (.int .i64 0)).setCell ⟨b, 9, none⟩ (.int .i64 1) := by
  obtain ⟨x0, x1, x2, x3, x4, x5, x6, x7, x8, x9, rfl⟩ : ∃ x0 x1 x2 x3 x4 x5 x6 x7 x8 x9, L = [x0, x1, x2, x3, x4, x5, x6, x7, x8, x9] := by
    match L, hl with
    | [x0, x1, x2, x3, x4, x5, x6, x7, x8, x9], _ => exact ⟨x0, x1, x2, x3, x4, x5, x6, x7, x8, x9, rfl⟩
  have h0 := hB.cell 0 _ rfl
  have f0 := hB.free 0
  have h1 := hB.cell 1 _ rfl
  have f1 := hB.free 1
  have h2 := hB.cell 2 _ rfl
  have f2 := hB.free 2
  have h3 := hB.cell 3 _ rfl
  have f3 := hB.free 3
  have h4 := hB.cell 4 _ rfl
  have f4 := hB.free 4
  have h5 := hB.cell 5 _ rfl
  have f5 := hB.free 5
  have h6 := hB.cell 6 _ rfl
  have f6 := hB.free 6
  have h7 := hB.cell 7 _ rfl
  have f7 := hB.free 7
  have h8 := hB.cell 8 _ rfl
  have f8 := hB.free 8
  have h9 := hB.cell 9 _ rfl
  have f9 := hB.free 9
  refine callsD_of_wpS Tryz.func34 rfl fun c₀ cs hu => ?_
  apply wpS_seq
  apply wpS_region
  simp [wpOpsS, go_sem, recoverD, hu, Tryz.ntmps34, Exit.thenS]
  refine wpS_cond (t := true) (by simp [Act.eval, Array.replicate]) ?_
  simp only [if_true]
  apply wpS_region
  simp [wpOpsS, go_sem, h0, f0, h1, f1, h2, f2, h3, f3, h4, f4, h5, f5, h6, f6, h7, f7, h8, f8, h9, f9, bodyPostS, results, Tryz.results34]
theorem catchO_idle (b : Nat) (w : World) :
    CallsD Tryz.prog 34 #[.pointer (some ⟨b, 0, none⟩)] .returning w fun e u' w' => e = .returned (.tuple #[]) ∧ u' = .returning ∧ w' = w := by
  refine callsD_of_wpS Tryz.func34 rfl fun c₀ cs hu => ?_
  apply wpS_seq
  apply wpS_region
  simp [wpOpsS, go_sem, recoverD, hu, Tryz.ntmps34, Exit.thenS]
  refine wpS_cond (t := false) (by simp [Act.eval, Array.replicate]) ?_
  simp only [Bool.false_eq_true, if_false]
  refine wpS_of_wp (wp_skip ?_)
  cases c₀
  simp_all [bodyPostS, results, Tryz.results34]
theorem obeyed_any (kind : Int) (L : List St) (lim mode A B C D coast fr : Int) (ad : Option Addr) (c : Nat) (S : List D3) (g1 g2 g3 g4 wd ht lv fo : Int) (px : ByteArray) (br : Option Addr) (dr : Nat) (p : Addr) (w : World) (hn : L.length ≤ 1048576) (hS : Stars w ad L L.length) (hb : ∀ y, ad = some y → y.block < w.heap.size) (hn2 : S.length ≤ 1048576) (hdr : S.length ≤ dr) (hd9 : dr ≤ 9223372036854775807) (hD : Dirs w br S S.length) (hB : ∀ y, br = some y → y.block < w.heap.size) (hcap : L.length ≤ c) (hc9 : c ≤ 9223372036854775807) (hE : ErrSky p w) (hc : cmdB ⟨kind, g1, g2, g3, g4, S, wd, ht, px, lv, fo⟩ = true) (hs : px.size ≤ maxLen) :
    Calls Tryz.prog 35 #[.agg #[.slice ad L.length c, .int .i64 lim, .int .i64 mode, .int .i64 A, .int .i64 B, .int .i64 C, .int .i64 D, .int .i64 coast, .int .i64 fr], wishV kind g1 g2 g3 g4 (.slice br S.length dr) wd ht px lv fo] w fun e w' => OutT w' w.heap.size (obeyT ⟨L, lim, mode, A, B, C, D, coast, fr⟩ ⟨kind, g1, g2, g3, g4, S, wd, ht, px, lv, fo⟩) (obeyC ⟨L, lim, mode, A, B, C, D, coast, fr⟩ ⟨kind, g1, g2, g3, g4, S, wd, ht, px, lv, fo⟩) e ∧ Below w.heap.size w w' := by
  rcases right_nO hc with hk | hk | hk | hk
  · obtain rfl : kind = 1 := hk
    rw [(obey_1 hc rfl).1, (obey_1 hc rfl).2]
    exact obeyed_1 L lim mode A B C D coast fr ad c S g1 g2 g3 g4 wd ht lv fo px br dr p w hn hS hb hn2 hdr hd9 hD hB hcap hc9 hE hs
  · obtain rfl : kind = 2 := hk
    rw [(obey_2 hc rfl).1, (obey_2 hc rfl).2]
    exact obeyed_2 L lim mode A B C D coast fr ad c S g1 g2 g3 g4 wd ht lv fo px br dr p w hn hS hb hn2 hdr hd9 hD hB hcap hc9 hE hs
  · obtain rfl : kind = 3 := hk
    rw [(obey_3 hc rfl).1, (obey_3 hc rfl).2]
    exact obeyed_3 L lim mode A B C D coast fr ad c S g1 g2 g3 g4 wd ht lv fo px br dr p w hn hS hb hn2 hdr hd9 hD hB hcap hc9 hE hs
  · obtain rfl : kind = 4 := hk
    rw [(obey_4 hc rfl).1, (obey_4 hc rfl).2]
    exact obeyed_4 L lim mode A B C D coast fr ad c S g1 g2 g3 g4 wd ht lv fo px br dr p w hn hS hb hn2 hdr hd9 hD hB hcap hc9 hE hs
set_option maxHeartbeats 8000000 in
set_option maxRecDepth 100000 in
theorem implObey_any (kind : Int) (L : List St) (lim mode A B C D coast fr : Int) (ad : Option Addr) (c : Nat) (S : List D3) (g1 g2 g3 g4 wd ht lv fo : Int) (px : ByteArray) (br : Option Addr) (dr : Nat) (p pc : Addr) (w : World) (hn : L.length ≤ 1048576) (hS : Stars w ad L L.length) (hb : ∀ y, ad = some y → y.block < w.heap.size) (hn2 : S.length ≤ 1048576) (hdr : S.length ≤ dr) (hd9 : dr ≤ 9223372036854775807) (hD : Dirs w br S S.length) (hB : ∀ y, br = some y → y.block < w.heap.size) (hcap : L.length ≤ c) (hc9 : c ≤ 9223372036854775807) (hE : ErrSky p w) (hEc : ErrCmd pc w) (hs : px.size ≤ maxLen) :
    Calls Tryz.prog 10 #[.agg #[.slice ad L.length c, .int .i64 lim, .int .i64 mode, .int .i64 A, .int .i64 B, .int .i64 C, .int .i64 D, .int .i64 coast, .int .i64 fr], .agg #[.int .i64 kind, .int .i64 g1, .int .i64 g2, .int .i64 g3, .int .i64 g4, .slice br S.length dr, .int .i64 wd, .int .i64 ht, .string px, .int .i64 lv, .int .i64 fo]] w fun e w' => OutT w' w.heap.size (obeyT ⟨L, lim, mode, A, B, C, D, coast, fr⟩ ⟨kind, g1, g2, g3, g4, S, wd, ht, px, lv, fo⟩) (obeyC ⟨L, lim, mode, A, B, C, D, coast, fr⟩ ⟨kind, g1, g2, g3, g4, S, wd, ht, px, lv, fo⟩) e ∧ Below w.heap.size w w' := by
  have B0 := yz (below3 w (.cells #[.slice ad L.length c, .int .i64 lim, .int .i64 mode, .int .i64 A, .int .i64 B, .int .i64 C, .int .i64 D, .int .i64 coast, .int .i64 fr] 37) (.cells #[.int .i64 kind, .int .i64 g1, .int .i64 g2, .int .i64 g3, .int .i64 g4, .slice br S.length dr, .int .i64 wd, .int .i64 ht, .string px, .int .i64 lv, .int .i64 fo] 45) (.cells #[.slice none 0 0, .int .i64 0, .int .i64 0, .int .i64 0, .int .i64 0, .int .i64 0, .int .i64 0, .int .i64 0, .int .i64 0, .int .i64 0] 39))
  have A0 := yz (((blk_new w [.slice ad L.length c, .int .i64 lim, .int .i64 mode, .int .i64 A, .int .i64 B, .int .i64 C, .int .i64 D, .int .i64 coast, .int .i64 fr] 37).alloc (.cells #[.int .i64 kind, .int .i64 g1, .int .i64 g2, .int .i64 g3, .int .i64 g4, .slice br S.length dr, .int .i64 wd, .int .i64 ht, .string px, .int .i64 lv, .int .i64 fo] 45)).alloc (.cells #[.slice none 0 0, .int .i64 0, .int .i64 0, .int .i64 0, .int .i64 0, .int .i64 0, .int .i64 0, .int .i64 0, .int .i64 0, .int .i64 0] 39))
  have K0 := yz ((by simpa using blk_new (w.alloc (.cells #[.slice ad L.length c, .int .i64 lim, .int .i64 mode, .int .i64 A, .int .i64 B, .int .i64 C, .int .i64 D, .int .i64 coast, .int .i64 fr] 37)) [.int .i64 kind, .int .i64 g1, .int .i64 g2, .int .i64 g3, .int .i64 g4, .slice br S.length dr, .int .i64 wd, .int .i64 ht, .string px, .int .i64 lv, .int .i64 fo] 45 : Blk ((w.alloc (.cells #[.slice ad L.length c, .int .i64 lim, .int .i64 mode, .int .i64 A, .int .i64 B, .int .i64 C, .int .i64 D, .int .i64 coast, .int .i64 fr] 37)).alloc (.cells #[.int .i64 kind, .int .i64 g1, .int .i64 g2, .int .i64 g3, .int .i64 g4, .slice br S.length dr, .int .i64 wd, .int .i64 ht, .string px, .int .i64 lv, .int .i64 fo] 45)) (w.heap.size + 1) [.int .i64 kind, .int .i64 g1, .int .i64 g2, .int .i64 g3, .int .i64 g4, .slice br S.length dr, .int .i64 wd, .int .i64 ht, .string px, .int .i64 lv, .int .i64 fo] 45).alloc (.cells #[.slice none 0 0, .int .i64 0, .int .i64 0, .int .i64 0, .int .i64 0, .int .i64 0, .int .i64 0, .int .i64 0, .int .i64 0, .int .i64 0] 39))
  have R0 := yz (by simpa using blk_new ((w.alloc (.cells #[.slice ad L.length c, .int .i64 lim, .int .i64 mode, .int .i64 A, .int .i64 B, .int .i64 C, .int .i64 D, .int .i64 coast, .int .i64 fr] 37)).alloc (.cells #[.int .i64 kind, .int .i64 g1, .int .i64 g2, .int .i64 g3, .int .i64 g4, .slice br S.length dr, .int .i64 wd, .int .i64 ht, .string px, .int .i64 lv, .int .i64 fo] 45)) [.slice none 0 0, .int .i64 0, .int .i64 0, .int .i64 0, .int .i64 0, .int .i64 0, .int .i64 0, .int .i64 0, .int .i64 0, .int .i64 0] 39 : Blk (((w.alloc (.cells #[.slice ad L.length c, .int .i64 lim, .int .i64 mode, .int .i64 A, .int .i64 B, .int .i64 C, .int .i64 D, .int .i64 coast, .int .i64 fr] 37)).alloc (.cells #[.int .i64 kind, .int .i64 g1, .int .i64 g2, .int .i64 g3, .int .i64 g4, .slice br S.length dr, .int .i64 wd, .int .i64 ht, .string px, .int .i64 lv, .int .i64 fo] 45)).alloc (.cells #[.slice none 0 0, .int .i64 0, .int .i64 0, .int .i64 0, .int .i64 0, .int .i64 0, .int .i64 0, .int .i64 0, .int .i64 0, .int .i64 0] 39)) (w.heap.size + 1 + 1) [.slice none 0 0, .int .i64 0, .int .i64 0, .int .i64 0, .int .i64 0, .int .i64 0, .int .i64 0, .int .i64 0, .int .i64 0, .int .i64 0] 39)
  have hl0 : w.heap.size + 1 + 1 + 1 ≤ (((w.alloc (.cells #[.slice ad L.length c, .int .i64 lim, .int .i64 mode, .int .i64 A, .int .i64 B, .int .i64 C, .int .i64 D, .int .i64 coast, .int .i64 fr] 37)).alloc (.cells #[.int .i64 kind, .int .i64 g1, .int .i64 g2, .int .i64 g3, .int .i64 g4, .slice br S.length dr, .int .i64 wd, .int .i64 ht, .string px, .int .i64 lv, .int .i64 fo] 45)).alloc (.cells #[.slice none 0 0, .int .i64 0, .int .i64 0, .int .i64 0, .int .i64 0, .int .i64 0, .int .i64 0, .int .i64 0, .int .i64 0, .int .i64 0] 39)).heap.size := by simp
  have cW := yz (fun (W : World) (h : Below w.heap.size w W) => wishOf_any S kind g1 g2 g3 g4 wd ht lv fo px br dr pc W hn2 hdr hd9 (hD.kept h) (hEc.kept h))
  have cO := yz (fun (W : World) (h : Below w.heap.size w W) (hc : cmdB ⟨kind, g1, g2, g3, g4, S, wd, ht, px, lv, fo⟩ = true) => obeyed_any kind L lim mode A B C D coast fr ad c S g1 g2 g3 g4 wd ht lv fo px br dr p W hn (hS.kept h) (fun y e => Nat.lt_of_lt_of_le (hb y e) h.size) hn2 hdr hd9 (hD.kept h) (fun y e => Nat.lt_of_lt_of_le (hB y e) h.size) hcap hc9 (hE.kept h) hc hs)
  have HN := yz (fun h => obey_no (t := ⟨L, lim, mode, A, B, C, D, coast, fr⟩) (c := ⟨kind, g1, g2, g3, g4, S, wd, ht, px, lv, fo⟩) h)
  obtain ⟨t2, ht2⟩ : ∃ z, obeyT ⟨L, lim, mode, A, B, C, D, coast, fr⟩ ⟨kind, g1, g2, g3, g4, S, wd, ht, px, lv, fo⟩ = z := ⟨_, rfl⟩
  obtain ⟨code, hco⟩ : ∃ z, obeyC ⟨L, lim, mode, A, B, C, D, coast, fr⟩ ⟨kind, g1, g2, g3, g4, S, wd, ht, px, lv, fo⟩ = z := ⟨_, rfl⟩
  rw [ht2, hco] at cO HN ⊢
  clear ht2 hco hS hD hb hB hE hEc
  have hmf : ∀ (fn : Fn) (first cap : Array Value) (w : World), (Instr.makeFunc fn first cap).run Tryz.prog w = .ok (.func fn first cap) w := fun _ _ _ _ => rfl
  go_enter_defers Tryz.func10, Tryz.ntmps10
  go_wp2_with fail
  refine wp_region_held_drew (S := (fun w' => w'.cell? ⟨w.heap.size, 0, none⟩ = some (.slice ad L.length c) ∧ w'.cell? ⟨w.heap.size, 1, none⟩ = some (.int .i64 lim) ∧ w'.cell? ⟨w.heap.size, 2, none⟩ = some (.int .i64 mode) ∧ w'.cell? ⟨w.heap.size, 3, none⟩ = some (.int .i64 A) ∧ w'.cell? ⟨w.heap.size, 4, none⟩ = some (.int .i64 B) ∧ w'.cell? ⟨w.heap.size, 5, none⟩ = some (.int .i64 C) ∧ w'.cell? ⟨w.heap.size, 6, none⟩ = some (.int .i64 D) ∧ w'.cell? ⟨w.heap.size, 7, none⟩ = some (.int .i64 coast) ∧ w'.cell? ⟨w.heap.size, 8, none⟩ = some (.int .i64 fr) ∧ w'.cell? ⟨w.heap.size + 1, 0, none⟩ = some (.int .i64 kind) ∧ w'.cell? ⟨w.heap.size + 1, 1, none⟩ = some (.int .i64 g1) ∧ w'.cell? ⟨w.heap.size + 1, 2, none⟩ = some (.int .i64 g2) ∧ w'.cell? ⟨w.heap.size + 1, 3, none⟩ = some (.int .i64 g3) ∧ w'.cell? ⟨w.heap.size + 1, 4, none⟩ = some (.int .i64 g4) ∧ w'.cell? ⟨w.heap.size + 1, 5, none⟩ = some (.slice br S.length dr) ∧ w'.cell? ⟨w.heap.size + 1, 6, none⟩ = some (.int .i64 wd) ∧ w'.cell? ⟨w.heap.size + 1, 7, none⟩ = some (.int .i64 ht) ∧ w'.cell? ⟨w.heap.size + 1, 8, none⟩ = some (.string px) ∧ w'.cell? ⟨w.heap.size + 1, 9, none⟩ = some (.int .i64 lv) ∧ w'.cell? ⟨w.heap.size + 1, 10, none⟩ = some (.int .i64 fo) )) (by kernel_rfl) ?_ (fun hHeld => ?_)
  · exact ⟨(yx A0).cell 0 _ rfl, (yx A0).cell 1 _ rfl, (yx A0).cell 2 _ rfl, (yx A0).cell 3 _ rfl, (yx A0).cell 4 _ rfl, (yx A0).cell 5 _ rfl, (yx A0).cell 6 _ rfl, (yx A0).cell 7 _ rfl, (yx A0).cell 8 _ rfl, (yx K0).cell 0 _ rfl, (yx K0).cell 1 _ rfl, (yx K0).cell 2 _ rfl, (yx K0).cell 3 _ rfl, (yx K0).cell 4 _ rfl, (yx K0).cell 5 _ rfl, (yx K0).cell 6 _ rfl, (yx K0).cell 7 _ rfl, (yx K0).cell 8 _ rfl, (yx K0).cell 9 _ rfl, (yx K0).cell 10 _ rfl⟩
  refine wpAnyH_take (i := 0) (v := ?_) rfl (by kernel_rfl) (by kernel_rfl) (by kernel_rfl) (fun _ _ _ h => leaves_resO (resOb (k := 6) (by decide)) _ _ _ h) (Or.inl ⟨by kernel_rfl, ?_⟩) (by assumption) ?_
  rotate_left
  · intro W0 hSw; (try dsimp only at hSw); go_simp <;> with_reducible rfl
  try simp only [Act.put, List.setIfInBounds_toArray, List.set_cons_zero, List.set_cons_succ]
  refine wpAnyH_take (i := 1) (v := ?_) rfl (by kernel_rfl) (by kernel_rfl) (by kernel_rfl) (fun _ _ _ h => leaves_resO (resOb (k := 7) (by decide)) _ _ _ h) (Or.inl ⟨by kernel_rfl, ?_⟩) (by assumption) ?_
  rotate_left
  · intro W0 hSw; (try dsimp only at hSw); go_simp <;> with_reducible rfl
  try simp only [Act.put, List.setIfInBounds_toArray, List.set_cons_zero, List.set_cons_succ]
  have Bd := yz ((yx B0).drew)
  have Ad := yz ((yx A0).drewn)
  have Kd := yz ((yx K0).drewn)
  have Rd := yz ((yx R0).drewn)
  have hld : w.heap.size + 1 + 1 + 1 ≤ (World.drew (((w.alloc (.cells #[.slice ad L.length c, .int .i64 lim, .int .i64 mode, .int .i64 A, .int .i64 B, .int .i64 C, .int .i64 D, .int .i64 coast, .int .i64 fr] 37)).alloc (.cells #[.int .i64 kind, .int .i64 g1, .int .i64 g2, .int .i64 g3, .int .i64 g4, .slice br S.length dr, .int .i64 wd, .int .i64 ht, .string px, .int .i64 lv, .int .i64 fo] 45)).alloc (.cells #[.slice none 0 0, .int .i64 0, .int .i64 0, .int .i64 0, .int .i64 0, .int .i64 0, .int .i64 0, .int .i64 0, .int .i64 0, .int .i64 0] 39))).heap.size := hl0
  generalize World.drew (((w.alloc (.cells #[.slice ad L.length c, .int .i64 lim, .int .i64 mode, .int .i64 A, .int .i64 B, .int .i64 C, .int .i64 D, .int .i64 coast, .int .i64 fr] 37)).alloc (.cells #[.int .i64 kind, .int .i64 g1, .int .i64 g2, .int .i64 g3, .int .i64 g4, .slice br S.length dr, .int .i64 wd, .int .i64 ht, .string px, .int .i64 lv, .int .i64 fo] 45)).alloc (.cells #[.slice none 0 0, .int .i64 0, .int .i64 0, .int .i64 0, .int .i64 0, .int .i64 0, .int .i64 0, .int .i64 0, .int .i64 0, .int .i64 0] 39)) = V at Bd Ad Kd Rd hld hHeld ⊢
  clear B0 A0 K0 R0 hl0
  refine wpAnyH_ready (rs := [2]) (by kernel_rfl) (by simp) ?_
  refine AllReadyH.cons rfl (fun K hK => ?_) AllReadyH.nil
  go_simp
  refine (yx cW _ (yx Bd)).mono ?_
  rintro e v2 ⟨he, hx⟩
  have B2' := yz (below_call (yx Bd) hx)
  have A2' := yz ((yx Ad).kept hx)
  have K2' := yz ((yx Kd).kept hx)
  have R2' := yz ((yx Rd).kept hx)
  have hl2 := hx.size
  clear hx Bd Ad Kd Rd cW
  unfold WishEnd at he
  cases hk : cmdB ⟨kind, g1, g2, g3, g4, S, wd, ht, px, lv, fo⟩
  · rw [hk] at he
    have he' : e = noCmd pc := he
    subst he'
    have HO := yz (yx HN hk)
    unfold noCmd
    clear hK cO HN
    go_wp2_with fail
    refine leaves_cons (f := 34) (args := #[.pointer (some ⟨w.heap.size + 1 + 1, 0, none⟩)]) (by simp) (by simp [go_sem]) ?_
    refine (catchO_panicking (w.heap.size + 1 + 1) _ _ _ [] _ rfl (yx R2')).mono ?_
    rintro e u' w'' ⟨rfl, rfl, hw⟩
    subst hw
    refine ⟨_, res_iobey _ _ (w.heap.size + 1 + 1) _ 0 0 0 0 0 0 0 0 1 rfl (tkO_blk (blk_set10 (yx R2') rfl _ 0 0 0 0 0 0 0 0 1)), ?_, ?_⟩
    · rw [(yx HO).1, (yx HO).2]
      exact outT_ill _ _ 1
    · iterate 10 (refine belowSet ?_ (show w.heap.size ≤ w.heap.size + 1 + 1 by omega) _ _)
      exact yx B2'
  rw [hk, if_pos rfl] at he
  dsimp only at he
  subst he
  replace cO := yz (fun W h => yx cO W h hk)
  generalize wishV kind g1 g2 g3 g4 (.slice br S.length dr) wd ht px lv fo = wv at cO ⊢
  clear HN hk
  obtain ⟨L2, lim2, mode2, A2, B2, C2, D2, coast2, fr2⟩ := t2
  refine hK.out _ _ ⟨(yx A2').cell 0 _ rfl, (yx A2').cell 1 _ rfl, (yx A2').cell 2 _ rfl, (yx A2').cell 3 _ rfl, (yx A2').cell 4 _ rfl, (yx A2').cell 5 _ rfl, (yx A2').cell 6 _ rfl, (yx A2').cell 7 _ rfl, (yx A2').cell 8 _ rfl, (yx K2').cell 0 _ rfl, (yx K2').cell 1 _ rfl, (yx K2').cell 2 _ rfl, (yx K2').cell 3 _ rfl, (yx K2').cell 4 _ rfl, (yx K2').cell 5 _ rfl, (yx K2').cell 6 _ rfl, (yx K2').cell 7 _ rfl, (yx K2').cell 8 _ rfl, (yx K2').cell 9 _ rfl, (yx K2').cell 10 _ rfl⟩ (fun hHeld2 => ?_)
  clear hK K hHeld
  refine wpAnyH_ready (rs := [3]) (by kernel_rfl) (by simp) ?_
  refine AllReadyH.cons rfl (fun K hK => ?_) AllReadyH.nil
  go_simp
  refine (yx cO _ (yx B2')).mono ?_
  rintro e w3 ⟨⟨a2, c2, rfl, hC⟩, hx⟩
  dsimp only at hC
  have C5 := yz (hC.low (B' := w.heap.size + 1 + 1 + 1) (by omega))
  have R5 := yz ((yx R2').kept hx)
  have A5 := yz ((yx A2').kept hx)
  have K5 := yz ((yx K2').kept hx)
  have B5 := yz (below_call (yx B2') hx)
  clear hx hC R2' B2' A2' K2' cO
  refine hK.out _ _ ⟨(yx A5).cell 0 _ rfl, (yx A5).cell 1 _ rfl, (yx A5).cell 2 _ rfl, (yx A5).cell 3 _ rfl, (yx A5).cell 4 _ rfl, (yx A5).cell 5 _ rfl, (yx A5).cell 6 _ rfl, (yx A5).cell 7 _ rfl, (yx A5).cell 8 _ rfl, (yx K5).cell 0 _ rfl, (yx K5).cell 1 _ rfl, (yx K5).cell 2 _ rfl, (yx K5).cell 3 _ rfl, (yx K5).cell 4 _ rfl, (yx K5).cell 5 _ rfl, (yx K5).cell 6 _ rfl, (yx K5).cell 7 _ rfl, (yx K5).cell 8 _ rfl, (yx K5).cell 9 _ rfl, (yx K5).cell 10 _ rfl⟩ (fun hHeld3 => ?_)
  clear hK K hHeld2
  refine wpAnyH_ready (rs := [4]) (by kernel_rfl) (by simp) ?_
  refine AllReadyH.cons rfl (fun K hK => ?_) AllReadyH.nil
  obtain ⟨r0, r1, r2, r3, r4, r5, r6, r7, r8, r9⟩ := bcs10 (yx R5)
  obtain ⟨e0, e1, e2, e3, e4, e5, e6, e7, e8, e9⟩ := bfs10 (yx R5)
  go_simp
  clear r0 r1 r2 r3 r4 r5 r6 r7 r8 r9 e0 e1 e2 e3 e4 e5 e6 e7 e8 e9
  have A6 := yz (blk_off10 (yx A5) (show w.heap.size ≠ w.heap.size + 1 + 1 by omega) (.slice a2 L2.length c2) (.int .i64 lim2) (.int .i64 mode2) (.int .i64 A2) (.int .i64 B2) (.int .i64 C2) (.int .i64 D2) (.int .i64 coast2) (.int .i64 fr2) (.int .i64 code))
  have K6 := yz (blk_off10 (yx K5) (show w.heap.size + 1 ≠ w.heap.size + 1 + 1 by omega) (.slice a2 L2.length c2) (.int .i64 lim2) (.int .i64 mode2) (.int .i64 A2) (.int .i64 B2) (.int .i64 C2) (.int .i64 D2) (.int .i64 coast2) (.int .i64 fr2) (.int .i64 code))
  refine hK.out _ _ ⟨(yx A6).cell 0 _ rfl, (yx A6).cell 1 _ rfl, (yx A6).cell 2 _ rfl, (yx A6).cell 3 _ rfl, (yx A6).cell 4 _ rfl, (yx A6).cell 5 _ rfl, (yx A6).cell 6 _ rfl, (yx A6).cell 7 _ rfl, (yx A6).cell 8 _ rfl, (yx K6).cell 0 _ rfl, (yx K6).cell 1 _ rfl, (yx K6).cell 2 _ rfl, (yx K6).cell 3 _ rfl, (yx K6).cell 4 _ rfl, (yx K6).cell 5 _ rfl, (yx K6).cell 6 _ rfl, (yx K6).cell 7 _ rfl, (yx K6).cell 8 _ rfl, (yx K6).cell 9 _ rfl, (yx K6).cell 10 _ rfl⟩ (fun hHeld4 => ?_)
  clear hK K hHeld3 A6 K6
  refine wpAnyH_done (by kernel_rfl) ?_ _
  clear hHeld4
  go_wp2_with fail
  refine leaves_cons (f := 34) (args := #[.pointer (some ⟨w.heap.size + 1 + 1, 0, none⟩)]) (by simp) (by simp [go_sem]) ?_
  refine (catchO_idle (w.heap.size + 1 + 1) _).mono ?_
  rintro e u' w'' ⟨rfl, rfl, hw⟩
  subst hw
  refine ⟨_, res_iobey _ _ (w.heap.size + 1 + 1) _ lim2 mode2 A2 B2 C2 D2 coast2 fr2 code rfl (tkO_blk (blk_set10 (yx R5) rfl _ lim2 mode2 A2 B2 C2 D2 coast2 fr2 code)), ?_, ?_⟩
  · refine ⟨a2, c2, rfl, ?_⟩
    refine Copied.low (B := w.heap.size + 1 + 1 + 1) ?_ (by omega)
    iterate 10 (refine Copied.far ?_ (Nat.lt_succ_self (w.heap.size + 1 + 1)) _ _)
    exact yx C5
  · iterate 10 (refine belowSet ?_ (show w.heap.size ≤ w.heap.size + 1 + 1 by omega) _ _)
    exact yx B5
end Go.Proofs.YteoonaanoenjiaaGreatDoor
namespace Go.Proofs.YteoonaanoenjiaaGreatDoor
open Go.RowKit Go.Sort
set_option linter.unusedVariables false
theorem stepCmZ {w1 wx wn : World} {X : Prop} (hx : Below wx.heap.size wx wn) (h : X ∧ Below w1.heap.size w1 wx) : Below w1.heap.size w1 wn := below_call h.2 hx
theorem stepCmD {w1 wx wn : World} {X : Prop} (hx : Below wx.drew.heap.size wx.drew wn) (h : X ∧ Below w1.heap.size w1 wx) : Below w1.heap.size w1 wn := h.2.drew.trans (hx.mono h.2.size)
def CmAt (W : World) (b : Nat) (v : Value) (kind A B C D wd ht lv fo : Int) (px : ByteArray) : Prop := W.cell? ⟨b, 0, none⟩ = some (.int .i64 kind) ∧ W.cell? ⟨b, 1, none⟩ = some (.int .i64 A) ∧ W.cell? ⟨b, 2, none⟩ = some (.int .i64 B) ∧ W.cell? ⟨b, 3, none⟩ = some (.int .i64 C) ∧ W.cell? ⟨b, 4, none⟩ = some (.int .i64 D) ∧ W.cell? ⟨b, 5, none⟩ = some v ∧ W.cell? ⟨b, 6, none⟩ = some (.int .i64 wd) ∧ W.cell? ⟨b, 7, none⟩ = some (.int .i64 ht) ∧ W.cell? ⟨b, 8, none⟩ = some (.string px) ∧ W.cell? ⟨b, 9, none⟩ = some (.int .i64 lv) ∧ W.cell? ⟨b, 10, none⟩ = some (.int .i64 fo)
theorem cmAt_of {W : World} {b : Nat} {v : Value} {kind A B C D wd ht lv fo : Int} {px : ByteArray} {t : TypeId} (h : Blk W b [.int .i64 kind, .int .i64 A, .int .i64 B, .int .i64 C, .int .i64 D, v, .int .i64 wd, .int .i64 ht, .string px, .int .i64 lv, .int .i64 fo] t) : CmAt W b v kind A B C D wd ht lv fo px :=
  ⟨h.cell 0 _ rfl, h.cell 1 _ rfl, h.cell 2 _ rfl, h.cell 3 _ rfl, h.cell 4 _ rfl, h.cell 5 _ rfl, h.cell 6 _ rfl, h.cell 7 _ rfl, h.cell 8 _ rfl, h.cell 9 _ rfl, h.cell 10 _ rfl⟩
theorem holdCC {w1 wx : World} {P Q : Nat} {u v : Value} {kind A B C D wd ht lv fo : Int} {px : ByteArray} {t t' : TypeId} (ta : Blk w1 P [.int .i64 kind, .int .i64 A, .int .i64 B, .int .i64 C, .int .i64 D, u, .int .i64 wd, .int .i64 ht, .string px, .int .i64 lv, .int .i64 fo] t) (tb : Blk w1 Q [.int .i64 kind, .int .i64 A, .int .i64 B, .int .i64 C, .int .i64 D, v, .int .i64 wd, .int .i64 ht, .string px, .int .i64 lv, .int .i64 fo] t') (h : Below w1.heap.size w1 wx) : ((wx.cell? ⟨P, 0, none⟩ = some (.int .i64 kind) ∧ wx.cell? ⟨P, 1, none⟩ = some (.int .i64 A) ∧ wx.cell? ⟨P, 2, none⟩ = some (.int .i64 B) ∧ wx.cell? ⟨P, 3, none⟩ = some (.int .i64 C) ∧ wx.cell? ⟨P, 4, none⟩ = some (.int .i64 D) ∧ wx.cell? ⟨P, 5, none⟩ = some (u) ∧ wx.cell? ⟨P, 6, none⟩ = some (.int .i64 wd) ∧ wx.cell? ⟨P, 7, none⟩ = some (.int .i64 ht) ∧ wx.cell? ⟨P, 8, none⟩ = some (.string px) ∧ wx.cell? ⟨P, 9, none⟩ = some (.int .i64 lv) ∧ wx.cell? ⟨P, 10, none⟩ = some (.int .i64 fo)) ∧ (wx.cell? ⟨Q, 0, none⟩ = some (.int .i64 kind) ∧ wx.cell? ⟨Q, 1, none⟩ = some (.int .i64 A) ∧ wx.cell? ⟨Q, 2, none⟩ = some (.int .i64 B) ∧ wx.cell? ⟨Q, 3, none⟩ = some (.int .i64 C) ∧ wx.cell? ⟨Q, 4, none⟩ = some (.int .i64 D) ∧ wx.cell? ⟨Q, 5, none⟩ = some (v) ∧ wx.cell? ⟨Q, 6, none⟩ = some (.int .i64 wd) ∧ wx.cell? ⟨Q, 7, none⟩ = some (.int .i64 ht) ∧ wx.cell? ⟨Q, 8, none⟩ = some (.string px) ∧ wx.cell? ⟨Q, 9, none⟩ = some (.int .i64 lv) ∧ wx.cell? ⟨Q, 10, none⟩ = some (.int .i64 fo))) ∧ Below w1.heap.size w1 wx := ⟨⟨cmAt_of (ta.kept h), cmAt_of (tb.kept h)⟩, h⟩
end Go.Proofs.YteoonaanoenjiaaGreatDoor
