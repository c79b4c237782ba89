/- Several texts in one: LkE, LkF, CmM, FrD, FrE, FrF. -/
import Derived.Deep.DeepCutAuto
import Derived.Laws.OwnMore
import Derived.Deep.RegionHeld
import Derived.Test.YteoonaanoenjiaaGreatDoorQObeyOwn21
import Derived.Test.YteoonaanoenjiaaGreatDoorQObeyOwn16
import Derived.Test.YteoonaanoenjiaaGreatDoorQObeyOwn1
namespace Go.Proofs.YteoonaanoenjiaaGreatDoor
open Go.RowKit Go.Sort
set_option linter.unusedVariables false
set_option linter.unusedSimpArgs false
theorem res_slook7 (T : Array Value) (X : World) (b : Nat) (v : Value) (lim mode A B C D coast fr code : Int) (hT : T.getD 4 undef = .pointer (some ⟨b, 0, none⟩)) (h : TkO X b v lim mode A B C D coast fr code) : (results Tryz.f108 T).run Tryz.prog X = .ok (.agg #[v, .int .i64 lim, .int .i64 mode, .int .i64 A, .int .i64 B, .int .i64 C, .int .i64 D, .int .i64 coast, .int .i64 fr, .int .i64 code]) X := by
  obtain ⟨⟨h0, h1, h2, h3, h4, h5, h6, h7, h8⟩, h9⟩ := h
  simp only [Array.getD_eq_getD_getElem?] at hT
  simp [results, Tryz.results108, go_sem, hT, h0, h1, h2, h3, h4, h5, h6, h7, h8, h9]
theorem res_slook (T : Array Value) (X : World) (b : Nat) (v : Value) (lim mode A B C D coast fr code : Int) (hT : T.getD 4 undef = .pointer (some ⟨b, 0, none⟩)) (h : TkO X b v lim mode A B C D coast fr code) : (results Tryz.f64 T).run Tryz.prog X = .ok (.agg #[v, .int .i64 lim, .int .i64 mode, .int .i64 A, .int .i64 B, .int .i64 C, .int .i64 D, .int .i64 coast, .int .i64 fr, .int .i64 code]) X := by
  obtain ⟨⟨h0, h1, h2, h3, h4, h5, h6, h7, h8⟩, h9⟩ := h
  simp only [Array.getD_eq_getD_getElem?] at hT
  simp [results, Tryz.results64, go_sem, hT, h0, h1, h2, h3, h4, h5, h6, h7, h8, h9]
theorem turnOf_yes {L : List St} {S : List D3} (hk : skyB L = true) (hp : spotsB S = true) (h0 : idCode L S = 0) : turnOfV L S = forV L S (idIds L S) := by
  have h12 := (sky_ok hk).1
  have h6 := (spots_ok hp).1
  obtain ⟨e1, e2, e3⟩ := ident_yes (L := L) (S := S) (by omega) (by unfold idOk; rw [hk, hp]; rfl)
  unfold turnOfV
  rw [e3, if_pos h0, e1]
theorem turnOf_no {L : List St} {S : List D3} (hk : skyB L = true) (hp : spotsB S = true) (h0 : idCode L S ≠ 0) : (turnOfV L S).2 ≠ 0 := by
  have h12 := (sky_ok hk).1
  have h6 := (spots_ok hp).1
  obtain ⟨e1, e2, e3⟩ := ident_yes (L := L) (S := S) (by omega) (by unfold idOk; rw [hk, hp]; rfl)
  unfold turnOfV
  rw [e3, if_neg h0]
  exact h0
set_option maxHeartbeats 16000000 in
set_option maxRecDepth 100000 in
theorem l07Look_any (L : List St) (S : List D3) (lim mode A B C D coast fr : Int) (ad : Option Addr) (c : Nat) (br : Option Addr) (dr : Nat) (w : World) (hn : L.length ≤ 1048576) (hdr : S.length ≤ dr) (hd9 : dr ≤ 9223372036854775807) (hS : Stars w ad L L.length) (hD : Dirs w br S S.length) (hb : ∀ y, ad = some y → y.block < w.heap.size) (hB : ∀ y, br = some y → y.block < w.heap.size) (hsk : skyB L = true) (hsp : spotsB S = true) (hm : mode = 0 ∨ mode = 1 ∨ mode = 2) (hr : mode ≠ 0 → rightT A B C D = true) (hc0 : 0 ≤ coast) (hc5 : coast ≤ 5) (hf0 : 0 ≤ fr) (hf1 : fr ≤ 1000000) :
    Calls Tryz.prog 108 #[.agg #[.slice ad L.length c, .int .i64 lim, .int .i64 mode, .int .i64 A, .int .i64 B, .int .i64 C, .int .i64 D, .int .i64 coast, .int .i64 fr], .slice br S.length dr] w fun e w' => OutT w' w.heap.size (lookR ⟨L, lim, mode, A, B, C, D, coast, fr⟩ S) 0 e ∧ Below w.heap.size w w' := by
  have hwr : wrap64 (fr + 1) = fr + 1 := wrap_id (by omega) (by omega)
  have hwc : wrap64 (coast + 1) = coast + 1 := wrap_id (by omega) (by omega)
  have B0 := yz (below2 w (.cells #[.slice ad L.length c, .int .i64 lim, .int .i64 mode, .int .i64 A, .int .i64 B, .int .i64 C, .int .i64 D, .int .i64 coast, .int .i64 fr] 37) (.cells #[.slice none 0 0, .int .i64 0, .int .i64 0, .int .i64 0, .int .i64 0, .int .i64 0, .int .i64 0, .int .i64 0, .int .i64 0, .int .i64 0] 39))
  have A0 := yz ((blk_new w [.slice ad L.length c, .int .i64 lim, .int .i64 mode, .int .i64 A, .int .i64 B, .int .i64 C, .int .i64 D, .int .i64 coast, .int .i64 fr] 37).alloc (.cells #[.slice none 0 0, .int .i64 0, .int .i64 0, .int .i64 0, .int .i64 0, .int .i64 0, .int .i64 0, .int .i64 0, .int .i64 0, .int .i64 0] 39))
  have R0 := yz (by simpa using blk_new (w.alloc (.cells #[.slice ad L.length c, .int .i64 lim, .int .i64 mode, .int .i64 A, .int .i64 B, .int .i64 C, .int .i64 D, .int .i64 coast, .int .i64 fr] 37)) [.slice none 0 0, .int .i64 0, .int .i64 0, .int .i64 0, .int .i64 0, .int .i64 0, .int .i64 0, .int .i64 0, .int .i64 0, .int .i64 0] 39 : Blk ((w.alloc (.cells #[.slice ad L.length c, .int .i64 lim, .int .i64 mode, .int .i64 A, .int .i64 B, .int .i64 C, .int .i64 D, .int .i64 coast, .int .i64 fr] 37)).alloc (.cells #[.slice none 0 0, .int .i64 0, .int .i64 0, .int .i64 0, .int .i64 0, .int .i64 0, .int .i64 0, .int .i64 0, .int .i64 0, .int .i64 0] 39)) (w.heap.size + 1) [.slice none 0 0, .int .i64 0, .int .i64 0, .int .i64 0, .int .i64 0, .int .i64 0, .int .i64 0, .int .i64 0, .int .i64 0, .int .i64 0] 39)
  have hl0 : w.heap.size + 1 + 1 ≤ ((w.alloc (.cells #[.slice ad L.length c, .int .i64 lim, .int .i64 mode, .int .i64 A, .int .i64 B, .int .i64 C, .int .i64 D, .int .i64 coast, .int .i64 fr] 37)).alloc (.cells #[.slice none 0 0, .int .i64 0, .int .i64 0, .int .i64 0, .int .i64 0, .int .i64 0, .int .i64 0, .int .i64 0, .int .i64 0, .int .i64 0] 39)).heap.size := by simp
  have cC := yz (l07Copy_any L lim mode A B C D coast fr ad c _ hn (hS.kept (yx B0)))
  have cM : Hid (mode ≠ 0 → ∀ W : World, Below w.heap.size w W → Calls Tryz.prog 141 #[.slice ad L.length c, .agg #[.int .i64 A, .int .i64 B, .int .i64 C, .int .i64 D], .slice br S.length dr] W fun e w' => (∃ v, e = .returned (.tuple #[v, .int .i64 (cntN (matchL L A B C D S) : Int)])) ∧ Below W.heap.size W w') := yz (fun h0 W h => (l06Match_any L S _ br c dr A B C D W hsk (hr h0) hsp (hS.kept h) (hD.kept h)).mono fun e w' hh => by
    obtain ⟨⟨v, he, _⟩, hx⟩ := hh
    rw [hits_cnt hsk (hr h0) hsp] at he
    exact ⟨⟨v, he⟩, hx⟩)
  have cI := yz (fun (W : World) (h : Below w.heap.size w W) => l06Identify_any L S ad br c dr W hsk hsp hdr hd9 (hS.kept h) (hD.kept h) (fun y e => Nat.lt_of_lt_of_le (hb y e) h.size) (fun y e => Nat.lt_of_lt_of_le (hB y e) h.size))
  obtain ⟨⟨⟨t1, t2, t3, t4⟩, tc⟩, htv⟩ : ∃ z, turnOfV L S = z := ⟨_, rfl⟩
  have cF : Hid (idCode L S = 0 → ∀ (W : World) (x : Option Addr) (k : Nat), Below w.heap.size w W → Nums W x (idIds L S) (idIds L S).length → Calls Tryz.prog 144 #[.slice ad L.length c, .slice br S.length dr, .slice x (idIds L S).length k] W fun e w' => e = .returned (.agg #[.int .i64 t1, .int .i64 t2, .int .i64 t3, .int .i64 t4, .int .i64 tc]) ∧ Below W.heap.size W w') := yz (fun h0 W x k h hN => by
    have h1 := l06For_any L S (idIds L S) _ br x c dr k W (found_named hsk hsp h0) (hS.kept h) (hD.kept h) hN
    rw [for_found hsk hsp h0, ← turnOf_yes hsk hsp h0, htv] at h1
    exact h1)
  have hTN : Hid (idCode L S ≠ 0 → tc ≠ 0) := yz (fun h0 => by have := turnOf_no hsk hsp h0; rw [htv] at this; exact this)
  have hO1 : Hid (mode ≠ 0 → 2 ≤ cntN (matchL L A B C D S) → lookR ⟨L, lim, mode, A, B, C, D, coast, fr⟩ S = ⟨L, lim, 1, A, B, C, D, 0, fr + 1⟩) := yz (fun h1 h2 => by unfold lookR; rw [if_pos ⟨h1, h2⟩]; rfl)
  have hO2 : Hid (¬ (mode ≠ 0 ∧ 2 ≤ cntN (matchL L A B C D S)) → tc = 0 → lookR ⟨L, lim, mode, A, B, C, D, coast, fr⟩ S = ⟨L, lim, 1, t1, t2, t3, t4, 0, fr + 1⟩) := yz (fun h1 h2 => by unfold lookR; dsimp only; rw [if_neg h1, htv, if_pos h2]; rfl)
  have hO3 : Hid (¬ (mode ≠ 0 ∧ 2 ≤ cntN (matchL L A B C D S)) → tc ≠ 0 → lookR ⟨L, lim, mode, A, B, C, D, coast, fr⟩ S = unseenT ⟨L, lim, mode, A, B, C, D, coast, fr + 1⟩) := yz (fun h1 h2 => by unfold lookR; dsimp only; rw [if_neg h1, htv, if_neg h2])
  have hid := identL_len L S
  generalize cntN (matchL L A B C D S) = cn at *
  clear hS htv hsk hsp hr hf0 hf1 hid
  have hm0 := hm
  clear hm
  go_enter Tryz.func108, Tryz.ntmps108
  go_wp2_with fail
  refine (yx cC).mono ?_
  rintro e w2 ⟨a, cap, rfl, hC, hx⟩
  have Z := below1 w2 (.cells #[.slice a L.length cap, .int .i64 lim, .int .i64 mode, .int .i64 A, .int .i64 B, .int .i64 C, .int .i64 D, .int .i64 coast, .int .i64 (fr + 1)] 37)
  have C2 := yz ((hC.low (B' := w.heap.size + 1 + 1) (by omega)).kept Z)
  have hcb : ∀ y, a = some y → y.block < w2.heap.size := fun y e => (hC.block y e).2
  have p8 := (((yx A0).kept hx).kept (below1 w2 (.cells #[.slice a L.length cap, .int .i64 lim, .int .i64 mode, .int .i64 A, .int .i64 B, .int .i64 C, .int .i64 D, .int .i64 coast, .int .i64 fr] 37))).cell 8 _ rfl
  have A2 := yz (((yx A0).kept hx).kept Z)
  have R2 := yz (((yx R0).kept hx).kept Z)
  have B2 := yz (below_call (below_call (yx B0) hx) Z)
  have T2 := yz (blk_new w2 [.slice a L.length cap, .int .i64 lim, .int .i64 mode, .int .i64 A, .int .i64 B, .int .i64 C, .int .i64 D, .int .i64 coast, .int .i64 (fr + 1)] 37)
  have hl2 : w.heap.size + 1 + 1 ≤ w2.heap.size := Nat.le_trans hl0 hx.size
  have hD2 := yz (hD.kept (yx B2))
  clear hx hC Z A0 R0 B0 cC hl0 hD
  obtain ⟨q0, q1, q2, q3, q4, q5, q6, q7, q8⟩ := bcs9 (yx A2)
  obtain ⟨s0, s1, s2, s3, s4, s5, s6, s7, s8⟩ := bcs9 (yx T2)
  obtain ⟨f0, f1, f2, f3, f4, f5, f6, f7, f8⟩ := bfs9 (yx T2)
  by_cases h1 : mode = 0
  · have hneg : ¬ (mode ≠ 0 ∧ 2 ≤ cn) := fun h => h.1 h1
    subst h1
    go_wp2_with fail
    clear q0 q1 q2 q3 q4 q5 q6 q7 q8 s0 s1 s2 s3 s4 s5 s6 s7 s8 f0 f1 f2 f3 f4 f5 f6 f7 f8 p8
    refine (yx cI _ (yx B2)).mono ?_
    rintro e w4 ⟨hO, hx⟩
    obtain ⟨x, k, rfl, hv⟩ := outI_nums hO
    have Z := below1 w4 (.cells #[.slice x (idIds L S).length k, .int .i64 (idCnt L S), .int .i64 (idCode L S)] 196)
    have A4 := yz (((yx A2).kept hx).kept Z)
    have R4 := yz (((yx R2).kept hx).kept Z)
    have C4 := yz (((yx C2).kept hx).kept Z)
    have T4 := yz (((yx T2).kept hx).kept Z)
    have B4 := yz (below_call (below_call (yx B2) hx) Z)
    have I4 := yz (blk_new w4 [.slice x (idIds L S).length k, .int .i64 (idCnt L S), .int .i64 (idCode L S)] 196)
    have N4 := yz (hv.kept Z)
    clear hx hO hv Z
    have cF4 : Hid (idCode L S = 0 → Calls Tryz.prog 144 #[.slice ad L.length c, .slice br S.length dr, .slice x (idIds L S).length k] (w4.alloc (.cells #[.slice x (idIds L S).length k, .int .i64 (idCnt L S), .int .i64 (idCode L S)] 196)) fun e w' => e = .returned (.agg #[.int .i64 t1, .int .i64 t2, .int .i64 t3, .int .i64 t4, .int .i64 tc]) ∧ Below (w4.alloc (.cells #[.slice x (idIds L S).length k, .int .i64 (idCnt L S), .int .i64 (idCode L S)] 196)).heap.size (w4.alloc (.cells #[.slice x (idIds L S).length k, .int .i64 (idCnt L S), .int .i64 (idCode L S)] 196)) w') := yz (fun h0 => yx cF h0 _ x k (yx B4) (yx N4))
    clear N4
    generalize (idIds L S).length = nI at *
    generalize idCode L S = kd at *
    generalize idCnt L S = kc at *
    obtain ⟨j0, j1, j2⟩ := bcs3 (yx I4)
    obtain ⟨q0, q1, q2, q3, q4, q5, q6, q7, q8⟩ := bcs9 (yx A4)
    obtain ⟨s0, s1, s2, s3, s4, s5, s6, s7, s8⟩ := bcs9 (yx T4)
    obtain ⟨f0, f1, f2, f3, f4, f5, f6, f7, f8⟩ := bfs9 (yx T4)
    by_cases h3 : kd = 0
    · have cF5 := yz (yx cF4 h3)
      clear cF4
      subst h3
      go_wp2_with fail
      clear j0 j1 j2 q0 q1 q2 q3 q4 q5 q6 q7 q8 s0 s1 s2 s3 s4 s5 s6 s7 s8 f0 f1 f2 f3 f4 f5 f6 f7 f8
      refine (yx cF5).mono ?_
      rintro e w5 ⟨rfl, hx⟩
      have Z := below1 w5 (.cells #[.int .i64 t1, .int .i64 t2, .int .i64 t3, .int .i64 t4, .int .i64 tc] 156)
      have A5 := yz (((yx A4).kept hx).kept Z)
      have R5 := yz (((yx R4).kept hx).kept Z)
      have C5 := yz (((yx C4).kept hx).kept Z)
      have T5 := yz (((yx T4).kept hx).kept Z)
      have B5 := yz (below_call (below_call (yx B4) hx) Z)
      have U5 := yz (blk_new w5 [.int .i64 t1, .int .i64 t2, .int .i64 t3, .int .i64 t4, .int .i64 tc] 156)
      clear hx Z cF5 A4 R4 C4 T4 B4 I4
      obtain ⟨j0, j1, j2, j3, j4⟩ := bcs5 (yx U5)
      obtain ⟨q0, q1, q2, q3, q4, q5, q6, q7, q8⟩ := bcs9 (yx A5)
      obtain ⟨s0, s1, s2, s3, s4, s5, s6, s7, s8⟩ := bcs9 (yx T5)
      obtain ⟨f0, f1, f2, f3, f4, f5, f6, f7, f8⟩ := bfs9 (yx T5)
      by_cases h4 : tc = 0
      · have HO := yz (yx hO2 hneg h4)
        subst h4
        go_wp2_with fail
        clear j0 j1 j2 j3 j4 q0 q1 q2 q3 q4 q5 q6 q7 q8 s0 s1 s2 s3 s4 s5 s6 s7 s8 f0 f1 f2 f3 f4 f5 f6 f7 f8
        refine (l07Track_any lim _ A B C D coast (fr + 1) t1 t2 t3 t4 a L.length cap _).mono ?_
        rintro e w6 ⟨rfl, hx⟩
        have R6 := yz ((yx R5).kept hx)
        have C6 := yz ((yx C5).kept hx)
        have B6 := yz (below_call (yx B5) hx)
        clear hx
        obtain ⟨r0, r1, r2, r3, r4, r5, r6, r7, r8, r9⟩ := bcs10 (yx R6)
        obtain ⟨g0, g1, g2, g3, g4, g5, g6, g7, g8, g9⟩ := bfs10 (yx R6)
        go_wp2_with fail
        clear r0 r1 r2 r3 r4 r5 r6 r7 r8 r9 g0 g1 g2 g3 g4 g5 g6 g7 g8 g9
        rw [yx HO]
        refine bodyPost_ret (v := .agg #[.slice a L.length cap, .int .i64 lim, .int .i64 1, .int .i64 t1, .int .i64 t2, .int .i64 t3, .int .i64 t4, .int .i64 0, .int .i64 (fr + 1), .int .i64 0]) ?_ rfl ⟨⟨a, cap, rfl, ?_⟩, ?_⟩
        · refine res_slook7 _ _ (w.heap.size + 1) _ lim 1 t1 t2 t3 t4 0 (fr + 1) 0 rfl (tkO_blk (t := 39) (blk_set10 (L := [.slice none 0 0, .int .i64 0, .int .i64 0, .int .i64 0, .int .i64 0, .int .i64 0, .int .i64 0, .int .i64 0, .int .i64 0, .int .i64 0]) (t := 39) ?_ rfl _ lim 1 t1 t2 t3 t4 0 (fr + 1) 0))
          exact yx R6
        · refine Copied.low (B := w.heap.size + 1 + 1) ?_ (by omega)
          iterate 10 (refine Copied.far ?_ (Nat.lt_succ_self (w.heap.size + 1)) _ _)
          exact yx C6
        · iterate 10 (refine belowSet ?_ (show w.heap.size ≤ w.heap.size + 1 by omega) _ _)
          exact yx B6
      · skip
        obtain ⟨r0, r1, r2, r3, r4, r5, r6, r7, r8, r9⟩ := bcs10 (yx R5)
        obtain ⟨g0, g1, g2, g3, g4, g5, g6, g7, g8, g9⟩ := bfs10 (yx R5)
        have HO : Hid (lookR ⟨L, lim, 0, A, B, C, D, coast, fr⟩ S = ⟨L, lim, 0, A, B, C, D, coast, fr + 1⟩) := yz (by rw [yx hO3 hneg h4]; rfl)
        go_wp2_with fail
        clear q0 q1 q2 q3 q4 q5 q6 q7 q8 s0 s1 s2 s3 s4 s5 s6 s7 s8 f0 f1 f2 f3 f4 f5 f6 f7 f8 r0 r1 r2 r3 r4 r5 r6 r7 r8 r9 g0 g1 g2 g3 g4 g5 g6 g7 g8 g9 j0 j1 j2 j3 j4
        rw [yx HO]
        refine bodyPost_ret (v := .agg #[.slice a L.length cap, .int .i64 lim, .int .i64 0, .int .i64 A, .int .i64 B, .int .i64 C, .int .i64 D, .int .i64 coast, .int .i64 (fr + 1), .int .i64 0]) ?_ rfl ⟨⟨a, cap, rfl, ?_⟩, ?_⟩
        · refine res_slook7 _ _ (w.heap.size + 1) _ lim 0 A B C D coast (fr + 1) 0 rfl (tkO_blk (t := 39) (blk_set10 (L := [.slice none 0 0, .int .i64 0, .int .i64 0, .int .i64 0, .int .i64 0, .int .i64 0, .int .i64 0, .int .i64 0, .int .i64 0, .int .i64 0]) (t := 39) ?_ rfl _ lim 0 A B C D coast (fr + 1) 0))
          exact yx R5
        · refine Copied.low (B := w.heap.size + 1 + 1) ?_ (by omega)
          iterate 10 (refine Copied.far ?_ (Nat.lt_succ_self (w.heap.size + 1)) _ _)
          exact yx C5
        · iterate 10 (refine belowSet ?_ (show w.heap.size ≤ w.heap.size + 1 by omega) _ _)
          exact yx B5
    · have htc := yx hTN h3
      clear cF4
      obtain ⟨r0, r1, r2, r3, r4, r5, r6, r7, r8, r9⟩ := bcs10 (yx R4)
      obtain ⟨g0, g1, g2, g3, g4, g5, g6, g7, g8, g9⟩ := bfs10 (yx R4)
      have HO : Hid (lookR ⟨L, lim, 0, A, B, C, D, coast, fr⟩ S = ⟨L, lim, 0, A, B, C, D, coast, fr + 1⟩) := yz (by rw [yx hO3 hneg htc]; rfl)
      go_wp2_with fail
      clear q0 q1 q2 q3 q4 q5 q6 q7 q8 s0 s1 s2 s3 s4 s5 s6 s7 s8 f0 f1 f2 f3 f4 f5 f6 f7 f8 r0 r1 r2 r3 r4 r5 r6 r7 r8 r9 g0 g1 g2 g3 g4 g5 g6 g7 g8 g9 j0 j1 j2
      rw [yx HO]
      refine bodyPost_ret (v := .agg #[.slice a L.length cap, .int .i64 lim, .int .i64 0, .int .i64 A, .int .i64 B, .int .i64 C, .int .i64 D, .int .i64 coast, .int .i64 (fr + 1), .int .i64 0]) ?_ rfl ⟨⟨a, cap, rfl, ?_⟩, ?_⟩
      · refine res_slook7 _ _ (w.heap.size + 1) _ lim 0 A B C D coast (fr + 1) 0 rfl (tkO_blk (t := 39) (blk_set10 (L := [.slice none 0 0, .int .i64 0, .int .i64 0, .int .i64 0, .int .i64 0, .int .i64 0, .int .i64 0, .int .i64 0, .int .i64 0, .int .i64 0]) (t := 39) ?_ rfl _ lim 0 A B C D coast (fr + 1) 0))
        exact yx R4
      · refine Copied.low (B := w.heap.size + 1 + 1) ?_ (by omega)
        iterate 10 (refine Copied.far ?_ (Nat.lt_succ_self (w.heap.size + 1)) _ _)
        exact yx C4
      · iterate 10 (refine belowSet ?_ (show w.heap.size ≤ w.heap.size + 1 by omega) _ _)
        exact yx B4
  have cM2 := yz (yx cM h1 _ (yx B2))
  clear cM
  go_wp2_with fail
  clear q0 q1 q2 q3 q4 q5 q6 q7 q8 s0 s1 s2 s3 s4 s5 s6 s7 s8 f0 f1 f2 f3 f4 f5 f6 f7 f8 p8
  refine (yx cM2).mono ?_
  rintro e w3 ⟨⟨mv, rfl⟩, hx⟩
  have A3 := yz ((yx A2).kept hx)
  have R3 := yz ((yx R2).kept hx)
  have C3 := yz ((yx C2).kept hx)
  have T3 := yz ((yx T2).kept hx)
  have B3 := yz (below_call (yx B2) hx)
  clear hx cM2 A2 R2 C2 T2 B2
  obtain ⟨q0, q1, q2, q3, q4, q5, q6, q7, q8⟩ := bcs9 (yx A3)
  obtain ⟨s0, s1, s2, s3, s4, s5, s6, s7, s8⟩ := bcs9 (yx T3)
  obtain ⟨f0, f1, f2, f3, f4, f5, f6, f7, f8⟩ := bfs9 (yx T3)
  by_cases h2 : 2 ≤ cn
  · have HO := yz (yx hO1 h1 h2)
    have h2' : (2 : Int) ≤ (cn : Int) := by omega
    go_wp2_with fail
    clear q0 q1 q2 q3 q4 q5 q6 q7 q8 s0 s1 s2 s3 s4 s5 s6 s7 s8 f0 f1 f2 f3 f4 f5 f6 f7 f8
    refine (l07Track_any lim _ A B C D coast (fr + 1) A B C D a L.length cap _).mono ?_
    rintro e w4 ⟨rfl, hx⟩
    have R4 := yz ((yx R3).kept hx)
    have C4 := yz ((yx C3).kept hx)
    have B4 := yz (below_call (yx B3) hx)
    clear hx
    obtain ⟨r0, r1, r2, r3, r4, r5, r6, r7, r8, r9⟩ := bcs10 (yx R4)
    obtain ⟨g0, g1, g2, g3, g4, g5, g6, g7, g8, g9⟩ := bfs10 (yx R4)
    go_wp2_with fail
    clear r0 r1 r2 r3 r4 r5 r6 r7 r8 r9 g0 g1 g2 g3 g4 g5 g6 g7 g8 g9
    rw [yx HO]
    refine bodyPost_ret (v := .agg #[.slice a L.length cap, .int .i64 lim, .int .i64 1, .int .i64 A, .int .i64 B, .int .i64 C, .int .i64 D, .int .i64 0, .int .i64 (fr + 1), .int .i64 0]) ?_ rfl ⟨⟨a, cap, rfl, ?_⟩, ?_⟩
    · refine res_slook7 _ _ (w.heap.size + 1) _ lim 1 A B C D 0 (fr + 1) 0 rfl (tkO_blk (t := 39) (blk_set10 (L := [.slice none 0 0, .int .i64 0, .int .i64 0, .int .i64 0, .int .i64 0, .int .i64 0, .int .i64 0, .int .i64 0, .int .i64 0, .int .i64 0]) (t := 39) ?_ rfl _ lim 1 A B C D 0 (fr + 1) 0))
      exact yx R4
    · refine Copied.low (B := w.heap.size + 1 + 1) ?_ (by omega)
      iterate 10 (refine Copied.far ?_ (Nat.lt_succ_self (w.heap.size + 1)) _ _)
      exact yx C4
    · iterate 10 (refine belowSet ?_ (show w.heap.size ≤ w.heap.size + 1 by omega) _ _)
      exact yx B4
  have hneg : ¬ (mode ≠ 0 ∧ 2 ≤ cn) := fun h => h2 h.2
  have h2' : ¬ (2 : Int) ≤ (cn : Int) := by omega
  go_wp2_with fail
  clear q0 q1 q2 q3 q4 q5 q6 q7 q8 s0 s1 s2 s3 s4 s5 s6 s7 s8 f0 f1 f2 f3 f4 f5 f6 f7 f8
  refine (yx cI _ (yx B3)).mono ?_
  rintro e w4 ⟨hO, hx⟩
  obtain ⟨x, k, rfl, hv⟩ := outI_nums hO
  have Z := below1 w4 (.cells #[.slice x (idIds L S).length k, .int .i64 (idCnt L S), .int .i64 (idCode L S)] 196)
  have A4 := yz (((yx A3).kept hx).kept Z)
  have R4 := yz (((yx R3).kept hx).kept Z)
  have C4 := yz (((yx C3).kept hx).kept Z)
  have T4 := yz (((yx T3).kept hx).kept Z)
  have B4 := yz (below_call (below_call (yx B3) hx) Z)
  have I4 := yz (blk_new w4 [.slice x (idIds L S).length k, .int .i64 (idCnt L S), .int .i64 (idCode L S)] 196)
  have N4 := yz (hv.kept Z)
  clear hx hO hv Z
  have cF4 : Hid (idCode L S = 0 → Calls Tryz.prog 144 #[.slice ad L.length c, .slice br S.length dr, .slice x (idIds L S).length k] (w4.alloc (.cells #[.slice x (idIds L S).length k, .int .i64 (idCnt L S), .int .i64 (idCode L S)] 196)) fun e w' => e = .returned (.agg #[.int .i64 t1, .int .i64 t2, .int .i64 t3, .int .i64 t4, .int .i64 tc]) ∧ Below (w4.alloc (.cells #[.slice x (idIds L S).length k, .int .i64 (idCnt L S), .int .i64 (idCode L S)] 196)).heap.size (w4.alloc (.cells #[.slice x (idIds L S).length k, .int .i64 (idCnt L S), .int .i64 (idCode L S)] 196)) w') := yz (fun h0 => yx cF h0 _ x k (yx B4) (yx N4))
  clear N4
  generalize (idIds L S).length = nI at *
  generalize idCode L S = kd at *
  generalize idCnt L S = kc at *
  obtain ⟨j0, j1, j2⟩ := bcs3 (yx I4)
  obtain ⟨q0, q1, q2, q3, q4, q5, q6, q7, q8⟩ := bcs9 (yx A4)
  obtain ⟨s0, s1, s2, s3, s4, s5, s6, s7, s8⟩ := bcs9 (yx T4)
  obtain ⟨f0, f1, f2, f3, f4, f5, f6, f7, f8⟩ := bfs9 (yx T4)
  by_cases h3 : kd = 0
  · have cF5 := yz (yx cF4 h3)
    clear cF4
    subst h3
    go_wp2_with fail
    clear j0 j1 j2 q0 q1 q2 q3 q4 q5 q6 q7 q8 s0 s1 s2 s3 s4 s5 s6 s7 s8 f0 f1 f2 f3 f4 f5 f6 f7 f8
    refine (yx cF5).mono ?_
    rintro e w5 ⟨rfl, hx⟩
    have Z := below1 w5 (.cells #[.int .i64 t1, .int .i64 t2, .int .i64 t3, .int .i64 t4, .int .i64 tc] 156)
    have A5 := yz (((yx A4).kept hx).kept Z)
    have R5 := yz (((yx R4).kept hx).kept Z)
    have C5 := yz (((yx C4).kept hx).kept Z)
    have T5 := yz (((yx T4).kept hx).kept Z)
    have B5 := yz (below_call (below_call (yx B4) hx) Z)
    have U5 := yz (blk_new w5 [.int .i64 t1, .int .i64 t2, .int .i64 t3, .int .i64 t4, .int .i64 tc] 156)
    clear hx Z cF5 A4 R4 C4 T4 B4 I4
    obtain ⟨j0, j1, j2, j3, j4⟩ := bcs5 (yx U5)
    obtain ⟨q0, q1, q2, q3, q4, q5, q6, q7, q8⟩ := bcs9 (yx A5)
    obtain ⟨s0, s1, s2, s3, s4, s5, s6, s7, s8⟩ := bcs9 (yx T5)
    obtain ⟨f0, f1, f2, f3, f4, f5, f6, f7, f8⟩ := bfs9 (yx T5)
    by_cases h4 : tc = 0
    · have HO := yz (yx hO2 hneg h4)
      subst h4
      go_wp2_with fail
      clear j0 j1 j2 j3 j4 q0 q1 q2 q3 q4 q5 q6 q7 q8 s0 s1 s2 s3 s4 s5 s6 s7 s8 f0 f1 f2 f3 f4 f5 f6 f7 f8
      refine (l07Track_any lim _ A B C D coast (fr + 1) t1 t2 t3 t4 a L.length cap _).mono ?_
      rintro e w6 ⟨rfl, hx⟩
      have R6 := yz ((yx R5).kept hx)
      have C6 := yz ((yx C5).kept hx)
      have B6 := yz (below_call (yx B5) hx)
      clear hx
      obtain ⟨r0, r1, r2, r3, r4, r5, r6, r7, r8, r9⟩ := bcs10 (yx R6)
      obtain ⟨g0, g1, g2, g3, g4, g5, g6, g7, g8, g9⟩ := bfs10 (yx R6)
      go_wp2_with fail
      clear r0 r1 r2 r3 r4 r5 r6 r7 r8 r9 g0 g1 g2 g3 g4 g5 g6 g7 g8 g9
      rw [yx HO]
      refine bodyPost_ret (v := .agg #[.slice a L.length cap, .int .i64 lim, .int .i64 1, .int .i64 t1, .int .i64 t2, .int .i64 t3, .int .i64 t4, .int .i64 0, .int .i64 (fr + 1), .int .i64 0]) ?_ rfl ⟨⟨a, cap, rfl, ?_⟩, ?_⟩
      · refine res_slook7 _ _ (w.heap.size + 1) _ lim 1 t1 t2 t3 t4 0 (fr + 1) 0 rfl (tkO_blk (t := 39) (blk_set10 (L := [.slice none 0 0, .int .i64 0, .int .i64 0, .int .i64 0, .int .i64 0, .int .i64 0, .int .i64 0, .int .i64 0, .int .i64 0, .int .i64 0]) (t := 39) ?_ rfl _ lim 1 t1 t2 t3 t4 0 (fr + 1) 0))
        exact yx R6
      · refine Copied.low (B := w.heap.size + 1 + 1) ?_ (by omega)
        iterate 10 (refine Copied.far ?_ (Nat.lt_succ_self (w.heap.size + 1)) _ _)
        exact yx C6
      · iterate 10 (refine belowSet ?_ (show w.heap.size ≤ w.heap.size + 1 by omega) _ _)
        exact yx B6
    · skip
      obtain ⟨r0, r1, r2, r3, r4, r5, r6, r7, r8, r9⟩ := bcs10 (yx R5)
      obtain ⟨g0, g1, g2, g3, g4, g5, g6, g7, g8, g9⟩ := bfs10 (yx R5)
      by_cases hlc : lim < coast + 1
      · have HO : Hid (lookR ⟨L, lim, mode, A, B, C, D, coast, fr⟩ S = ⟨L, lim, 0, 0, 0, 0, 0, 0, fr + 1⟩) := yz (by rw [yx hO3 hneg h4]; unfold unseenT; dsimp only; rw [if_neg h1, if_pos hlc]; rfl)
        go_wp2_with fail
        clear q0 q1 q2 q3 q4 q5 q6 q7 q8 s0 s1 s2 s3 s4 s5 s6 s7 s8 f0 f1 f2 f3 f4 f5 f6 f7 f8 r0 r1 r2 r3 r4 r5 r6 r7 r8 r9 g0 g1 g2 g3 g4 g5 g6 g7 g8 g9 j0 j1 j2 j3 j4
        refine (l07Lost_any lim 2 A B C D (coast + 1) (fr + 1) a L.length cap _).mono ?_
        rintro e w6 ⟨rfl, hx⟩
        have R6 := yz ((((yx R5).other ⟨w2.heap.size, 2, none⟩ (.int .i64 2) (show w.heap.size + 1 ≠ w2.heap.size by omega)).other ⟨w2.heap.size, 7, none⟩ (.int .i64 (coast + 1)) (show w.heap.size + 1 ≠ w2.heap.size by omega)).kept hx)
        have T6 := yz ((((yx T5).set 2 (.int .i64 2)).set 7 (.int .i64 (coast + 1))).kept hx)
        have C6 := yz ((((yx C5).off (fun y e => Nat.ne_of_lt (hcb y e)) 2 (.int .i64 2)).off (fun y e => Nat.ne_of_lt (hcb y e)) 7 (.int .i64 (coast + 1))).kept hx)
        have B6 := yz (below_call (belowSet (belowSet (yx B5) (show w.heap.size ≤ w2.heap.size by omega) 2 (.int .i64 2)) (show w.heap.size ≤ w2.heap.size by omega) 7 (.int .i64 (coast + 1))) hx)
        clear hx
        obtain ⟨s0, s1, s2, s3, s4, s5, s6, s7, s8⟩ := bcs9 (yx T6)
        obtain ⟨f0, f1, f2, f3, f4, f5, f6, f7, f8⟩ := bfs9 (yx T6)
        obtain ⟨r0, r1, r2, r3, r4, r5, r6, r7, r8, r9⟩ := bcs10 (yx R6)
        obtain ⟨g0, g1, g2, g3, g4, g5, g6, g7, g8, g9⟩ := bfs10 (yx R6)
        go_wp2_with fail
        clear s0 s1 s2 s3 s4 s5 s6 s7 s8 f0 f1 f2 f3 f4 f5 f6 f7 f8 r0 r1 r2 r3 r4 r5 r6 r7 r8 r9 g0 g1 g2 g3 g4 g5 g6 g7 g8 g9
        rw [yx HO]
        refine bodyPost_ret (v := .agg #[.slice a L.length cap, .int .i64 lim, .int .i64 0, .int .i64 0, .int .i64 0, .int .i64 0, .int .i64 0, .int .i64 0, .int .i64 (fr + 1), .int .i64 0]) ?_ rfl ⟨⟨a, cap, rfl, ?_⟩, ?_⟩
        · refine res_slook7 _ _ (w.heap.size + 1) _ lim 0 0 0 0 0 0 (fr + 1) 0 rfl (tkO_blk (t := 39) (blk_set10 (L := [.slice none 0 0, .int .i64 0, .int .i64 0, .int .i64 0, .int .i64 0, .int .i64 0, .int .i64 0, .int .i64 0, .int .i64 0, .int .i64 0]) (t := 39) ?_ rfl _ lim 0 0 0 0 0 0 (fr + 1) 0))
          iterate 9 (refine Blk.other ?_ _ _ (show w.heap.size + 1 ≠ w2.heap.size by omega))
          exact yx R6
        · refine Copied.low (B := w.heap.size + 1 + 1) ?_ (by omega)
          iterate 10 (refine Copied.far ?_ (Nat.lt_succ_self (w.heap.size + 1)) _ _)
          iterate 9 (refine Copied.off ?_ (fun y e => Nat.ne_of_lt (hcb y e)) _ _)
          exact yx C6
        · iterate 10 (refine belowSet ?_ (show w.heap.size ≤ w.heap.size + 1 by omega) _ _)
          iterate 9 (refine belowSet ?_ (show w.heap.size ≤ w2.heap.size by omega) _ _)
          exact yx B6
      · have HO : Hid (lookR ⟨L, lim, mode, A, B, C, D, coast, fr⟩ S = ⟨L, lim, 2, A, B, C, D, coast + 1, fr + 1⟩) := yz (by rw [yx hO3 hneg h4]; unfold unseenT; dsimp only; rw [if_neg h1, if_neg hlc])
        go_wp2_with fail
        clear q0 q1 q2 q3 q4 q5 q6 q7 q8 s0 s1 s2 s3 s4 s5 s6 s7 s8 f0 f1 f2 f3 f4 f5 f6 f7 f8 r0 r1 r2 r3 r4 r5 r6 r7 r8 r9 g0 g1 g2 g3 g4 g5 g6 g7 g8 g9 j0 j1 j2 j3 j4
        rw [yx HO]
        refine bodyPost_ret (v := .agg #[.slice a L.length cap, .int .i64 lim, .int .i64 2, .int .i64 A, .int .i64 B, .int .i64 C, .int .i64 D, .int .i64 (coast + 1), .int .i64 (fr + 1), .int .i64 0]) ?_ rfl ⟨⟨a, cap, rfl, ?_⟩, ?_⟩
        · refine res_slook7 _ _ (w.heap.size + 1) _ lim 2 A B C D (coast + 1) (fr + 1) 0 rfl (tkO_blk (t := 39) (blk_set10 (L := [.slice none 0 0, .int .i64 0, .int .i64 0, .int .i64 0, .int .i64 0, .int .i64 0, .int .i64 0, .int .i64 0, .int .i64 0, .int .i64 0]) (t := 39) ?_ rfl _ lim 2 A B C D (coast + 1) (fr + 1) 0))
          iterate 2 (refine Blk.other ?_ _ _ (show w.heap.size + 1 ≠ w2.heap.size by omega))
          exact yx R5
        · refine Copied.low (B := w.heap.size + 1 + 1) ?_ (by omega)
          iterate 10 (refine Copied.far ?_ (Nat.lt_succ_self (w.heap.size + 1)) _ _)
          iterate 2 (refine Copied.off ?_ (fun y e => Nat.ne_of_lt (hcb y e)) _ _)
          exact yx C5
        · iterate 10 (refine belowSet ?_ (show w.heap.size ≤ w.heap.size + 1 by omega) _ _)
          iterate 2 (refine belowSet ?_ (show w.heap.size ≤ w2.heap.size by omega) _ _)
          exact yx B5
  · have htc := yx hTN h3
    clear cF4
    obtain ⟨r0, r1, r2, r3, r4, r5, r6, r7, r8, r9⟩ := bcs10 (yx R4)
    obtain ⟨g0, g1, g2, g3, g4, g5, g6, g7, g8, g9⟩ := bfs10 (yx R4)
    by_cases hlc : lim < coast + 1
    · have HO : Hid (lookR ⟨L, lim, mode, A, B, C, D, coast, fr⟩ S = ⟨L, lim, 0, 0, 0, 0, 0, 0, fr + 1⟩) := yz (by rw [yx hO3 hneg htc]; unfold unseenT; dsimp only; rw [if_neg h1, if_pos hlc]; rfl)
      go_wp2_with fail
      clear q0 q1 q2 q3 q4 q5 q6 q7 q8 s0 s1 s2 s3 s4 s5 s6 s7 s8 f0 f1 f2 f3 f4 f5 f6 f7 f8 r0 r1 r2 r3 r4 r5 r6 r7 r8 r9 g0 g1 g2 g3 g4 g5 g6 g7 g8 g9 j0 j1 j2
      refine (l07Lost_any lim 2 A B C D (coast + 1) (fr + 1) a L.length cap _).mono ?_
      rintro e w6 ⟨rfl, hx⟩
      have R6 := yz ((((yx R4).other ⟨w2.heap.size, 2, none⟩ (.int .i64 2) (show w.heap.size + 1 ≠ w2.heap.size by omega)).other ⟨w2.heap.size, 7, none⟩ (.int .i64 (coast + 1)) (show w.heap.size + 1 ≠ w2.heap.size by omega)).kept hx)
      have T6 := yz ((((yx T4).set 2 (.int .i64 2)).set 7 (.int .i64 (coast + 1))).kept hx)
      have C6 := yz ((((yx C4).off (fun y e => Nat.ne_of_lt (hcb y e)) 2 (.int .i64 2)).off (fun y e => Nat.ne_of_lt (hcb y e)) 7 (.int .i64 (coast + 1))).kept hx)
      have B6 := yz (below_call (belowSet (belowSet (yx B4) (show w.heap.size ≤ w2.heap.size by omega) 2 (.int .i64 2)) (show w.heap.size ≤ w2.heap.size by omega) 7 (.int .i64 (coast + 1))) hx)
      clear hx
      obtain ⟨s0, s1, s2, s3, s4, s5, s6, s7, s8⟩ := bcs9 (yx T6)
      obtain ⟨f0, f1, f2, f3, f4, f5, f6, f7, f8⟩ := bfs9 (yx T6)
      obtain ⟨r0, r1, r2, r3, r4, r5, r6, r7, r8, r9⟩ := bcs10 (yx R6)
      obtain ⟨g0, g1, g2, g3, g4, g5, g6, g7, g8, g9⟩ := bfs10 (yx R6)
      go_wp2_with fail
      clear s0 s1 s2 s3 s4 s5 s6 s7 s8 f0 f1 f2 f3 f4 f5 f6 f7 f8 r0 r1 r2 r3 r4 r5 r6 r7 r8 r9 g0 g1 g2 g3 g4 g5 g6 g7 g8 g9
      rw [yx HO]
      refine bodyPost_ret (v := .agg #[.slice a L.length cap, .int .i64 lim, .int .i64 0, .int .i64 0, .int .i64 0, .int .i64 0, .int .i64 0, .int .i64 0, .int .i64 (fr + 1), .int .i64 0]) ?_ rfl ⟨⟨a, cap, rfl, ?_⟩, ?_⟩
      · refine res_slook7 _ _ (w.heap.size + 1) _ lim 0 0 0 0 0 0 (fr + 1) 0 rfl (tkO_blk (t := 39) (blk_set10 (L := [.slice none 0 0, .int .i64 0, .int .i64 0, .int .i64 0, .int .i64 0, .int .i64 0, .int .i64 0, .int .i64 0, .int .i64 0, .int .i64 0]) (t := 39) ?_ rfl _ lim 0 0 0 0 0 0 (fr + 1) 0))
        iterate 9 (refine Blk.other ?_ _ _ (show w.heap.size + 1 ≠ w2.heap.size by omega))
        exact yx R6
      · refine Copied.low (B := w.heap.size + 1 + 1) ?_ (by omega)
        iterate 10 (refine Copied.far ?_ (Nat.lt_succ_self (w.heap.size + 1)) _ _)
        iterate 9 (refine Copied.off ?_ (fun y e => Nat.ne_of_lt (hcb y e)) _ _)
        exact yx C6
      · iterate 10 (refine belowSet ?_ (show w.heap.size ≤ w.heap.size + 1 by omega) _ _)
        iterate 9 (refine belowSet ?_ (show w.heap.size ≤ w2.heap.size by omega) _ _)
        exact yx B6
    · have HO : Hid (lookR ⟨L, lim, mode, A, B, C, D, coast, fr⟩ S = ⟨L, lim, 2, A, B, C, D, coast + 1, fr + 1⟩) := yz (by rw [yx hO3 hneg htc]; unfold unseenT; dsimp only; rw [if_neg h1, if_neg hlc])
      go_wp2_with fail
      clear q0 q1 q2 q3 q4 q5 q6 q7 q8 s0 s1 s2 s3 s4 s5 s6 s7 s8 f0 f1 f2 f3 f4 f5 f6 f7 f8 r0 r1 r2 r3 r4 r5 r6 r7 r8 r9 g0 g1 g2 g3 g4 g5 g6 g7 g8 g9 j0 j1 j2
      rw [yx HO]
      refine bodyPost_ret (v := .agg #[.slice a L.length cap, .int .i64 lim, .int .i64 2, .int .i64 A, .int .i64 B, .int .i64 C, .int .i64 D, .int .i64 (coast + 1), .int .i64 (fr + 1), .int .i64 0]) ?_ rfl ⟨⟨a, cap, rfl, ?_⟩, ?_⟩
      · refine res_slook7 _ _ (w.heap.size + 1) _ lim 2 A B C D (coast + 1) (fr + 1) 0 rfl (tkO_blk (t := 39) (blk_set10 (L := [.slice none 0 0, .int .i64 0, .int .i64 0, .int .i64 0, .int .i64 0, .int .i64 0, .int .i64 0, .int .i64 0, .int .i64 0, .int .i64 0]) (t := 39) ?_ rfl _ lim 2 A B C D (coast + 1) (fr + 1) 0))
        iterate 2 (refine Blk.other ?_ _ _ (show w.heap.size + 1 ≠ w2.heap.size by omega))
        exact yx R4
      · refine Copied.low (B := w.heap.size + 1 + 1) ?_ (by omega)
        iterate 10 (refine Copied.far ?_ (Nat.lt_succ_self (w.heap.size + 1)) _ _)
        iterate 2 (refine Copied.off ?_ (fun y e => Nat.ne_of_lt (hcb y e)) _ _)
        exact yx C4
      · iterate 10 (refine belowSet ?_ (show w.heap.size ≤ w.heap.size + 1 by omega) _ _)
        iterate 2 (refine belowSet ?_ (show w.heap.size ≤ w2.heap.size by omega) _ _)
        exact yx B4
set_option maxHeartbeats 8000000 in
set_option maxRecDepth 100000 in
theorem specLook_any (L : List St) (S : List D3) (lim mode A B C D coast fr : Int) (ad : Option Addr) (c : Nat) (br : Option Addr) (dr : Nat) (w : World) (hn : L.length ≤ 1048576) (hn2 : S.length ≤ 1048576) (hS : Stars w ad L L.length) (hD : Dirs w br S S.length) (hb : ∀ y, ad = some y → y.block < w.heap.size) (hB : ∀ y, br = some y → y.block < w.heap.size) (hdr : S.length ≤ dr) (hd9 : dr ≤ 9223372036854775807) :
    Calls Tryz.prog 64 #[.agg #[.slice ad L.length c, .int .i64 lim, .int .i64 mode, .int .i64 A, .int .i64 B, .int .i64 C, .int .i64 D, .int .i64 coast, .int .i64 fr], .slice br S.length dr] w fun e w' => OutT w' w.heap.size (lookT ⟨L, lim, mode, A, B, C, D, coast, fr⟩ S) (lookC ⟨L, lim, mode, A, B, C, D, coast, fr⟩ S) e ∧ Below w.heap.size w w' := by
  have B0 := yz (below2 w (.cells #[.slice ad L.length c, .int .i64 lim, .int .i64 mode, .int .i64 A, .int .i64 B, .int .i64 C, .int .i64 D, .int .i64 coast, .int .i64 fr] 37) (.cells #[.slice none 0 0, .int .i64 0, .int .i64 0, .int .i64 0, .int .i64 0, .int .i64 0, .int .i64 0, .int .i64 0, .int .i64 0, .int .i64 0] 39))
  have A0 := yz ((blk_new w [.slice ad L.length c, .int .i64 lim, .int .i64 mode, .int .i64 A, .int .i64 B, .int .i64 C, .int .i64 D, .int .i64 coast, .int .i64 fr] 37).alloc (.cells #[.slice none 0 0, .int .i64 0, .int .i64 0, .int .i64 0, .int .i64 0, .int .i64 0, .int .i64 0, .int .i64 0, .int .i64 0, .int .i64 0] 39))
  have R0 := yz (by simpa using blk_new (w.alloc (.cells #[.slice ad L.length c, .int .i64 lim, .int .i64 mode, .int .i64 A, .int .i64 B, .int .i64 C, .int .i64 D, .int .i64 coast, .int .i64 fr] 37)) [.slice none 0 0, .int .i64 0, .int .i64 0, .int .i64 0, .int .i64 0, .int .i64 0, .int .i64 0, .int .i64 0, .int .i64 0, .int .i64 0] 39 : Blk ((w.alloc (.cells #[.slice ad L.length c, .int .i64 lim, .int .i64 mode, .int .i64 A, .int .i64 B, .int .i64 C, .int .i64 D, .int .i64 coast, .int .i64 fr] 37)).alloc (.cells #[.slice none 0 0, .int .i64 0, .int .i64 0, .int .i64 0, .int .i64 0, .int .i64 0, .int .i64 0, .int .i64 0, .int .i64 0, .int .i64 0] 39)) (w.heap.size + 1) [.slice none 0 0, .int .i64 0, .int .i64 0, .int .i64 0, .int .i64 0, .int .i64 0, .int .i64 0, .int .i64 0, .int .i64 0, .int .i64 0] 39)
  have S0 := yz (hS.kept (yx B0))
  have D0 := yz (hD.kept (yx B0))
  have hl0 : w.heap.size + 1 + 1 ≤ ((w.alloc (.cells #[.slice ad L.length c, .int .i64 lim, .int .i64 mode, .int .i64 A, .int .i64 B, .int .i64 C, .int .i64 D, .int .i64 coast, .int .i64 fr] 37)).alloc (.cells #[.slice none 0 0, .int .i64 0, .int .i64 0, .int .i64 0, .int .i64 0, .int .i64 0, .int .i64 0, .int .i64 0, .int .i64 0, .int .i64 0] 39)).heap.size := by simp
  clear hS hD
  by_cases hbig : 400 < S.length
  · have HO := yz (look_big (t := ⟨L, lim, mode, A, B, C, D, coast, fr⟩) hbig)
    have hb' : (400 : Int) < (S.length : Int) := by omega
    clear hbig
    go_enter Tryz.func64, Tryz.ntmps64
    go_wp2_with fail
    refine (l07Ill_any 2 _).mono ?_
    rintro e wz ⟨rfl, hx⟩
    have Rz := yz ((yx R0).kept hx)
    have Bz := yz (below_call (yx B0) hx)
    clear hx
    obtain ⟨r0, r1, r2, r3, r4, r5, r6, r7, r8, r9⟩ := bcs10 (yx Rz)
    obtain ⟨g0, g1, g2, g3, g4, g5, g6, g7, g8, g9⟩ := bfs10 (yx Rz)
    go_wp2_with fail
    clear r0 r1 r2 r3 r4 r5 r6 r7 r8 r9 g0 g1 g2 g3 g4 g5 g6 g7 g8 g9
    refine bodyPost_ret (v := .agg #[.slice none 0 0, .int .i64 0, .int .i64 0, .int .i64 0, .int .i64 0, .int .i64 0, .int .i64 0, .int .i64 0, .int .i64 0, .int .i64 2]) ?_ rfl ⟨?_, ?_⟩
    · exact res_slook _ _ (w.heap.size + 1) _ 0 0 0 0 0 0 0 0 2 rfl (tkO_blk (blk_set10 (yx Rz) rfl _ 0 0 0 0 0 0 0 0 2))
    · rw [(yx HO).1, (yx HO).2]
      exact outT_ill _ _ _
    · iterate 10 (refine belowSet ?_ (show w.heap.size ≤ w.heap.size + 1 by omega) _ _)
      exact yx Bz
  have hb' : ¬ (400 : Int) < (S.length : Int) := by omega
  have cR := yz (specTrack_any L lim mode A B C D coast fr ad c _ hn (yx S0))
  go_enter Tryz.func64, Tryz.ntmps64
  go_wp2_with fail
  refine (yx cR).mono ?_
  rintro e w1 ⟨rfl, hx⟩
  have A1 := yz ((yx A0).kept hx)
  have R1 := yz ((yx R0).kept hx)
  have S1 := yz ((yx S0).kept hx)
  have D1 := yz ((yx D0).kept hx)
  have B1 := yz (below_call (yx B0) hx)
  have hl1 := hx.size
  clear hx cR A0 R0 S0 D0 B0
  cases hk : trackB ⟨L, lim, mode, A, B, C, D, coast, fr⟩
  · have HO := yz (look_ill (t := ⟨L, lim, mode, A, B, C, D, coast, fr⟩) (S := S) hbig (by rw [hk]; rfl))
    clear hk
    go_wp2_with fail
    refine (l07Ill_any 1 _).mono ?_
    rintro e wz ⟨rfl, hx⟩
    have Rz := yz ((yx R1).kept hx)
    have Bz := yz (below_call (yx B1) hx)
    clear hx
    obtain ⟨r0, r1, r2, r3, r4, r5, r6, r7, r8, r9⟩ := bcs10 (yx Rz)
    obtain ⟨g0, g1, g2, g3, g4, g5, g6, g7, g8, g9⟩ := bfs10 (yx Rz)
    go_wp2_with fail
    clear r0 r1 r2 r3 r4 r5 r6 r7 r8 r9 g0 g1 g2 g3 g4 g5 g6 g7 g8 g9
    refine bodyPost_ret (v := .agg #[.slice none 0 0, .int .i64 0, .int .i64 0, .int .i64 0, .int .i64 0, .int .i64 0, .int .i64 0, .int .i64 0, .int .i64 0, .int .i64 1]) ?_ rfl ⟨?_, ?_⟩
    · exact res_slook _ _ (w.heap.size + 1) _ 0 0 0 0 0 0 0 0 1 rfl (tkO_blk (blk_set10 (yx Rz) rfl _ 0 0 0 0 0 0 0 0 1))
    · rw [(yx HO).1, (yx HO).2]
      exact outT_ill _ _ _
    · iterate 10 (refine belowSet ?_ (show w.heap.size ≤ w.heap.size + 1 by omega) _ _)
      exact yx Bz
  go_wp2_with fail
  refine (specSpotsRight_any S br dr _ hn2 (yx D1)).mono ?_
  rintro e w2 ⟨rfl, hx⟩
  have A2 := yz ((yx A1).kept hx)
  have R2 := yz ((yx R1).kept hx)
  have S2 := yz ((yx S1).kept hx)
  have D2 := yz ((yx D1).kept hx)
  have B2 := yz (below_call (yx B1) hx)
  have hl2 := hx.size
  clear hx A1 R1 S1 D1 B1
  cases hp : spotsB S
  · have HO := yz (look_ill (t := ⟨L, lim, mode, A, B, C, D, coast, fr⟩) (S := S) hbig (by rw [hp]; simp))
    clear hk hp
    go_wp2_with fail
    refine (l07Ill_any 1 _).mono ?_
    rintro e wz ⟨rfl, hx⟩
    have Rz := yz ((yx R2).kept hx)
    have Bz := yz (below_call (yx B2) hx)
    clear hx
    obtain ⟨r0, r1, r2, r3, r4, r5, r6, r7, r8, r9⟩ := bcs10 (yx Rz)
    obtain ⟨g0, g1, g2, g3, g4, g5, g6, g7, g8, g9⟩ := bfs10 (yx Rz)
    go_wp2_with fail
    clear r0 r1 r2 r3 r4 r5 r6 r7 r8 r9 g0 g1 g2 g3 g4 g5 g6 g7 g8 g9
    refine bodyPost_ret (v := .agg #[.slice none 0 0, .int .i64 0, .int .i64 0, .int .i64 0, .int .i64 0, .int .i64 0, .int .i64 0, .int .i64 0, .int .i64 0, .int .i64 1]) ?_ rfl ⟨?_, ?_⟩
    · exact res_slook _ _ (w.heap.size + 1) _ 0 0 0 0 0 0 0 0 1 rfl (tkO_blk (blk_set10 (yx Rz) rfl _ 0 0 0 0 0 0 0 0 1))
    · rw [(yx HO).1, (yx HO).2]
      exact outT_ill _ _ _
    · iterate 10 (refine belowSet ?_ (show w.heap.size ≤ w.heap.size + 1 by omega) _ _)
      exact yx Bz
  obtain ⟨hsk, hmd, hrt, hco, hfr⟩ := look_bounds hk
  dsimp only at hsk hmd hrt hco hfr
  by_cases hf : fr = 1000000
  · have HO := yz (look_full (t := ⟨L, lim, mode, A, B, C, D, coast, fr⟩) (S := S) hbig hk hp hf)
    have hf' : (1000000 : Int) ≤ fr := by omega
    clear hk hp hsk hmd hrt hco hfr
    obtain ⟨q0, q1, q2, q3, q4, q5, q6, q7, q8⟩ := bcs9 (yx A2)
    go_wp2_with fail
    clear q0 q1 q2 q3 q4 q5 q6 q7 q8
    refine (l07Ill_any 9 _).mono ?_
    rintro e wz ⟨rfl, hx⟩
    have Rz := yz ((yx R2).kept hx)
    have Bz := yz (below_call (yx B2) hx)
    clear hx
    obtain ⟨r0, r1, r2, r3, r4, r5, r6, r7, r8, r9⟩ := bcs10 (yx Rz)
    obtain ⟨g0, g1, g2, g3, g4, g5, g6, g7, g8, g9⟩ := bfs10 (yx Rz)
    go_wp2_with fail
    clear r0 r1 r2 r3 r4 r5 r6 r7 r8 r9 g0 g1 g2 g3 g4 g5 g6 g7 g8 g9
    refine bodyPost_ret (v := .agg #[.slice none 0 0, .int .i64 0, .int .i64 0, .int .i64 0, .int .i64 0, .int .i64 0, .int .i64 0, .int .i64 0, .int .i64 0, .int .i64 9]) ?_ rfl ⟨?_, ?_⟩
    · exact res_slook _ _ (w.heap.size + 1) _ 0 0 0 0 0 0 0 0 9 rfl (tkO_blk (blk_set10 (yx Rz) rfl _ 0 0 0 0 0 0 0 0 9))
    · rw [(yx HO).1, (yx HO).2]
      exact outT_ill _ _ _
    · iterate 10 (refine belowSet ?_ (show w.heap.size ≤ w.heap.size + 1 by omega) _ _)
      exact yx Bz
  have HO := yz (look_yes (t := ⟨L, lim, mode, A, B, C, D, coast, fr⟩) (S := S) hbig hk hp hf)
  have hf' : ¬ (1000000 : Int) ≤ fr := by omega
  have cK := yz (l07Look_any L S lim mode A B C D coast fr ad c br dr w2 hn hdr hd9 (yx S2) (yx D2) (fun y e => by have := hb y e; omega) (fun y e => by have := hB y e; omega) hsk hp hmd hrt hco.1 hco.2 hfr.1 hfr.2)
  obtain ⟨lr, hlr⟩ : ∃ z, lookR ⟨L, lim, mode, A, B, C, D, coast, fr⟩ S = z := ⟨_, rfl⟩
  have HL := yz (lookR_L ⟨L, lim, mode, A, B, C, D, coast, fr⟩ S)
  rw [hlr] at HO HL cK
  obtain ⟨L2, lim2, mode2, A2', B2', C2, D2', coast2, fr2⟩ := lr
  dsimp only at HL
  clear hk hp hlr hsk hmd hrt hco hfr hf
  obtain ⟨q0, q1, q2, q3, q4, q5, q6, q7, q8⟩ := bcs9 (yx A2)
  go_wp2_with fail
  clear q0 q1 q2 q3 q4 q5 q6 q7 q8
  refine (yx cK).mono ?_
  rintro e w3 ⟨⟨a, cap, he, hC⟩, hx⟩
  dsimp only at he hC
  have hL3 : L2 = L := yx HL
  subst hL3
  subst he
  have C5 := yz (hC.low (B' := w.heap.size + 1 + 1) (by omega))
  have R5 := yz ((yx R2).kept hx)
  have B5 := yz (below_call (yx B2) hx)
  clear hx hC R2 B2 A2 S2 D2 cK
  obtain ⟨r0, r1, r2, r3, r4, r5, r6, r7, r8, r9⟩ := bcs10 (yx R5)
  obtain ⟨g0, g1, g2, g3, g4, g5, g6, g7, g8, g9⟩ := bfs10 (yx R5)
  go_wp2_with fail
  clear r0 r1 r2 r3 r4 r5 r6 r7 r8 r9 g0 g1 g2 g3 g4 g5 g6 g7 g8 g9
  refine bodyPost_ret (v := .agg #[.slice a L2.length cap, .int .i64 lim2, .int .i64 mode2, .int .i64 A2', .int .i64 B2', .int .i64 C2, .int .i64 D2', .int .i64 coast2, .int .i64 fr2, .int .i64 0]) ?_ rfl ⟨?_, ?_⟩
  · exact res_slook _ _ (w.heap.size + 1) _ lim2 mode2 A2' B2' C2 D2' coast2 fr2 0 rfl (tkO_blk (blk_set10 (yx R5) rfl _ lim2 mode2 A2' B2' C2 D2' coast2 fr2 0))
  · rw [(yx HO).1, (yx HO).2]
    refine ⟨a, cap, rfl, ?_⟩
    refine Copied.low (B := w.heap.size + 1 + 1) ?_ (by omega)
    iterate 10 (refine Copied.far ?_ (Nat.lt_succ_self (w.heap.size + 1)) _ _)
    exact yx C5
  · iterate 10 (refine belowSet ?_ (show w.heap.size ≤ w.heap.size + 1 by omega) _ _)
    exact yx B5
end Go.Proofs.YteoonaanoenjiaaGreatDoor
namespace Go.Proofs.YteoonaanoenjiaaGreatDoor
set_option linter.unusedVariables false
structure Cm where
  kind : Int
  A : Int
  B : Int
  C : Int
  D : Int
  S : List D3
  wd : Int
  ht : Int
  px : ByteArray
  lv : Int
  fo : Int
def fr0 (wd ht : Int) (px : ByteArray) : Bool := decide (wd = 0) && decide (ht = 0) && decide (px.toList = [])
def bareB (c : Cm) : Bool := fr0 c.wd c.ht c.px && decide (c.lv = 0) && decide (c.fo = 0)
def noS (S : List D3) : Bool := decide (S.length = 0)
def tz (c : Cm) : Bool := eqT c.A c.B c.C c.D 0 0 0 0
def cmdB (c : Cm) : Bool :=
  if c.kind = 1 then tz c && noS c.S && bareB c
  else if c.kind = 2 then rightT c.A c.B c.C c.D && noS c.S && bareB c
  else if c.kind = 3 then tz c && spotsB c.S && bareB c
  else if c.kind = 4 then tz c && noS c.S && frameB c.wd c.ht c.px && spanB 0 255 c.lv && spanB 1 40 c.fo
  else false
theorem cmd_1 {c : Cm} (h : c.kind = 1) : cmdB c = (tz c && noS c.S && bareB c) := by unfold cmdB; rw [if_pos h]
theorem cmd_2 {c : Cm} (h : c.kind = 2) : cmdB c = (rightT c.A c.B c.C c.D && noS c.S && bareB c) := by unfold cmdB; rw [if_neg (by omega), if_pos h]
theorem cmd_3 {c : Cm} (h : c.kind = 3) : cmdB c = (tz c && spotsB c.S && bareB c) := by unfold cmdB; rw [if_neg (by omega), if_neg (by omega), if_pos h]
theorem cmd_4 {c : Cm} (h : c.kind = 4) : cmdB c = (tz c && noS c.S && frameB c.wd c.ht c.px && spanB 0 255 c.lv && spanB 1 40 c.fo) := by unfold cmdB; rw [if_neg (by omega), if_neg (by omega), if_neg (by omega), if_pos h]
theorem cmd_n {c : Cm} (h1 : c.kind ≠ 1) (h2 : c.kind ≠ 2) (h3 : c.kind ≠ 3) (h4 : c.kind ≠ 4) : cmdB c = false := by unfold cmdB; rw [if_neg h1, if_neg h2, if_neg h3, if_neg h4]
end Go.Proofs.YteoonaanoenjiaaGreatDoor
namespace Go.Proofs.YteoonaanoenjiaaGreatDoor
open Go.RowKit Go.Sort
set_option linter.unusedVariables false
theorem SAt.c4 {w : World} {b : Nat} {x y z u : Value} (h : SAt w b [x, y, z, u]) : w.cell? ⟨b, 0, none⟩ = some x ∧ w.cell? ⟨b, 1, none⟩ = some y ∧ w.cell? ⟨b, 2, none⟩ = some z ∧ w.cell? ⟨b, 3, none⟩ = some u := ⟨h 0 x rfl, h 1 y rfl, h 2 z rfl, h 3 u rfl⟩
theorem neq_str_self (s : ByteArray) (w : World) : (binOp .neq 9 (.string s) (.string s)).run Tryz.prog w = .ok (.bool false) w := by simp [go_sem]
set_option maxRecDepth 100000 in
theorem eqFrame_same (x y : Int) (s : ByteArray) (w : World) :
    Calls Tryz.prog 40 #[.agg #[.int .i64 x, .int .i64 y, .string s], .agg #[.int .i64 x, .int .i64 y, .string s]] w fun e w' => e = .returned (.bool true) ∧ Below w.heap.size w w' := by
  have hq := neq_str_self s
  go_enter Tryz.func40, Tryz.ntmps40
  go_wp2_with fail
  go_ret
  exact ⟨rfl, below2 _ _ _⟩
end Go.Proofs.YteoonaanoenjiaaGreatDoor
