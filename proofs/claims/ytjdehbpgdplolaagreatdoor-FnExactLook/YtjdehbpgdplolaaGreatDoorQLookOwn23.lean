/- Several texts in one: LkE. -/
import Derived.Test.YtjdehbpgdplolaaGreatDoorQLookOwn22
namespace Go.Proofs.YtjdehbpgdplolaaGreatDoor
open Go.RowKit Go.Sort
set_option linter.unusedVariables false
set_option linter.unusedSimpArgs false

theorem res_slook7 (T : Array Value) (X : World) (b : Nat) (v : Value) (lim mode A B C D coast fr code : Int) (hT : T.getD 4 undef = .pointer (some ⟨b, 0, none⟩)) (h : TkO X b v lim mode A B C D coast fr code) : (results Tryz.f21 T).run Tryz.prog X = .ok (.agg #[v, .int .i64 lim, .int .i64 mode, .int .i64 A, .int .i64 B, .int .i64 C, .int .i64 D, .int .i64 coast, .int .i64 fr, .int .i64 code]) X := by
  obtain ⟨⟨h0, h1, h2, h3, h4, h5, h6, h7, h8⟩, h9⟩ := h
  simp only [Array.getD_eq_getD_getElem?] at hT
  simp [results, Tryz.results21, go_sem, hT, h0, h1, h2, h3, h4, h5, h6, h7, h8, h9]
theorem res_slook (T : Array Value) (X : World) (b : Nat) (v : Value) (lim mode A B C D coast fr code : Int) (hT : T.getD 4 undef = .pointer (some ⟨b, 0, none⟩)) (h : TkO X b v lim mode A B C D coast fr code) : (results Tryz.f6 T).run Tryz.prog X = .ok (.agg #[v, .int .i64 lim, .int .i64 mode, .int .i64 A, .int .i64 B, .int .i64 C, .int .i64 D, .int .i64 coast, .int .i64 fr, .int .i64 code]) X := by
  obtain ⟨⟨h0, h1, h2, h3, h4, h5, h6, h7, h8⟩, h9⟩ := h
  simp only [Array.getD_eq_getD_getElem?] at hT
  simp [results, Tryz.results6, go_sem, hT, h0, h1, h2, h3, h4, h5, h6, h7, h8, h9]
theorem turnOf_yes {L : List St} {S : List D3} (hk : skyB L = true) (hp : spotsB S = true) (h0 : idCode L S = 0) : turnOfV L S = forV L S (idIds L S) := by
  have h12 := (sky_ok hk).1
  have h6 := (spots_ok hp).1
  obtain ⟨e1, e2, e3⟩ := ident_yes (L := L) (S := S) (by omega) (by unfold idOk; rw [hk, hp]; rfl)
  unfold turnOfV
  rw [e3, if_pos h0, e1]
theorem turnOf_no {L : List St} {S : List D3} (hk : skyB L = true) (hp : spotsB S = true) (h0 : idCode L S ≠ 0) : (turnOfV L S).2 ≠ 0 := by
  have h12 := (sky_ok hk).1
  have h6 := (spots_ok hp).1
  obtain ⟨e1, e2, e3⟩ := ident_yes (L := L) (S := S) (by omega) (by unfold idOk; rw [hk, hp]; rfl)
  unfold turnOfV
  rw [e3, if_neg h0]
  exact h0

set_option maxHeartbeats 16000000 in
set_option maxRecDepth 100000 in
theorem l07Look_any (L : List St) (S : List D3) (lim mode A B C D coast fr : Int) (b o c : Nat) (br : Option Addr) (dr : Nat) (w : World) (hn : L.length ≤ 1048576) (hdr : S.length ≤ dr) (hd9 : dr ≤ 9223372036854775807) (hS : Stars w (some ⟨b, o, none⟩) L L.length) (hD : Dirs w br S S.length) (hb : b < w.heap.size) (hB : ∀ y, br = some y → y.block < w.heap.size) (hsk : skyB L = true) (hsp : spotsB S = true) (hm : mode = 0 ∨ mode = 1 ∨ mode = 2) (hr : mode ≠ 0 → rightT A B C D = true) (hc0 : 0 ≤ coast) (hc5 : coast ≤ 5) (hf0 : 0 ≤ fr) (hf1 : fr ≤ 1000000) :
    Calls Tryz.prog 21 #[.agg #[.slice (some ⟨b, o, none⟩) L.length c, .int .i64 lim, .int .i64 mode, .int .i64 A, .int .i64 B, .int .i64 C, .int .i64 D, .int .i64 coast, .int .i64 fr], .slice br S.length dr] w fun e w' => OutT w' w.heap.size (lookR ⟨L, lim, mode, A, B, C, D, coast, fr⟩ S) 0 e ∧ Below w.heap.size w w' := by
  have hwr : wrap64 (fr + 1) = fr + 1 := wrap_id (by omega) (by omega)
  have hwc : wrap64 (coast + 1) = coast + 1 := wrap_id (by omega) (by omega)
  have B0 := hide (below2 w (.cells #[.slice (some ⟨b, o, none⟩) L.length c, .int .i64 lim, .int .i64 mode, .int .i64 A, .int .i64 B, .int .i64 C, .int .i64 D, .int .i64 coast, .int .i64 fr] 33) (.cells #[.slice none 0 0, .int .i64 0, .int .i64 0, .int .i64 0, .int .i64 0, .int .i64 0, .int .i64 0, .int .i64 0, .int .i64 0, .int .i64 0] 35))
  have A0 := hide ((blk_new w [.slice (some ⟨b, o, none⟩) L.length c, .int .i64 lim, .int .i64 mode, .int .i64 A, .int .i64 B, .int .i64 C, .int .i64 D, .int .i64 coast, .int .i64 fr] 33).alloc (.cells #[.slice none 0 0, .int .i64 0, .int .i64 0, .int .i64 0, .int .i64 0, .int .i64 0, .int .i64 0, .int .i64 0, .int .i64 0, .int .i64 0] 35))
  have R0 := hide (by simpa using blk_new (w.alloc (.cells #[.slice (some ⟨b, o, none⟩) L.length c, .int .i64 lim, .int .i64 mode, .int .i64 A, .int .i64 B, .int .i64 C, .int .i64 D, .int .i64 coast, .int .i64 fr] 33)) [.slice none 0 0, .int .i64 0, .int .i64 0, .int .i64 0, .int .i64 0, .int .i64 0, .int .i64 0, .int .i64 0, .int .i64 0, .int .i64 0] 35 : Blk ((w.alloc (.cells #[.slice (some ⟨b, o, none⟩) L.length c, .int .i64 lim, .int .i64 mode, .int .i64 A, .int .i64 B, .int .i64 C, .int .i64 D, .int .i64 coast, .int .i64 fr] 33)).alloc (.cells #[.slice none 0 0, .int .i64 0, .int .i64 0, .int .i64 0, .int .i64 0, .int .i64 0, .int .i64 0, .int .i64 0, .int .i64 0, .int .i64 0] 35)) (w.heap.size + 1) [.slice none 0 0, .int .i64 0, .int .i64 0, .int .i64 0, .int .i64 0, .int .i64 0, .int .i64 0, .int .i64 0, .int .i64 0, .int .i64 0] 35)
  have hl0 : w.heap.size + 1 + 1 ≤ ((w.alloc (.cells #[.slice (some ⟨b, o, none⟩) L.length c, .int .i64 lim, .int .i64 mode, .int .i64 A, .int .i64 B, .int .i64 C, .int .i64 D, .int .i64 coast, .int .i64 fr] 33)).alloc (.cells #[.slice none 0 0, .int .i64 0, .int .i64 0, .int .i64 0, .int .i64 0, .int .i64 0, .int .i64 0, .int .i64 0, .int .i64 0, .int .i64 0] 35)).heap.size := by simp
  have cC := hide (l07Copy_any L lim mode A B C D coast fr b o c _ hn (hS.kept (unhide B0)))
  have cM : Hid (mode ≠ 0 → ∀ W : World, Below w.heap.size w W → Calls Tryz.prog 42 #[.slice (some ⟨b, o, none⟩) L.length c, .agg #[.int .i64 A, .int .i64 B, .int .i64 C, .int .i64 D], .slice br S.length dr] W fun e w' => (∃ v, e = .returned (.tuple #[v, .int .i64 (cntN (matchL L A B C D S) : Int)])) ∧ Below W.heap.size W w') := hide (fun h0 W h => (l06Match_any L S _ br c dr A B C D W hsk (hr h0) hsp (hS.kept h) (hD.kept h)).mono fun e w' hh => by
    obtain ⟨⟨v, he, _⟩, hx⟩ := hh
    rw [hits_cnt hsk (hr h0) hsp] at he
    exact ⟨⟨v, he⟩, hx⟩)
  have cI := hide (fun (W : World) (h : Below w.heap.size w W) => l06Identify_any L S (some ⟨b, o, none⟩) br c dr W hsk hsp hdr hd9 (hS.kept h) (hD.kept h) (fun y e => by rw [← Option.some.inj e]; exact Nat.lt_of_lt_of_le hb h.size) (fun y e => Nat.lt_of_lt_of_le (hB y e) h.size))
  obtain ⟨⟨⟨t1, t2, t3, t4⟩, tc⟩, htv⟩ : ∃ z, turnOfV L S = z := ⟨_, rfl⟩
  have cF : Hid (idCode L S = 0 → ∀ (W : World) (x : Option Addr) (k : Nat), Below w.heap.size w W → Nums W x (idIds L S) (idIds L S).length → Calls Tryz.prog 45 #[.slice (some ⟨b, o, none⟩) L.length c, .slice br S.length dr, .slice x (idIds L S).length k] W fun e w' => e = .returned (.agg #[.int .i64 t1, .int .i64 t2, .int .i64 t3, .int .i64 t4, .int .i64 tc]) ∧ Below W.heap.size W w') := hide (fun h0 W x k h hN => by
    have h1 := l06For_any L S (idIds L S) _ br x c dr k W (found_named hsk hsp h0) (hS.kept h) (hD.kept h) hN
    rw [for_found hsk hsp h0, ← turnOf_yes hsk hsp h0, htv] at h1
    exact h1)
  have hTN : Hid (idCode L S ≠ 0 → tc ≠ 0) := hide (fun h0 => by have := turnOf_no hsk hsp h0; rw [htv] at this; exact this)
  have hO1 : Hid (mode ≠ 0 → 2 ≤ cntN (matchL L A B C D S) → lookR ⟨L, lim, mode, A, B, C, D, coast, fr⟩ S = ⟨L, lim, 1, A, B, C, D, 0, fr + 1⟩) := hide (fun h1 h2 => by unfold lookR; rw [if_pos ⟨h1, h2⟩]; rfl)
  have hO2 : Hid (¬ (mode ≠ 0 ∧ 2 ≤ cntN (matchL L A B C D S)) → tc = 0 → lookR ⟨L, lim, mode, A, B, C, D, coast, fr⟩ S = ⟨L, lim, 1, t1, t2, t3, t4, 0, fr + 1⟩) := hide (fun h1 h2 => by unfold lookR; dsimp only; rw [if_neg h1, htv, if_pos h2]; rfl)
  have hO3 : Hid (¬ (mode ≠ 0 ∧ 2 ≤ cntN (matchL L A B C D S)) → tc ≠ 0 → lookR ⟨L, lim, mode, A, B, C, D, coast, fr⟩ S = unseenT ⟨L, lim, mode, A, B, C, D, coast, fr + 1⟩) := hide (fun h1 h2 => by unfold lookR; dsimp only; rw [if_neg h1, htv, if_neg h2])
  have hid := identL_len L S
  generalize cntN (matchL L A B C D S) = cn at *
  clear hS htv hsk hsp hr hf0 hf1 hid
  have hm0 := hm
  clear hm
  go_enter Tryz.func21, Tryz.ntmps21
  go_wp2_with fail
  refine (unhide cC).mono ?_
  rintro e w2 ⟨a, cap, rfl, hC, hx⟩
  have Z := below1 w2 (.cells #[.slice a L.length cap, .int .i64 lim, .int .i64 mode, .int .i64 A, .int .i64 B, .int .i64 C, .int .i64 D, .int .i64 coast, .int .i64 (fr + 1)] 33)
  have C2 := hide ((hC.low (B' := w.heap.size + 1 + 1) (by omega)).kept Z)
  have hcb : ∀ y, a = some y → y.block < w2.heap.size := fun y e => (hC.block y e).2
  have p8 := (((unhide A0).kept hx).kept (below1 w2 (.cells #[.slice a L.length cap, .int .i64 lim, .int .i64 mode, .int .i64 A, .int .i64 B, .int .i64 C, .int .i64 D, .int .i64 coast, .int .i64 fr] 33))).cell 8 _ rfl
  have A2 := hide (((unhide A0).kept hx).kept Z)
  have R2 := hide (((unhide R0).kept hx).kept Z)
  have B2 := hide (below_call (below_call (unhide B0) hx) Z)
  have T2 := hide (blk_new w2 [.slice a L.length cap, .int .i64 lim, .int .i64 mode, .int .i64 A, .int .i64 B, .int .i64 C, .int .i64 D, .int .i64 coast, .int .i64 (fr + 1)] 33)
  have hl2 : w.heap.size + 1 + 1 ≤ w2.heap.size := Nat.le_trans hl0 hx.size
  have hD2 := hide (hD.kept (unhide B2))
  clear hx hC Z A0 R0 B0 cC hl0 hD
  have q0 := (unhide A2).cell 0 _ rfl
  have q1 := (unhide A2).cell 1 _ rfl
  have q2 := (unhide A2).cell 2 _ rfl
  have q3 := (unhide A2).cell 3 _ rfl
  have q4 := (unhide A2).cell 4 _ rfl
  have q5 := (unhide A2).cell 5 _ rfl
  have q6 := (unhide A2).cell 6 _ rfl
  have q7 := (unhide A2).cell 7 _ rfl
  have q8 := (unhide A2).cell 8 _ rfl
  have s0 := (unhide T2).cell 0 _ rfl
  have s1 := (unhide T2).cell 1 _ rfl
  have s2 := (unhide T2).cell 2 _ rfl
  have s3 := (unhide T2).cell 3 _ rfl
  have s4 := (unhide T2).cell 4 _ rfl
  have s5 := (unhide T2).cell 5 _ rfl
  have s6 := (unhide T2).cell 6 _ rfl
  have s7 := (unhide T2).cell 7 _ rfl
  have s8 := (unhide T2).cell 8 _ rfl
  have f0 := (unhide T2).free 0
  have f1 := (unhide T2).free 1
  have f2 := (unhide T2).free 2
  have f3 := (unhide T2).free 3
  have f4 := (unhide T2).free 4
  have f5 := (unhide T2).free 5
  have f6 := (unhide T2).free 6
  have f7 := (unhide T2).free 7
  have f8 := (unhide T2).free 8
  by_cases h1 : mode = 0
  · have hneg : ¬ (mode ≠ 0 ∧ 2 ≤ cn) := fun h => h.1 h1
    subst h1
    go_wp2_with fail
    clear q0 q1 q2 q3 q4 q5 q6 q7 q8 s0 s1 s2 s3 s4 s5 s6 s7 s8 f0 f1 f2 f3 f4 f5 f6 f7 f8 p8
    refine (unhide cI _ (unhide B2)).mono ?_
    rintro e w4 ⟨hO, hx⟩
    obtain ⟨x, k, rfl, hv⟩ := outI_nums hO
    have Z := below1 w4 (.cells #[.slice x (idIds L S).length k, .int .i64 (idCnt L S), .int .i64 (idCode L S)] 79)
    have A4 := hide (((unhide A2).kept hx).kept Z)
    have R4 := hide (((unhide R2).kept hx).kept Z)
    have C4 := hide (((unhide C2).kept hx).kept Z)
    have T4 := hide (((unhide T2).kept hx).kept Z)
    have B4 := hide (below_call (below_call (unhide B2) hx) Z)
    have I4 := hide (blk_new w4 [.slice x (idIds L S).length k, .int .i64 (idCnt L S), .int .i64 (idCode L S)] 79)
    have N4 := hide (hv.kept Z)
    clear hx hO hv Z
    have cF4 : Hid (idCode L S = 0 → Calls Tryz.prog 45 #[.slice (some ⟨b, o, none⟩) L.length c, .slice br S.length dr, .slice x (idIds L S).length k] (w4.alloc (.cells #[.slice x (idIds L S).length k, .int .i64 (idCnt L S), .int .i64 (idCode L S)] 79)) fun e w' => e = .returned (.agg #[.int .i64 t1, .int .i64 t2, .int .i64 t3, .int .i64 t4, .int .i64 tc]) ∧ Below (w4.alloc (.cells #[.slice x (idIds L S).length k, .int .i64 (idCnt L S), .int .i64 (idCode L S)] 79)).heap.size (w4.alloc (.cells #[.slice x (idIds L S).length k, .int .i64 (idCnt L S), .int .i64 (idCode L S)] 79)) w') := hide (fun h0 => unhide cF h0 _ x k (unhide B4) (unhide N4))
    clear N4
    generalize (idIds L S).length = nI at *
    generalize idCode L S = kd at *
    generalize idCnt L S = kc at *
    have j0 := (unhide I4).cell 0 _ rfl
    have j1 := (unhide I4).cell 1 _ rfl
    have j2 := (unhide I4).cell 2 _ rfl
    have q0 := (unhide A4).cell 0 _ rfl
    have q1 := (unhide A4).cell 1 _ rfl
    have q2 := (unhide A4).cell 2 _ rfl
    have q3 := (unhide A4).cell 3 _ rfl
    have q4 := (unhide A4).cell 4 _ rfl
    have q5 := (unhide A4).cell 5 _ rfl
    have q6 := (unhide A4).cell 6 _ rfl
    have q7 := (unhide A4).cell 7 _ rfl
    have q8 := (unhide A4).cell 8 _ rfl
    have s0 := (unhide T4).cell 0 _ rfl
    have s1 := (unhide T4).cell 1 _ rfl
    have s2 := (unhide T4).cell 2 _ rfl
    have s3 := (unhide T4).cell 3 _ rfl
    have s4 := (unhide T4).cell 4 _ rfl
    have s5 := (unhide T4).cell 5 _ rfl
    have s6 := (unhide T4).cell 6 _ rfl
    have s7 := (unhide T4).cell 7 _ rfl
    have s8 := (unhide T4).cell 8 _ rfl
    have f0 := (unhide T4).free 0
    have f1 := (unhide T4).free 1
    have f2 := (unhide T4).free 2
    have f3 := (unhide T4).free 3
    have f4 := (unhide T4).free 4
    have f5 := (unhide T4).free 5
    have f6 := (unhide T4).free 6
    have f7 := (unhide T4).free 7
    have f8 := (unhide T4).free 8
    by_cases h3 : kd = 0
    · have cF5 := hide (unhide cF4 h3)
      clear cF4
      subst h3
      go_wp2_with fail
      clear j0 j1 j2 q0 q1 q2 q3 q4 q5 q6 q7 q8 s0 s1 s2 s3 s4 s5 s6 s7 s8 f0 f1 f2 f3 f4 f5 f6 f7 f8
      refine (unhide cF5).mono ?_
      rintro e w5 ⟨rfl, hx⟩
      have Z := below1 w5 (.cells #[.int .i64 t1, .int .i64 t2, .int .i64 t3, .int .i64 t4, .int .i64 tc] 82)
      have A5 := hide (((unhide A4).kept hx).kept Z)
      have R5 := hide (((unhide R4).kept hx).kept Z)
      have C5 := hide (((unhide C4).kept hx).kept Z)
      have T5 := hide (((unhide T4).kept hx).kept Z)
      have B5 := hide (below_call (below_call (unhide B4) hx) Z)
      have U5 := hide (blk_new w5 [.int .i64 t1, .int .i64 t2, .int .i64 t3, .int .i64 t4, .int .i64 tc] 82)
      clear hx Z cF5 A4 R4 C4 T4 B4 I4
      have j0 := (unhide U5).cell 0 _ rfl
      have j1 := (unhide U5).cell 1 _ rfl
      have j2 := (unhide U5).cell 2 _ rfl
      have j3 := (unhide U5).cell 3 _ rfl
      have j4 := (unhide U5).cell 4 _ rfl
      have q0 := (unhide A5).cell 0 _ rfl
      have q1 := (unhide A5).cell 1 _ rfl
      have q2 := (unhide A5).cell 2 _ rfl
      have q3 := (unhide A5).cell 3 _ rfl
      have q4 := (unhide A5).cell 4 _ rfl
      have q5 := (unhide A5).cell 5 _ rfl
      have q6 := (unhide A5).cell 6 _ rfl
      have q7 := (unhide A5).cell 7 _ rfl
      have q8 := (unhide A5).cell 8 _ rfl
      have s0 := (unhide T5).cell 0 _ rfl
      have s1 := (unhide T5).cell 1 _ rfl
      have s2 := (unhide T5).cell 2 _ rfl
      have s3 := (unhide T5).cell 3 _ rfl
      have s4 := (unhide T5).cell 4 _ rfl
      have s5 := (unhide T5).cell 5 _ rfl
      have s6 := (unhide T5).cell 6 _ rfl
      have s7 := (unhide T5).cell 7 _ rfl
      have s8 := (unhide T5).cell 8 _ rfl
      have f0 := (unhide T5).free 0
      have f1 := (unhide T5).free 1
      have f2 := (unhide T5).free 2
      have f3 := (unhide T5).free 3
      have f4 := (unhide T5).free 4
      have f5 := (unhide T5).free 5
      have f6 := (unhide T5).free 6
      have f7 := (unhide T5).free 7
      have f8 := (unhide T5).free 8
      by_cases h4 : tc = 0
      · have HO := hide (unhide hO2 hneg h4)
        subst h4
        go_wp2_with fail
        clear j0 j1 j2 j3 j4 q0 q1 q2 q3 q4 q5 q6 q7 q8 s0 s1 s2 s3 s4 s5 s6 s7 s8 f0 f1 f2 f3 f4 f5 f6 f7 f8
        refine (l07Track_any lim _ A B C D coast (fr + 1) t1 t2 t3 t4 a L.length cap _).mono ?_
        rintro e w6 ⟨rfl, hx⟩
        have R6 := hide ((unhide R5).kept hx)
        have C6 := hide ((unhide C5).kept hx)
        have B6 := hide (below_call (unhide B5) hx)
        clear hx
        have r0 := (unhide R6).cell 0 _ rfl
        have r1 := (unhide R6).cell 1 _ rfl
        have r2 := (unhide R6).cell 2 _ rfl
        have r3 := (unhide R6).cell 3 _ rfl
        have r4 := (unhide R6).cell 4 _ rfl
        have r5 := (unhide R6).cell 5 _ rfl
        have r6 := (unhide R6).cell 6 _ rfl
        have r7 := (unhide R6).cell 7 _ rfl
        have r8 := (unhide R6).cell 8 _ rfl
        have r9 := (unhide R6).cell 9 _ rfl
        have g0 := (unhide R6).free 0
        have g1 := (unhide R6).free 1
        have g2 := (unhide R6).free 2
        have g3 := (unhide R6).free 3
        have g4 := (unhide R6).free 4
        have g5 := (unhide R6).free 5
        have g6 := (unhide R6).free 6
        have g7 := (unhide R6).free 7
        have g8 := (unhide R6).free 8
        have g9 := (unhide R6).free 9
        go_wp2_with fail
        clear r0 r1 r2 r3 r4 r5 r6 r7 r8 r9 g0 g1 g2 g3 g4 g5 g6 g7 g8 g9
        rw [unhide HO]
        refine bodyPost_ret (v := .agg #[.slice a L.length cap, .int .i64 lim, .int .i64 1, .int .i64 t1, .int .i64 t2, .int .i64 t3, .int .i64 t4, .int .i64 0, .int .i64 (fr + 1), .int .i64 0]) ?_ rfl ⟨⟨a, cap, rfl, ?_⟩, ?_⟩
        · refine res_slook7 _ _ (w.heap.size + 1) _ lim 1 t1 t2 t3 t4 0 (fr + 1) 0 rfl (tkO_blk (t := 35) (blk_set10 (L := [.slice none 0 0, .int .i64 0, .int .i64 0, .int .i64 0, .int .i64 0, .int .i64 0, .int .i64 0, .int .i64 0, .int .i64 0, .int .i64 0]) (t := 35) ?_ rfl _ lim 1 t1 t2 t3 t4 0 (fr + 1) 0))
          exact unhide R6
        · refine Copied.low (B := w.heap.size + 1 + 1) ?_ (by omega)
          iterate 10 (refine Copied.far ?_ (Nat.lt_succ_self (w.heap.size + 1)) _ _)
          exact unhide C6
        · iterate 10 (refine belowSet ?_ (show w.heap.size ≤ w.heap.size + 1 by omega) _ _)
          exact unhide B6
      · skip
        have r0 := (unhide R5).cell 0 _ rfl
        have r1 := (unhide R5).cell 1 _ rfl
        have r2 := (unhide R5).cell 2 _ rfl
        have r3 := (unhide R5).cell 3 _ rfl
        have r4 := (unhide R5).cell 4 _ rfl
        have r5 := (unhide R5).cell 5 _ rfl
        have r6 := (unhide R5).cell 6 _ rfl
        have r7 := (unhide R5).cell 7 _ rfl
        have r8 := (unhide R5).cell 8 _ rfl
        have r9 := (unhide R5).cell 9 _ rfl
        have g0 := (unhide R5).free 0
        have g1 := (unhide R5).free 1
        have g2 := (unhide R5).free 2
        have g3 := (unhide R5).free 3
        have g4 := (unhide R5).free 4
        have g5 := (unhide R5).free 5
        have g6 := (unhide R5).free 6
        have g7 := (unhide R5).free 7
        have g8 := (unhide R5).free 8
        have g9 := (unhide R5).free 9
        have HO : Hid (lookR ⟨L, lim, 0, A, B, C, D, coast, fr⟩ S = ⟨L, lim, 0, A, B, C, D, coast, fr + 1⟩) := hide (by rw [unhide hO3 hneg h4]; rfl)
        go_wp2_with fail
        clear q0 q1 q2 q3 q4 q5 q6 q7 q8 s0 s1 s2 s3 s4 s5 s6 s7 s8 f0 f1 f2 f3 f4 f5 f6 f7 f8 r0 r1 r2 r3 r4 r5 r6 r7 r8 r9 g0 g1 g2 g3 g4 g5 g6 g7 g8 g9 j0 j1 j2 j3 j4
        rw [unhide HO]
        refine bodyPost_ret (v := .agg #[.slice a L.length cap, .int .i64 lim, .int .i64 0, .int .i64 A, .int .i64 B, .int .i64 C, .int .i64 D, .int .i64 coast, .int .i64 (fr + 1), .int .i64 0]) ?_ rfl ⟨⟨a, cap, rfl, ?_⟩, ?_⟩
        · refine res_slook7 _ _ (w.heap.size + 1) _ lim 0 A B C D coast (fr + 1) 0 rfl (tkO_blk (t := 35) (blk_set10 (L := [.slice none 0 0, .int .i64 0, .int .i64 0, .int .i64 0, .int .i64 0, .int .i64 0, .int .i64 0, .int .i64 0, .int .i64 0, .int .i64 0]) (t := 35) ?_ rfl _ lim 0 A B C D coast (fr + 1) 0))
          exact unhide R5
        · refine Copied.low (B := w.heap.size + 1 + 1) ?_ (by omega)
          iterate 10 (refine Copied.far ?_ (Nat.lt_succ_self (w.heap.size + 1)) _ _)
          exact unhide C5
        · iterate 10 (refine belowSet ?_ (show w.heap.size ≤ w.heap.size + 1 by omega) _ _)
          exact unhide B5
    · have htc := unhide hTN h3
      clear cF4
      have r0 := (unhide R4).cell 0 _ rfl
      have r1 := (unhide R4).cell 1 _ rfl
      have r2 := (unhide R4).cell 2 _ rfl
      have r3 := (unhide R4).cell 3 _ rfl
      have r4 := (unhide R4).cell 4 _ rfl
      have r5 := (unhide R4).cell 5 _ rfl
      have r6 := (unhide R4).cell 6 _ rfl
      have r7 := (unhide R4).cell 7 _ rfl
      have r8 := (unhide R4).cell 8 _ rfl
      have r9 := (unhide R4).cell 9 _ rfl
      have g0 := (unhide R4).free 0
      have g1 := (unhide R4).free 1
      have g2 := (unhide R4).free 2
      have g3 := (unhide R4).free 3
      have g4 := (unhide R4).free 4
      have g5 := (unhide R4).free 5
      have g6 := (unhide R4).free 6
      have g7 := (unhide R4).free 7
      have g8 := (unhide R4).free 8
      have g9 := (unhide R4).free 9
      have HO : Hid (lookR ⟨L, lim, 0, A, B, C, D, coast, fr⟩ S = ⟨L, lim, 0, A, B, C, D, coast, fr + 1⟩) := hide (by rw [unhide hO3 hneg htc]; rfl)
      go_wp2_with fail
      clear q0 q1 q2 q3 q4 q5 q6 q7 q8 s0 s1 s2 s3 s4 s5 s6 s7 s8 f0 f1 f2 f3 f4 f5 f6 f7 f8 r0 r1 r2 r3 r4 r5 r6 r7 r8 r9 g0 g1 g2 g3 g4 g5 g6 g7 g8 g9 j0 j1 j2
      rw [unhide HO]
      refine bodyPost_ret (v := .agg #[.slice a L.length cap, .int .i64 lim, .int .i64 0, .int .i64 A, .int .i64 B, .int .i64 C, .int .i64 D, .int .i64 coast, .int .i64 (fr + 1), .int .i64 0]) ?_ rfl ⟨⟨a, cap, rfl, ?_⟩, ?_⟩
      · refine res_slook7 _ _ (w.heap.size + 1) _ lim 0 A B C D coast (fr + 1) 0 rfl (tkO_blk (t := 35) (blk_set10 (L := [.slice none 0 0, .int .i64 0, .int .i64 0, .int .i64 0, .int .i64 0, .int .i64 0, .int .i64 0, .int .i64 0, .int .i64 0, .int .i64 0]) (t := 35) ?_ rfl _ lim 0 A B C D coast (fr + 1) 0))
        exact unhide R4
      · refine Copied.low (B := w.heap.size + 1 + 1) ?_ (by omega)
        iterate 10 (refine Copied.far ?_ (Nat.lt_succ_self (w.heap.size + 1)) _ _)
        exact unhide C4
      · iterate 10 (refine belowSet ?_ (show w.heap.size ≤ w.heap.size + 1 by omega) _ _)
        exact unhide B4
  have cM2 := hide (unhide cM h1 _ (unhide B2))
  clear cM
  go_wp2_with fail
  clear q0 q1 q2 q3 q4 q5 q6 q7 q8 s0 s1 s2 s3 s4 s5 s6 s7 s8 f0 f1 f2 f3 f4 f5 f6 f7 f8 p8
  refine (unhide cM2).mono ?_
  rintro e w3 ⟨⟨mv, rfl⟩, hx⟩
  have A3 := hide ((unhide A2).kept hx)
  have R3 := hide ((unhide R2).kept hx)
  have C3 := hide ((unhide C2).kept hx)
  have T3 := hide ((unhide T2).kept hx)
  have B3 := hide (below_call (unhide B2) hx)
  clear hx cM2 A2 R2 C2 T2 B2
  have q0 := (unhide A3).cell 0 _ rfl
  have q1 := (unhide A3).cell 1 _ rfl
  have q2 := (unhide A3).cell 2 _ rfl
  have q3 := (unhide A3).cell 3 _ rfl
  have q4 := (unhide A3).cell 4 _ rfl
  have q5 := (unhide A3).cell 5 _ rfl
  have q6 := (unhide A3).cell 6 _ rfl
  have q7 := (unhide A3).cell 7 _ rfl
  have q8 := (unhide A3).cell 8 _ rfl
  have s0 := (unhide T3).cell 0 _ rfl
  have s1 := (unhide T3).cell 1 _ rfl
  have s2 := (unhide T3).cell 2 _ rfl
  have s3 := (unhide T3).cell 3 _ rfl
  have s4 := (unhide T3).cell 4 _ rfl
  have s5 := (unhide T3).cell 5 _ rfl
  have s6 := (unhide T3).cell 6 _ rfl
  have s7 := (unhide T3).cell 7 _ rfl
  have s8 := (unhide T3).cell 8 _ rfl
  have f0 := (unhide T3).free 0
  have f1 := (unhide T3).free 1
  have f2 := (unhide T3).free 2
  have f3 := (unhide T3).free 3
  have f4 := (unhide T3).free 4
  have f5 := (unhide T3).free 5
  have f6 := (unhide T3).free 6
  have f7 := (unhide T3).free 7
  have f8 := (unhide T3).free 8
  by_cases h2 : 2 ≤ cn
  · have HO := hide (unhide hO1 h1 h2)
    have h2' : (2 : Int) ≤ (cn : Int) := by omega
    go_wp2_with fail
    clear q0 q1 q2 q3 q4 q5 q6 q7 q8 s0 s1 s2 s3 s4 s5 s6 s7 s8 f0 f1 f2 f3 f4 f5 f6 f7 f8
    refine (l07Track_any lim _ A B C D coast (fr + 1) A B C D a L.length cap _).mono ?_
    rintro e w4 ⟨rfl, hx⟩
    have R4 := hide ((unhide R3).kept hx)
    have C4 := hide ((unhide C3).kept hx)
    have B4 := hide (below_call (unhide B3) hx)
    clear hx
    have r0 := (unhide R4).cell 0 _ rfl
    have r1 := (unhide R4).cell 1 _ rfl
    have r2 := (unhide R4).cell 2 _ rfl
    have r3 := (unhide R4).cell 3 _ rfl
    have r4 := (unhide R4).cell 4 _ rfl
    have r5 := (unhide R4).cell 5 _ rfl
    have r6 := (unhide R4).cell 6 _ rfl
    have r7 := (unhide R4).cell 7 _ rfl
    have r8 := (unhide R4).cell 8 _ rfl
    have r9 := (unhide R4).cell 9 _ rfl
    have g0 := (unhide R4).free 0
    have g1 := (unhide R4).free 1
    have g2 := (unhide R4).free 2
    have g3 := (unhide R4).free 3
    have g4 := (unhide R4).free 4
    have g5 := (unhide R4).free 5
    have g6 := (unhide R4).free 6
    have g7 := (unhide R4).free 7
    have g8 := (unhide R4).free 8
    have g9 := (unhide R4).free 9
    go_wp2_with fail
    clear r0 r1 r2 r3 r4 r5 r6 r7 r8 r9 g0 g1 g2 g3 g4 g5 g6 g7 g8 g9
    rw [unhide HO]
    refine bodyPost_ret (v := .agg #[.slice a L.length cap, .int .i64 lim, .int .i64 1, .int .i64 A, .int .i64 B, .int .i64 C, .int .i64 D, .int .i64 0, .int .i64 (fr + 1), .int .i64 0]) ?_ rfl ⟨⟨a, cap, rfl, ?_⟩, ?_⟩
    · refine res_slook7 _ _ (w.heap.size + 1) _ lim 1 A B C D 0 (fr + 1) 0 rfl (tkO_blk (t := 35) (blk_set10 (L := [.slice none 0 0, .int .i64 0, .int .i64 0, .int .i64 0, .int .i64 0, .int .i64 0, .int .i64 0, .int .i64 0, .int .i64 0, .int .i64 0]) (t := 35) ?_ rfl _ lim 1 A B C D 0 (fr + 1) 0))
      exact unhide R4
    · refine Copied.low (B := w.heap.size + 1 + 1) ?_ (by omega)
      iterate 10 (refine Copied.far ?_ (Nat.lt_succ_self (w.heap.size + 1)) _ _)
      exact unhide C4
    · iterate 10 (refine belowSet ?_ (show w.heap.size ≤ w.heap.size + 1 by omega) _ _)
      exact unhide B4
  have hneg : ¬ (mode ≠ 0 ∧ 2 ≤ cn) := fun h => h2 h.2
  have h2' : ¬ (2 : Int) ≤ (cn : Int) := by omega
  go_wp2_with fail
  clear q0 q1 q2 q3 q4 q5 q6 q7 q8 s0 s1 s2 s3 s4 s5 s6 s7 s8 f0 f1 f2 f3 f4 f5 f6 f7 f8
  refine (unhide cI _ (unhide B3)).mono ?_
  rintro e w4 ⟨hO, hx⟩
  obtain ⟨x, k, rfl, hv⟩ := outI_nums hO
  have Z := below1 w4 (.cells #[.slice x (idIds L S).length k, .int .i64 (idCnt L S), .int .i64 (idCode L S)] 79)
  have A4 := hide (((unhide A3).kept hx).kept Z)
  have R4 := hide (((unhide R3).kept hx).kept Z)
  have C4 := hide (((unhide C3).kept hx).kept Z)
  have T4 := hide (((unhide T3).kept hx).kept Z)
  have B4 := hide (below_call (below_call (unhide B3) hx) Z)
  have I4 := hide (blk_new w4 [.slice x (idIds L S).length k, .int .i64 (idCnt L S), .int .i64 (idCode L S)] 79)
  have N4 := hide (hv.kept Z)
  clear hx hO hv Z
  have cF4 : Hid (idCode L S = 0 → Calls Tryz.prog 45 #[.slice (some ⟨b, o, none⟩) L.length c, .slice br S.length dr, .slice x (idIds L S).length k] (w4.alloc (.cells #[.slice x (idIds L S).length k, .int .i64 (idCnt L S), .int .i64 (idCode L S)] 79)) fun e w' => e = .returned (.agg #[.int .i64 t1, .int .i64 t2, .int .i64 t3, .int .i64 t4, .int .i64 tc]) ∧ Below (w4.alloc (.cells #[.slice x (idIds L S).length k, .int .i64 (idCnt L S), .int .i64 (idCode L S)] 79)).heap.size (w4.alloc (.cells #[.slice x (idIds L S).length k, .int .i64 (idCnt L S), .int .i64 (idCode L S)] 79)) w') := hide (fun h0 => unhide cF h0 _ x k (unhide B4) (unhide N4))
  clear N4
  generalize (idIds L S).length = nI at *
  generalize idCode L S = kd at *
  generalize idCnt L S = kc at *
  have j0 := (unhide I4).cell 0 _ rfl
  have j1 := (unhide I4).cell 1 _ rfl
  have j2 := (unhide I4).cell 2 _ rfl
  have q0 := (unhide A4).cell 0 _ rfl
  have q1 := (unhide A4).cell 1 _ rfl
  have q2 := (unhide A4).cell 2 _ rfl
  have q3 := (unhide A4).cell 3 _ rfl
  have q4 := (unhide A4).cell 4 _ rfl
  have q5 := (unhide A4).cell 5 _ rfl
  have q6 := (unhide A4).cell 6 _ rfl
  have q7 := (unhide A4).cell 7 _ rfl
  have q8 := (unhide A4).cell 8 _ rfl
  have s0 := (unhide T4).cell 0 _ rfl
  have s1 := (unhide T4).cell 1 _ rfl
  have s2 := (unhide T4).cell 2 _ rfl
  have s3 := (unhide T4).cell 3 _ rfl
  have s4 := (unhide T4).cell 4 _ rfl
  have s5 := (unhide T4).cell 5 _ rfl
  have s6 := (unhide T4).cell 6 _ rfl
  have s7 := (unhide T4).cell 7 _ rfl
  have s8 := (unhide T4).cell 8 _ rfl
  have f0 := (unhide T4).free 0
  have f1 := (unhide T4).free 1
  have f2 := (unhide T4).free 2
  have f3 := (unhide T4).free 3
  have f4 := (unhide T4).free 4
  have f5 := (unhide T4).free 5
  have f6 := (unhide T4).free 6
  have f7 := (unhide T4).free 7
  have f8 := (unhide T4).free 8
  by_cases h3 : kd = 0
  · have cF5 := hide (unhide cF4 h3)
    clear cF4
    subst h3
    go_wp2_with fail
    clear j0 j1 j2 q0 q1 q2 q3 q4 q5 q6 q7 q8 s0 s1 s2 s3 s4 s5 s6 s7 s8 f0 f1 f2 f3 f4 f5 f6 f7 f8
    refine (unhide cF5).mono ?_
    rintro e w5 ⟨rfl, hx⟩
    have Z := below1 w5 (.cells #[.int .i64 t1, .int .i64 t2, .int .i64 t3, .int .i64 t4, .int .i64 tc] 82)
    have A5 := hide (((unhide A4).kept hx).kept Z)
    have R5 := hide (((unhide R4).kept hx).kept Z)
    have C5 := hide (((unhide C4).kept hx).kept Z)
    have T5 := hide (((unhide T4).kept hx).kept Z)
    have B5 := hide (below_call (below_call (unhide B4) hx) Z)
    have U5 := hide (blk_new w5 [.int .i64 t1, .int .i64 t2, .int .i64 t3, .int .i64 t4, .int .i64 tc] 82)
    clear hx Z cF5 A4 R4 C4 T4 B4 I4
    have j0 := (unhide U5).cell 0 _ rfl
    have j1 := (unhide U5).cell 1 _ rfl
    have j2 := (unhide U5).cell 2 _ rfl
    have j3 := (unhide U5).cell 3 _ rfl
    have j4 := (unhide U5).cell 4 _ rfl
    have q0 := (unhide A5).cell 0 _ rfl
    have q1 := (unhide A5).cell 1 _ rfl
    have q2 := (unhide A5).cell 2 _ rfl
    have q3 := (unhide A5).cell 3 _ rfl
    have q4 := (unhide A5).cell 4 _ rfl
    have q5 := (unhide A5).cell 5 _ rfl
    have q6 := (unhide A5).cell 6 _ rfl
    have q7 := (unhide A5).cell 7 _ rfl
    have q8 := (unhide A5).cell 8 _ rfl
    have s0 := (unhide T5).cell 0 _ rfl
    have s1 := (unhide T5).cell 1 _ rfl
    have s2 := (unhide T5).cell 2 _ rfl
    have s3 := (unhide T5).cell 3 _ rfl
    have s4 := (unhide T5).cell 4 _ rfl
    have s5 := (unhide T5).cell 5 _ rfl
    have s6 := (unhide T5).cell 6 _ rfl
    have s7 := (unhide T5).cell 7 _ rfl
    have s8 := (unhide T5).cell 8 _ rfl
    have f0 := (unhide T5).free 0
    have f1 := (unhide T5).free 1
    have f2 := (unhide T5).free 2
    have f3 := (unhide T5).free 3
    have f4 := (unhide T5).free 4
    have f5 := (unhide T5).free 5
    have f6 := (unhide T5).free 6
    have f7 := (unhide T5).free 7
    have f8 := (unhide T5).free 8
    by_cases h4 : tc = 0
    · have HO := hide (unhide hO2 hneg h4)
      subst h4
      go_wp2_with fail
      clear j0 j1 j2 j3 j4 q0 q1 q2 q3 q4 q5 q6 q7 q8 s0 s1 s2 s3 s4 s5 s6 s7 s8 f0 f1 f2 f3 f4 f5 f6 f7 f8
      refine (l07Track_any lim _ A B C D coast (fr + 1) t1 t2 t3 t4 a L.length cap _).mono ?_
      rintro e w6 ⟨rfl, hx⟩
      have R6 := hide ((unhide R5).kept hx)
      have C6 := hide ((unhide C5).kept hx)
      have B6 := hide (below_call (unhide B5) hx)
      clear hx
      have r0 := (unhide R6).cell 0 _ rfl
      have r1 := (unhide R6).cell 1 _ rfl
      have r2 := (unhide R6).cell 2 _ rfl
      have r3 := (unhide R6).cell 3 _ rfl
      have r4 := (unhide R6).cell 4 _ rfl
      have r5 := (unhide R6).cell 5 _ rfl
      have r6 := (unhide R6).cell 6 _ rfl
      have r7 := (unhide R6).cell 7 _ rfl
      have r8 := (unhide R6).cell 8 _ rfl
      have r9 := (unhide R6).cell 9 _ rfl
      have g0 := (unhide R6).free 0
      have g1 := (unhide R6).free 1
      have g2 := (unhide R6).free 2
      have g3 := (unhide R6).free 3
      have g4 := (unhide R6).free 4
      have g5 := (unhide R6).free 5
      have g6 := (unhide R6).free 6
      have g7 := (unhide R6).free 7
      have g8 := (unhide R6).free 8
      have g9 := (unhide R6).free 9
      go_wp2_with fail
      clear r0 r1 r2 r3 r4 r5 r6 r7 r8 r9 g0 g1 g2 g3 g4 g5 g6 g7 g8 g9
      rw [unhide HO]
      refine bodyPost_ret (v := .agg #[.slice a L.length cap, .int .i64 lim, .int .i64 1, .int .i64 t1, .int .i64 t2, .int .i64 t3, .int .i64 t4, .int .i64 0, .int .i64 (fr + 1), .int .i64 0]) ?_ rfl ⟨⟨a, cap, rfl, ?_⟩, ?_⟩
      · refine res_slook7 _ _ (w.heap.size + 1) _ lim 1 t1 t2 t3 t4 0 (fr + 1) 0 rfl (tkO_blk (t := 35) (blk_set10 (L := [.slice none 0 0, .int .i64 0, .int .i64 0, .int .i64 0, .int .i64 0, .int .i64 0, .int .i64 0, .int .i64 0, .int .i64 0, .int .i64 0]) (t := 35) ?_ rfl _ lim 1 t1 t2 t3 t4 0 (fr + 1) 0))
        exact unhide R6
      · refine Copied.low (B := w.heap.size + 1 + 1) ?_ (by omega)
        iterate 10 (refine Copied.far ?_ (Nat.lt_succ_self (w.heap.size + 1)) _ _)
        exact unhide C6
      · iterate 10 (refine belowSet ?_ (show w.heap.size ≤ w.heap.size + 1 by omega) _ _)
        exact unhide B6
    · skip
      have r0 := (unhide R5).cell 0 _ rfl
      have r1 := (unhide R5).cell 1 _ rfl
      have r2 := (unhide R5).cell 2 _ rfl
      have r3 := (unhide R5).cell 3 _ rfl
      have r4 := (unhide R5).cell 4 _ rfl
      have r5 := (unhide R5).cell 5 _ rfl
      have r6 := (unhide R5).cell 6 _ rfl
      have r7 := (unhide R5).cell 7 _ rfl
      have r8 := (unhide R5).cell 8 _ rfl
      have r9 := (unhide R5).cell 9 _ rfl
      have g0 := (unhide R5).free 0
      have g1 := (unhide R5).free 1
      have g2 := (unhide R5).free 2
      have g3 := (unhide R5).free 3
      have g4 := (unhide R5).free 4
      have g5 := (unhide R5).free 5
      have g6 := (unhide R5).free 6
      have g7 := (unhide R5).free 7
      have g8 := (unhide R5).free 8
      have g9 := (unhide R5).free 9
      by_cases hlc : lim < coast + 1
      · have HO : Hid (lookR ⟨L, lim, mode, A, B, C, D, coast, fr⟩ S = ⟨L, lim, 0, 0, 0, 0, 0, 0, fr + 1⟩) := hide (by rw [unhide hO3 hneg h4]; unfold unseenT; dsimp only; rw [if_neg h1, if_pos hlc]; rfl)
        go_wp2_with fail
        clear q0 q1 q2 q3 q4 q5 q6 q7 q8 s0 s1 s2 s3 s4 s5 s6 s7 s8 f0 f1 f2 f3 f4 f5 f6 f7 f8 r0 r1 r2 r3 r4 r5 r6 r7 r8 r9 g0 g1 g2 g3 g4 g5 g6 g7 g8 g9 j0 j1 j2 j3 j4
        refine (l07Lost_any lim 2 A B C D (coast + 1) (fr + 1) a L.length cap _).mono ?_
        rintro e w6 ⟨rfl, hx⟩
        have R6 := hide ((((unhide R5).other ⟨w2.heap.size, 2, none⟩ (.int .i64 2) (show w.heap.size + 1 ≠ w2.heap.size by omega)).other ⟨w2.heap.size, 7, none⟩ (.int .i64 (coast + 1)) (show w.heap.size + 1 ≠ w2.heap.size by omega)).kept hx)
        have T6 := hide ((((unhide T5).set 2 (.int .i64 2)).set 7 (.int .i64 (coast + 1))).kept hx)
        have C6 := hide ((((unhide C5).off (fun y e => Nat.ne_of_lt (hcb y e)) 2 (.int .i64 2)).off (fun y e => Nat.ne_of_lt (hcb y e)) 7 (.int .i64 (coast + 1))).kept hx)
        have B6 := hide (below_call (belowSet (belowSet (unhide B5) (show w.heap.size ≤ w2.heap.size by omega) 2 (.int .i64 2)) (show w.heap.size ≤ w2.heap.size by omega) 7 (.int .i64 (coast + 1))) hx)
        clear hx
        have s0 := (unhide T6).cell 0 _ rfl
        have s1 := (unhide T6).cell 1 _ rfl
        have s2 := (unhide T6).cell 2 _ rfl
        have s3 := (unhide T6).cell 3 _ rfl
        have s4 := (unhide T6).cell 4 _ rfl
        have s5 := (unhide T6).cell 5 _ rfl
        have s6 := (unhide T6).cell 6 _ rfl
        have s7 := (unhide T6).cell 7 _ rfl
        have s8 := (unhide T6).cell 8 _ rfl
        have f0 := (unhide T6).free 0
        have f1 := (unhide T6).free 1
        have f2 := (unhide T6).free 2
        have f3 := (unhide T6).free 3
        have f4 := (unhide T6).free 4
        have f5 := (unhide T6).free 5
        have f6 := (unhide T6).free 6
        have f7 := (unhide T6).free 7
        have f8 := (unhide T6).free 8
        have r0 := (unhide R6).cell 0 _ rfl
        have r1 := (unhide R6).cell 1 _ rfl
        have r2 := (unhide R6).cell 2 _ rfl
        have r3 := (unhide R6).cell 3 _ rfl
        have r4 := (unhide R6).cell 4 _ rfl
        have r5 := (unhide R6).cell 5 _ rfl
        have r6 := (unhide R6).cell 6 _ rfl
        have r7 := (unhide R6).cell 7 _ rfl
        have r8 := (unhide R6).cell 8 _ rfl
        have r9 := (unhide R6).cell 9 _ rfl
        have g0 := (unhide R6).free 0
        have g1 := (unhide R6).free 1
        have g2 := (unhide R6).free 2
        have g3 := (unhide R6).free 3
        have g4 := (unhide R6).free 4
        have g5 := (unhide R6).free 5
        have g6 := (unhide R6).free 6
        have g7 := (unhide R6).free 7
        have g8 := (unhide R6).free 8
        have g9 := (unhide R6).free 9
        go_wp2_with fail
        clear s0 s1 s2 s3 s4 s5 s6 s7 s8 f0 f1 f2 f3 f4 f5 f6 f7 f8 r0 r1 r2 r3 r4 r5 r6 r7 r8 r9 g0 g1 g2 g3 g4 g5 g6 g7 g8 g9
        rw [unhide HO]
        refine bodyPost_ret (v := .agg #[.slice a L.length cap, .int .i64 lim, .int .i64 0, .int .i64 0, .int .i64 0, .int .i64 0, .int .i64 0, .int .i64 0, .int .i64 (fr + 1), .int .i64 0]) ?_ rfl ⟨⟨a, cap, rfl, ?_⟩, ?_⟩
        · refine res_slook7 _ _ (w.heap.size + 1) _ lim 0 0 0 0 0 0 (fr + 1) 0 rfl (tkO_blk (t := 35) (blk_set10 (L := [.slice none 0 0, .int .i64 0, .int .i64 0, .int .i64 0, .int .i64 0, .int .i64 0, .int .i64 0, .int .i64 0, .int .i64 0, .int .i64 0]) (t := 35) ?_ rfl _ lim 0 0 0 0 0 0 (fr + 1) 0))
          iterate 9 (refine Blk.other ?_ _ _ (show w.heap.size + 1 ≠ w2.heap.size by omega))
          exact unhide R6
        · refine Copied.low (B := w.heap.size + 1 + 1) ?_ (by omega)
          iterate 10 (refine Copied.far ?_ (Nat.lt_succ_self (w.heap.size + 1)) _ _)
          iterate 9 (refine Copied.off ?_ (fun y e => Nat.ne_of_lt (hcb y e)) _ _)
          exact unhide C6
        · iterate 10 (refine belowSet ?_ (show w.heap.size ≤ w.heap.size + 1 by omega) _ _)
          iterate 9 (refine belowSet ?_ (show w.heap.size ≤ w2.heap.size by omega) _ _)
          exact unhide B6
      · have HO : Hid (lookR ⟨L, lim, mode, A, B, C, D, coast, fr⟩ S = ⟨L, lim, 2, A, B, C, D, coast + 1, fr + 1⟩) := hide (by rw [unhide hO3 hneg h4]; unfold unseenT; dsimp only; rw [if_neg h1, if_neg hlc])
        go_wp2_with fail
        clear q0 q1 q2 q3 q4 q5 q6 q7 q8 s0 s1 s2 s3 s4 s5 s6 s7 s8 f0 f1 f2 f3 f4 f5 f6 f7 f8 r0 r1 r2 r3 r4 r5 r6 r7 r8 r9 g0 g1 g2 g3 g4 g5 g6 g7 g8 g9 j0 j1 j2 j3 j4
        rw [unhide HO]
        refine bodyPost_ret (v := .agg #[.slice a L.length cap, .int .i64 lim, .int .i64 2, .int .i64 A, .int .i64 B, .int .i64 C, .int .i64 D, .int .i64 (coast + 1), .int .i64 (fr + 1), .int .i64 0]) ?_ rfl ⟨⟨a, cap, rfl, ?_⟩, ?_⟩
        · refine res_slook7 _ _ (w.heap.size + 1) _ lim 2 A B C D (coast + 1) (fr + 1) 0 rfl (tkO_blk (t := 35) (blk_set10 (L := [.slice none 0 0, .int .i64 0, .int .i64 0, .int .i64 0, .int .i64 0, .int .i64 0, .int .i64 0, .int .i64 0, .int .i64 0, .int .i64 0]) (t := 35) ?_ rfl _ lim 2 A B C D (coast + 1) (fr + 1) 0))
          iterate 2 (refine Blk.other ?_ _ _ (show w.heap.size + 1 ≠ w2.heap.size by omega))
          exact unhide R5
        · refine Copied.low (B := w.heap.size + 1 + 1) ?_ (by omega)
          iterate 10 (refine Copied.far ?_ (Nat.lt_succ_self (w.heap.size + 1)) _ _)
          iterate 2 (refine Copied.off ?_ (fun y e => Nat.ne_of_lt (hcb y e)) _ _)
          exact unhide C5
        · iterate 10 (refine belowSet ?_ (show w.heap.size ≤ w.heap.size + 1 by omega) _ _)
          iterate 2 (refine belowSet ?_ (show w.heap.size ≤ w2.heap.size by omega) _ _)
          exact unhide B5
  · have htc := unhide hTN h3
    clear cF4
    have r0 := (unhide R4).cell 0 _ rfl
    have r1 := (unhide R4).cell 1 _ rfl
    have r2 := (unhide R4).cell 2 _ rfl
    have r3 := (unhide R4).cell 3 _ rfl
    have r4 := (unhide R4).cell 4 _ rfl
    have r5 := (unhide R4).cell 5 _ rfl
    have r6 := (unhide R4).cell 6 _ rfl
    have r7 := (unhide R4).cell 7 _ rfl
    have r8 := (unhide R4).cell 8 _ rfl
    have r9 := (unhide R4).cell 9 _ rfl
    have g0 := (unhide R4).free 0
    have g1 := (unhide R4).free 1
    have g2 := (unhide R4).free 2
    have g3 := (unhide R4).free 3
    have g4 := (unhide R4).free 4
    have g5 := (unhide R4).free 5
    have g6 := (unhide R4).free 6
    have g7 := (unhide R4).free 7
    have g8 := (unhide R4).free 8
    have g9 := (unhide R4).free 9
    by_cases hlc : lim < coast + 1
    · have HO : Hid (lookR ⟨L, lim, mode, A, B, C, D, coast, fr⟩ S = ⟨L, lim, 0, 0, 0, 0, 0, 0, fr + 1⟩) := hide (by rw [unhide hO3 hneg htc]; unfold unseenT; dsimp only; rw [if_neg h1, if_pos hlc]; rfl)
      go_wp2_with fail
      clear q0 q1 q2 q3 q4 q5 q6 q7 q8 s0 s1 s2 s3 s4 s5 s6 s7 s8 f0 f1 f2 f3 f4 f5 f6 f7 f8 r0 r1 r2 r3 r4 r5 r6 r7 r8 r9 g0 g1 g2 g3 g4 g5 g6 g7 g8 g9 j0 j1 j2
      refine (l07Lost_any lim 2 A B C D (coast + 1) (fr + 1) a L.length cap _).mono ?_
      rintro e w6 ⟨rfl, hx⟩
      have R6 := hide ((((unhide R4).other ⟨w2.heap.size, 2, none⟩ (.int .i64 2) (show w.heap.size + 1 ≠ w2.heap.size by omega)).other ⟨w2.heap.size, 7, none⟩ (.int .i64 (coast + 1)) (show w.heap.size + 1 ≠ w2.heap.size by omega)).kept hx)
      have T6 := hide ((((unhide T4).set 2 (.int .i64 2)).set 7 (.int .i64 (coast + 1))).kept hx)
      have C6 := hide ((((unhide C4).off (fun y e => Nat.ne_of_lt (hcb y e)) 2 (.int .i64 2)).off (fun y e => Nat.ne_of_lt (hcb y e)) 7 (.int .i64 (coast + 1))).kept hx)
      have B6 := hide (below_call (belowSet (belowSet (unhide B4) (show w.heap.size ≤ w2.heap.size by omega) 2 (.int .i64 2)) (show w.heap.size ≤ w2.heap.size by omega) 7 (.int .i64 (coast + 1))) hx)
      clear hx
      have s0 := (unhide T6).cell 0 _ rfl
      have s1 := (unhide T6).cell 1 _ rfl
      have s2 := (unhide T6).cell 2 _ rfl
      have s3 := (unhide T6).cell 3 _ rfl
      have s4 := (unhide T6).cell 4 _ rfl
      have s5 := (unhide T6).cell 5 _ rfl
      have s6 := (unhide T6).cell 6 _ rfl
      have s7 := (unhide T6).cell 7 _ rfl
      have s8 := (unhide T6).cell 8 _ rfl
      have f0 := (unhide T6).free 0
      have f1 := (unhide T6).free 1
      have f2 := (unhide T6).free 2
      have f3 := (unhide T6).free 3
      have f4 := (unhide T6).free 4
      have f5 := (unhide T6).free 5
      have f6 := (unhide T6).free 6
      have f7 := (unhide T6).free 7
      have f8 := (unhide T6).free 8
      have r0 := (unhide R6).cell 0 _ rfl
      have r1 := (unhide R6).cell 1 _ rfl
      have r2 := (unhide R6).cell 2 _ rfl
      have r3 := (unhide R6).cell 3 _ rfl
      have r4 := (unhide R6).cell 4 _ rfl
      have r5 := (unhide R6).cell 5 _ rfl
      have r6 := (unhide R6).cell 6 _ rfl
      have r7 := (unhide R6).cell 7 _ rfl
      have r8 := (unhide R6).cell 8 _ rfl
      have r9 := (unhide R6).cell 9 _ rfl
      have g0 := (unhide R6).free 0
      have g1 := (unhide R6).free 1
      have g2 := (unhide R6).free 2
      have g3 := (unhide R6).free 3
      have g4 := (unhide R6).free 4
      have g5 := (unhide R6).free 5
      have g6 := (unhide R6).free 6
      have g7 := (unhide R6).free 7
      have g8 := (unhide R6).free 8
      have g9 := (unhide R6).free 9
      go_wp2_with fail
      clear s0 s1 s2 s3 s4 s5 s6 s7 s8 f0 f1 f2 f3 f4 f5 f6 f7 f8 r0 r1 r2 r3 r4 r5 r6 r7 r8 r9 g0 g1 g2 g3 g4 g5 g6 g7 g8 g9
      rw [unhide HO]
      refine bodyPost_ret (v := .agg #[.slice a L.length cap, .int .i64 lim, .int .i64 0, .int .i64 0, .int .i64 0, .int .i64 0, .int .i64 0, .int .i64 0, .int .i64 (fr + 1), .int .i64 0]) ?_ rfl ⟨⟨a, cap, rfl, ?_⟩, ?_⟩
      · refine res_slook7 _ _ (w.heap.size + 1) _ lim 0 0 0 0 0 0 (fr + 1) 0 rfl (tkO_blk (t := 35) (blk_set10 (L := [.slice none 0 0, .int .i64 0, .int .i64 0, .int .i64 0, .int .i64 0, .int .i64 0, .int .i64 0, .int .i64 0, .int .i64 0, .int .i64 0]) (t := 35) ?_ rfl _ lim 0 0 0 0 0 0 (fr + 1) 0))
        iterate 9 (refine Blk.other ?_ _ _ (show w.heap.size + 1 ≠ w2.heap.size by omega))
        exact unhide R6
      · refine Copied.low (B := w.heap.size + 1 + 1) ?_ (by omega)
        iterate 10 (refine Copied.far ?_ (Nat.lt_succ_self (w.heap.size + 1)) _ _)
        iterate 9 (refine Copied.off ?_ (fun y e => Nat.ne_of_lt (hcb y e)) _ _)
        exact unhide C6
      · iterate 10 (refine belowSet ?_ (show w.heap.size ≤ w.heap.size + 1 by omega) _ _)
        iterate 9 (refine belowSet ?_ (show w.heap.size ≤ w2.heap.size by omega) _ _)
        exact unhide B6
    · have HO : Hid (lookR ⟨L, lim, mode, A, B, C, D, coast, fr⟩ S = ⟨L, lim, 2, A, B, C, D, coast + 1, fr + 1⟩) := hide (by rw [unhide hO3 hneg htc]; unfold unseenT; dsimp only; rw [if_neg h1, if_neg hlc])
      go_wp2_with fail
      clear q0 q1 q2 q3 q4 q5 q6 q7 q8 s0 s1 s2 s3 s4 s5 s6 s7 s8 f0 f1 f2 f3 f4 f5 f6 f7 f8 r0 r1 r2 r3 r4 r5 r6 r7 r8 r9 g0 g1 g2 g3 g4 g5 g6 g7 g8 g9 j0 j1 j2
      rw [unhide HO]
      refine bodyPost_ret (v := .agg #[.slice a L.length cap, .int .i64 lim, .int .i64 2, .int .i64 A, .int .i64 B, .int .i64 C, .int .i64 D, .int .i64 (coast + 1), .int .i64 (fr + 1), .int .i64 0]) ?_ rfl ⟨⟨a, cap, rfl, ?_⟩, ?_⟩
      · refine res_slook7 _ _ (w.heap.size + 1) _ lim 2 A B C D (coast + 1) (fr + 1) 0 rfl (tkO_blk (t := 35) (blk_set10 (L := [.slice none 0 0, .int .i64 0, .int .i64 0, .int .i64 0, .int .i64 0, .int .i64 0, .int .i64 0, .int .i64 0, .int .i64 0, .int .i64 0]) (t := 35) ?_ rfl _ lim 2 A B C D (coast + 1) (fr + 1) 0))
        iterate 2 (refine Blk.other ?_ _ _ (show w.heap.size + 1 ≠ w2.heap.size by omega))
        exact unhide R4
      · refine Copied.low (B := w.heap.size + 1 + 1) ?_ (by omega)
        iterate 10 (refine Copied.far ?_ (Nat.lt_succ_self (w.heap.size + 1)) _ _)
        iterate 2 (refine Copied.off ?_ (fun y e => Nat.ne_of_lt (hcb y e)) _ _)
        exact unhide C4
      · iterate 10 (refine belowSet ?_ (show w.heap.size ≤ w.heap.size + 1 by omega) _ _)
        iterate 2 (refine belowSet ?_ (show w.heap.size ≤ w2.heap.size by omega) _ _)
        exact unhide B4
end Go.Proofs.YtjdehbpgdplolaaGreatDoor
