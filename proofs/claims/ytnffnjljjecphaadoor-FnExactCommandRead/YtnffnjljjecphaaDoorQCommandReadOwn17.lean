/- Several texts in one: CrE, Place, ReadE, ReadF, SkyL. -/
import Derived.Deep.RegionHeld
import Derived.Deep.DeepCutAuto
import Derived.Test.YtnffnjljjecphaaDoorQCommandReadOwn16
import Derived.Test.YtnffnjljjecphaaDoorQCommandReadOwn3
import Derived.Test.YtnffnjljjecphaaDoorQCommandReadOwn10
import Derived.Test.YtnffnjljjecphaaDoorQCommandReadOwn11
import Derived.Test.YtnffnjljjecphaaDoorQCommandReadOwn12
namespace Go.Proofs.YtnffnjljjecphaaDoor
open Go.RowKit Go.Sort
set_option linter.unusedVariables false
set_option linter.unusedSimpArgs false

/-- what CommandRead answers: a command of its own memory, and a code -/
def OutCr (w' : World) (B : Nat) (c : Cm) (code : Int) (e : Ending) : Prop := ∃ v, e = .returned (.agg #[.int .i64 c.kind, .int .i64 c.A, .int .i64 c.B, .int .i64 c.C, .int .i64 c.D, v, .int .i64 c.wd, .int .i64 c.ht, .string c.px, .int .i64 c.lv, .int .i64 c.fo, .int .i64 code]) ∧ w'.ownsRow B 75 3 v c.S.length (flatD c.S)
theorem outCr_zero (w' : World) (B : Nat) (code : Int) : OutCr w' B zeroCm code (.returned (.agg #[.int .i64 0, .int .i64 0, .int .i64 0, .int .i64 0, .int .i64 0, .slice none 0 0, .int .i64 0, .int .i64 0, .string ⟨#[]⟩, .int .i64 0, .int .i64 0, .int .i64 code])) := ⟨_, rfl, World.ownsRow_nil _ _ _ _⟩
theorem blk_set12 {w : World} {b : Nat} {L : List Value} {t : TypeId} (h : Blk w b L t) (hl : L.length = 12) (y0 y1 y2 y3 y4 y5 y6 y7 y8 y9 y10 y11 : Value) : Blk (((((((((((((w).setCell ⟨b, 0, none⟩ (y0)).setCell ⟨b, 1, none⟩ (y1)).setCell ⟨b, 2, none⟩ (y2)).setCell ⟨b, 3, none⟩ (y3)).setCell ⟨b, 4, none⟩ (y4)).setCell ⟨b, 5, none⟩ (y5)).setCell ⟨b, 6, none⟩ (y6)).setCell ⟨b, 7, none⟩ (y7)).setCell ⟨b, 8, none⟩ (y8)).setCell ⟨b, 9, none⟩ (y9)).setCell ⟨b, 10, none⟩ (y10)).setCell ⟨b, 11, none⟩ (y11)) b [y0, y1, y2, y3, y4, y5, y6, y7, y8, y9, y10, y11] t := by
  match L, hl with
  | [x0, x1, x2, x3, x4, x5, x6, x7, x8, x9, x10, x11], _ => exact (((((((((((h.set 0 _).set 1 _).set 2 _).set 3 _).set 4 _).set 5 _).set 6 _).set 7 _).set 8 _).set 9 _).set 10 _).set 11 _
theorem res_cread (T : Array Value) (X : World) (b : Nat) (c : Cm) (v : Value) (k : Int) (hT : T.getD 2 undef = .pointer (some ⟨b, 0, none⟩)) (h : Blk X b [.int .i64 c.kind, .int .i64 c.A, .int .i64 c.B, .int .i64 c.C, .int .i64 c.D, v, .int .i64 c.wd, .int .i64 c.ht, .string c.px, .int .i64 c.lv, .int .i64 c.fo, .int .i64 k] 41) : (results Tryd.f15 T).run Tryd.prog X = .ok (.agg #[.int .i64 c.kind, .int .i64 c.A, .int .i64 c.B, .int .i64 c.C, .int .i64 c.D, v, .int .i64 c.wd, .int .i64 c.ht, .string c.px, .int .i64 c.lv, .int .i64 c.fo, .int .i64 k]) X := by

  have h0 := h.cell 0 _ rfl
  have h1 := h.cell 1 _ rfl
  have h2 := h.cell 2 _ rfl
  have h3 := h.cell 3 _ rfl
  have h4 := h.cell 4 _ rfl
  have h5 := h.cell 5 _ rfl
  have h6 := h.cell 6 _ rfl
  have h7 := h.cell 7 _ rfl
  have h8 := h.cell 8 _ rfl
  have h9 := h.cell 9 _ rfl
  have h10 := h.cell 10 _ rfl
  have h11 := h.cell 11 _ rfl
  simp only [Array.getD_eq_getD_getElem?] at hT
  simp [results, Tryd.results15, go_sem, hT, h0, h1, h2, h3, h4, h5, h6, h7, h8, h9, h10, h11]
theorem catchC_panicking (b : Nat) (L : List Value) (u : TypeId) (pv : Value) (older : List PanicEntry) (w : World) (hl : L.length = 12) (hB : Blk w b L 41) :
    CallsD Tryd.prog 52 #[.pointer (some ⟨b, 0, none⟩)] (.panicking ({ v := .iface u pv, recovered := false } :: older)) w fun e u' w' =>
      e = .returned (.tuple #[]) ∧ u' = .panicking ({ v := .iface u pv, recovered := true } :: older) ∧ w' = ((((((((((((w).setCell ⟨b, 0, none⟩ (.int .i64 0)).setCell ⟨b, 1, none⟩ (.int .i64 0)).setCell ⟨b, 2, none⟩ (.int .i64 0)).setCell ⟨b, 3, none⟩ (.int .i64 0)).setCell ⟨b, 4, none⟩ (.int .i64 0)).setCell ⟨b, 5, none⟩ (.slice none 0 0)).setCell ⟨b, 6, none⟩ (.int .i64 0)).setCell ⟨b, 7, none⟩ (.int .i64 0)).setCell ⟨b, 8, none⟩ (.string ⟨#[]⟩)).setCell ⟨b, 9, none⟩ (.int .i64 0)).setCell ⟨b, 10, none⟩ (.int .i64 0)).setCell ⟨b, 11, none⟩ (.int .i64 3) := by
  obtain ⟨x0, x1, x2, x3, x4, x5, x6, x7, x8, x9, x10, x11, rfl⟩ : ∃ x0 x1 x2 x3 x4 x5 x6 x7 x8 x9 x10 x11, L = [x0, x1, x2, x3, x4, x5, x6, x7, x8, x9, x10, x11] := by
    match L, hl with
    | [x0, x1, x2, x3, x4, x5, x6, x7, x8, x9, x10, x11], _ => exact ⟨x0, x1, x2, x3, x4, x5, x6, x7, x8, x9, x10, x11, rfl⟩
  have h0 := hB.cell 0 _ rfl
  have f0 := hB.free 0
  have h1 := hB.cell 1 _ rfl
  have f1 := hB.free 1
  have h2 := hB.cell 2 _ rfl
  have f2 := hB.free 2
  have h3 := hB.cell 3 _ rfl
  have f3 := hB.free 3
  have h4 := hB.cell 4 _ rfl
  have f4 := hB.free 4
  have h5 := hB.cell 5 _ rfl
  have f5 := hB.free 5
  have h6 := hB.cell 6 _ rfl
  have f6 := hB.free 6
  have h7 := hB.cell 7 _ rfl
  have f7 := hB.free 7
  have h8 := hB.cell 8 _ rfl
  have f8 := hB.free 8
  have h9 := hB.cell 9 _ rfl
  have f9 := hB.free 9
  have h10 := hB.cell 10 _ rfl
  have f10 := hB.free 10
  have h11 := hB.cell 11 _ rfl
  have f11 := hB.free 11
  refine callsD_of_wpS Tryd.func52 rfl fun c₀ cs hu => ?_
  apply wpS_seq
  apply wpS_region
  simp [wpOpsS, go_sem, recoverD, hu, Tryd.ntmps52, Exit.thenS]
  refine wpS_cond (t := true) (by simp [Act.eval, Array.replicate]) ?_
  simp only [if_true]
  apply wpS_region
  simp [wpOpsS, go_sem, h0, f0, h1, f1, h2, f2, h3, f3, h4, f4, h5, f5, h6, f6, h7, f7, h8, f8, h9, f9, h10, f10, h11, f11, bodyPostS, results, Tryd.results52]
theorem catchC_idle (b : Nat) (w : World) :
    CallsD Tryd.prog 52 #[.pointer (some ⟨b, 0, none⟩)] .returning w fun e u' w' => e = .returned (.tuple #[]) ∧ u' = .returning ∧ w' = w := by
  refine callsD_of_wpS Tryd.func52 rfl fun c₀ cs hu => ?_
  apply wpS_seq
  apply wpS_region
  simp [wpOpsS, go_sem, recoverD, hu, Tryd.ntmps52, Exit.thenS]
  refine wpS_cond (t := false) (by simp [Act.eval, Array.replicate]) ?_
  simp only [Bool.false_eq_true, if_false]
  refine wpS_of_wp (wp_skip ?_)
  cases c₀
  simp_all [bodyPostS, results, Tryd.results52]

theorem readCm_len {t : ByteArray} {c : Cm} {q : Nat} (h : readCm t = some (c, q)) : c.S.length ≤ 6 := by
  unfold readCm at h
  split at h
  · cases h
  · rename_i kd q1 h1
    split at h
    · split at h
      · cases h
      · simp at h; obtain ⟨rfl, _⟩ := h; simp
    · split at h
      · split at h
        · cases h
        · rename_i m q2 h2
          split at h
          · rename_i hm
            split at h
            · cases h
            · rename_i S q3 h3
              have e3 := readVs_le (scanN_le h2).2 _ h3
              simp at h
              obtain ⟨rfl, _⟩ := h
              show S.length ≤ 6
              omega
          · cases h
      · split at h
        · split at h
          · cases h
          · split at h
            · cases h
            · simp at h; obtain ⟨rfl, _⟩ := h; simp
        · simp at h; obtain ⟨rfl, _⟩ := h; simp
theorem dirs_own {w : World} {B : Nat} {S : List D3} {a : Option Addr} {k : Nat} (h : w.ownsRow B 75 3 (.slice a S.length k) S.length (flatD S)) : Dirs w a S S.length ∧ (S.length ≤ k ∧ k ≤ maxLen ∨ S.length = 0 ∧ k = 0) := by
  rcases h.2 with ⟨h1, h0⟩ | ⟨g, cap, cur, e, hb, hg, h1, h2, h3, h4⟩
  · injection h1 with e1 e2 e3
    exact ⟨.inl h0, .inr ⟨h0, e3⟩⟩
  · injection e with e1 e2 e3
    subst e1 e3
    refine ⟨.inr ⟨g, 0, rfl, (Array.getElem?_eq_some_iff.1 hg).1, fun i hi => ?_⟩, .inl ⟨h1, h2⟩⟩
    have hf : ∀ (S : List D3) (i : Nat), i < S.length → (flatD S)[i * 3]? = some (.int .i64 (vA S i).1) ∧ (flatD S)[i * 3 + 1]? = some (.int .i64 (vA S i).2.1) ∧ (flatD S)[i * 3 + 2]? = some (.int .i64 (vA S i).2.2) := by
      intro S
      induction S with
      | nil => intro i hi; simp at hi
      | cons x S ih =>
        intro i hi
        have ex : flatD (x :: S) = vec3D x ++ flatD S := by unfold flatD; simp
        rw [ex]
        cases i with
        | zero => exact ⟨rfl, rfl, rfl⟩
        | succ i =>
          have hv : vA (x :: S) (i + 1) = vA S i := by unfold vA; simp
          rw [hv]
          have hl : (vec3D x).length = 3 := rfl
          have := ih i (by simpa using hi)
          refine ⟨?_, ?_, ?_⟩
          · rw [List.getElem?_append_right (by omega), hl, show (i + 1) * 3 - 3 = i * 3 by omega]; exact this.1
          · rw [List.getElem?_append_right (by omega), hl, show (i + 1) * 3 + 1 - 3 = i * 3 + 1 by omega]; exact this.2.1
          · rw [List.getElem?_append_right (by omega), hl, show (i + 1) * 3 + 2 - 3 = i * 3 + 2 by omega]; exact this.2.2
    obtain ⟨g0, g1, g2⟩ := hf S i hi
    have cl : ∀ j u, j < S.length * 3 → (flatD S)[j]? = some u → w.cell? ⟨g, j, none⟩ = some u := by
      intro j u hj hu
      rw [cell_of_row w g j cur _ _ hg]
      rw [← h4, List.getElem?_take, if_pos hj] at hu
      simpa using hu
    rw [Nat.zero_add]
    exact ⟨cl _ _ (by omega) g0, cl _ _ (by omega) g1, cl _ _ (by omega) g2⟩
theorem loop_ne (b : ByteArray) : ∀ (n i : Nat) (r : List UInt8), b.size - i = n → r ≠ [] → ByteArray.toList.loop b i r ≠ []
  | n, i, r, hn, hr => by
    unfold ByteArray.toList.loop
    split
    · cases n with
      | zero => omega
      | succ n => exact loop_ne b n (i + 1) _ (by omega) (by simp)
    · simpa using hr
theorem size_of_nil {b : ByteArray} (h : b.toList = []) : b.size = 0 := by
  by_cases hz : b.size = 0
  · exact hz
  · exfalso
    unfold ByteArray.toList at h
    unfold ByteArray.toList.loop at h
    rw [if_pos (by omega)] at h
    exact loop_ne b _ _ _ rfl (by simp) h
theorem bare_eq {wd ht lv fo : Int} {px : ByteArray} (h : fr0 wd ht px = true) (h1 : decide (lv = 0) = true) (h2 : decide (fo = 0) = true) : wd = 0 ∧ ht = 0 ∧ px = ⟨#[]⟩ ∧ lv = 0 ∧ fo = 0 := by
  unfold fr0 at h
  simp only [Bool.and_eq_true, decide_eq_true_eq] at h h1 h2
  refine ⟨h.1.1, h.1.2, ?_, h1, h2⟩
  apply ext_byte
  · exact size_of_nil h.2
  · intro j hj
    have := size_of_nil h.2
    omega
/-- the command that a right one's wish is of is that one -/
theorem wish_back {c : Cm} (h : cmdB c = true) (a : Option Addr) (k : Nat) (W : World) :
    ∃ bt bv bf, wishV c.kind c.A c.B c.C c.D (.slice a c.S.length k) c.wd c.ht c.px c.lv c.fo = .iface bt bv ∧ (∀ W : World, (method 323 bt bv "loop.example/g00577/impl.command").run Tryd.prog W = .ok (bf, bv) W) ∧ (∀ W : World, (callFunc bf #[bv]).run Tryd.prog W = .ok (.enter bf #[bv]) W) ∧ ∃ v2, (v2 = .slice a c.S.length k ∨ (v2 = .slice none 0 0 ∧ c.S = [])) ∧ ∀ W : World, Calls Tryd.prog bf #[bv] W fun e w' => e = .returned (.agg #[.int .i64 c.kind, .int .i64 c.A, .int .i64 c.B, .int .i64 c.C, .int .i64 c.D, v2, .int .i64 c.wd, .int .i64 c.ht, .string c.px, .int .i64 c.lv, .int .i64 c.fo]) ∧ Below W.heap.size W w' := by
  obtain ⟨kind, A, B, C, D, S, wd, ht, px, lv, fo⟩ := c
  have hn0 : ∀ S : List D3, noS S = true → S = [] := fun S hs => by unfold noS at hs; exact List.eq_nil_of_length_eq_zero (of_decide_eq_true hs)
  have ht0 : ∀ {a b c d : Int}, eqT a b c d 0 0 0 0 = true → a = 0 ∧ b = 0 ∧ c = 0 ∧ d = 0 := fun h => by unfold eqT at h; exact of_decide_eq_true h
  rcases right_n h with e | e | e | e
  · obtain rfl : kind = 1 := e
    rw [cmd_1 rfl] at h
    unfold tz bareB at h
    simp only [Bool.and_eq_true] at h
    obtain ⟨rfl, rfl, rfl, rfl⟩ := ht0 h.1.1
    obtain rfl := hn0 S h.1.2
    obtain ⟨rfl, rfl, rfl, rfl, rfl⟩ := bare_eq h.2.1.1 h.2.1.2 h.2.2
    exact ⟨_, _, 146, rfl, fun _ => by kernel_rfl, fun _ => by kernel_rfl, _, .inr ⟨rfl, rfl⟩, fun W => resetCmd_any W⟩
  · obtain rfl : kind = 2 := e
    rw [cmd_2 rfl] at h
    unfold bareB at h
    simp only [Bool.and_eq_true] at h
    obtain rfl := hn0 S h.1.2
    obtain ⟨rfl, rfl, rfl, rfl, rfl⟩ := bare_eq h.2.1.1 h.2.1.2 h.2.2
    exact ⟨_, _, 148, rfl, fun _ => by kernel_rfl, fun _ => by kernel_rfl, _, .inr ⟨rfl, rfl⟩, fun W => gyroCmd_any A B C D W⟩
  · obtain rfl : kind = 3 := e
    rw [cmd_3 rfl] at h
    unfold tz bareB at h
    simp only [Bool.and_eq_true] at h
    obtain ⟨rfl, rfl, rfl, rfl⟩ := ht0 h.1.1
    obtain ⟨rfl, rfl, rfl, rfl, rfl⟩ := bare_eq h.2.1.1 h.2.1.2 h.2.2
    exact ⟨_, _, 150, rfl, fun _ => by kernel_rfl, fun _ => by kernel_rfl, _, .inl rfl, fun W => lookCmd_any a S.length k W⟩
  · obtain rfl : kind = 4 := e
    rw [cmd_4 rfl] at h
    unfold tz at h
    simp only [Bool.and_eq_true] at h
    obtain ⟨rfl, rfl, rfl, rfl⟩ := ht0 h.1.1.1.1
    obtain rfl := hn0 S h.1.1.1.2
    exact ⟨_, _, 152, rfl, fun _ => by kernel_rfl, fun _ => by kernel_rfl, _, .inr ⟨rfl, rfl⟩, fun W => frameCmd_any wd ht lv fo px W⟩

set_option maxHeartbeats 8000000 in
set_option maxRecDepth 100000 in
theorem implCommandRead_any (s : ByteArray) (p : Addr) (w : World) (hs : s.size ≤ 1048576) (hE : ErrCmd p w) :
    Calls Tryd.prog 15 #[.string s] w fun e w' => OutCr w' w.heap.size (crCm s) (crCode s) e ∧ Below w.heap.size w w' := by
  have B0 := hide (below1 w (.cells #[.int .i64 0, .int .i64 0, .int .i64 0, .int .i64 0, .int .i64 0, .slice none 0 0, .int .i64 0, .int .i64 0, .string ⟨#[]⟩, .int .i64 0, .int .i64 0, .int .i64 0] 41))
  have R0 := hide (blk_new w [.int .i64 0, .int .i64 0, .int .i64 0, .int .i64 0, .int .i64 0, .slice none 0 0, .int .i64 0, .int .i64 0, .string ⟨#[]⟩, .int .i64 0, .int .i64 0, .int .i64 0] 41)
  have HE := hide hE
  clear hE
  have hmf : ∀ (fn : Fn) (first cap : Array Value) (w : World), (Instr.makeFunc fn first cap).run Tryd.prog w = .ok (.func fn first cap) w := fun _ _ _ _ => rfl
  go_enter_defers Tryd.func15, Tryd.ntmps15
  go_wp2_with fail
  refine (unseal_any s _ hs).mono ?_
  rintro e w1 ⟨rfl, hx⟩
  have Z := below1 w1 (.cells #[.string (unT s), .int .i64 0, .int .i64 (unC s)] 80)
  have B1 := hide (below_call (below_call (unhide B0) hx) Z)
  have R1 := hide (((unhide R0).kept hx).kept Z)
  have T1 := hide (blk_new w1 [.string (unT s), .int .i64 0, .int .i64 (unC s)] 80)
  have hrl := (unhide R1).lt
  clear hx Z B0 R0
  by_cases hu : unC s = 0
  · have hz := (unT_size hu).1
    have cR := hide (readCommand_any (unT s) p _ (by omega) ((unhide HE).kept (unhide B1)))
    have q0 := (unhide T1).cell 0 _ rfl
    have q1 := (unhide T1).cell 1 _ rfl
    have q2 := (unhide T1).cell 2 _ rfl
    rw [hu] at q2
    have hK : Hid (crCode s = (match readCm (unT s) with | none => 3 | some (c, q) => if q = (unT s).size ∧ cmdB c = true then 0 else 3)) := hide (by unfold crCode; rw [if_pos hu]; rfl)
    have hC : Hid (crCm s = (match readCm (unT s) with | none => zeroCm | some (c, q) => if q = (unT s).size ∧ cmdB c = true then c else zeroCm)) := hide (by unfold crCm; rw [if_pos hu]; rfl)
    rw [hu] at B1 R1 T1 cR hrl ⊢
    go_wp2_with fail
    clear q0 q1 q2
    refine (unhide cR).mono ?_
    rintro e w2 ⟨hend, hx⟩
    have B2 := hide (below_call (unhide B1) hx)
    have R2 := hide ((unhide R1).kept hx)
    have hsz2 := hx.size
    clear cR hx B1 R1 T1
    unfold RcEnd at hend
    cases hr : readCm (unT s) with
    | none =>
      rw [hr] at hend hK hC
      have he : e = noCmd p := hend
      subst he
      have hcc : crCm s = zeroCm ∧ crCode s = 3 := ⟨unhide hC, unhide hK⟩
      have HCC := hide hcc
      clear hcc
      unfold noCmd
      go_wp2_with fail
      refine leaves_cons (f := 52) (args := #[.pointer (some ⟨w.heap.size, 0, none⟩)]) (by simp) (by simp [go_sem]) ?_
      refine (catchC_panicking w.heap.size _ _ _ [] _ rfl (unhide R2)).mono ?_
      rintro e u' w'' ⟨rfl, rfl, hw⟩
      subst hw
      refine ⟨_, res_cread _ _ w.heap.size zeroCm (.slice none 0 0) 3 rfl (blk_set12 (unhide R2) rfl _ _ _ _ _ _ _ _ _ _ _ _), ?_, ?_⟩
      · rw [(unhide HCC).1, (unhide HCC).2]
        exact outCr_zero _ _ 3
      · iterate 12 (refine belowSetC ?_ (Nat.le_refl w.heap.size) _ _)
        exact unhide B2
    | some y =>
      obtain ⟨c, q⟩ := y
      rw [hr] at hend hK hC
      dsimp only at hend hK hC
      by_cases hq : q = (unT s).size
      · rw [if_pos hq] at hend
        obtain ⟨v, he, hown⟩ := hend
        obtain ⟨va, vc, rfl⟩ := own_formC hown
        subst he
        obtain ⟨hdir, hcap⟩ := dirs_own hown
        have hm8 : maxLen ≤ 9223372036854775807 := by decide +kernel
        have hS6 : c.S.length ≤ 1048576 := by
          rcases hcap with h | h
          · unfold maxLen at h; have := readCm_len hr; omega
          · omega
        have hvc : c.S.length ≤ vc ∧ vc ≤ 9223372036854775807 := by omega
        have cW := hide (wishOf_any c.S c.kind c.A c.B c.C c.D c.wd c.ht c.lv c.fo c.px va vc p w2 hS6 hvc.1 hvc.2 hdir ((unhide HE).kept (unhide B2)))
        have O2 := hide (own_lowC hown (show w.heap.size ≤ _ by omega))
        have hrow : ∀ z, (Value.slice va c.S.length vc).ownBlock = some z → w.heap.size < z := fun z hz => by have := (hown.lt z hz).1; omega
        clear hown hdir hcap hm8 hvc hr
        unfold cmV
        go_wp2_with fail
        refine (unhide cW).mono ?_
        rintro e w3 ⟨hwe, hx⟩
        have B3 := hide (below_call (unhide B2) hx)
        have R3 := hide ((unhide R2).kept hx)
        have O3 := hide (ownKept' (unhide O2) hx)
        clear hx cW B2 R2 O2
        unfold WishEnd at hwe
        cases hk : cmdB ⟨c.kind, c.A, c.B, c.C, c.D, c.S, c.wd, c.ht, c.px, c.lv, c.fo⟩
        · rw [hk] at hwe
          have he : e = noCmd p := hwe
          subst he
          have hcc : crCm s = zeroCm ∧ crCode s = 3 := ⟨by rw [unhide hC, if_neg (fun h => by have := h.2; rw [show cmdB c = false from hk] at this; cases this)], by rw [unhide hK, if_neg (fun h => by have := h.2; rw [show cmdB c = false from hk] at this; cases this)]⟩
          have HCC := hide hcc
          clear hcc
          unfold noCmd
          go_wp2_with fail
          refine leaves_cons (f := 52) (args := #[.pointer (some ⟨w.heap.size, 0, none⟩)]) (by simp) (by simp [go_sem]) ?_
          refine (catchC_panicking w.heap.size _ _ _ [] _ rfl (unhide R3)).mono ?_
          rintro e u' w'' ⟨rfl, rfl, hw⟩
          subst hw
          refine ⟨_, res_cread _ _ w.heap.size zeroCm (.slice none 0 0) 3 rfl (blk_set12 (unhide R3) rfl _ _ _ _ _ _ _ _ _ _ _ _), ?_, ?_⟩
          · rw [(unhide HCC).1, (unhide HCC).2]
            exact outCr_zero _ _ 3
          · iterate 12 (refine belowSetC ?_ (Nat.le_refl w.heap.size) _ _)
            exact unhide B3
        rw [hk, if_pos rfl] at hwe
        have hcc : crCm s = c ∧ crCode s = 0 := ⟨by rw [unhide hC, if_pos ⟨hq, hk⟩], by rw [unhide hK, if_pos ⟨hq, hk⟩]⟩
        have HCC := hide hcc
        obtain ⟨bt, bv, bf, hwv, hm, hcf, v2, hv2, hcall⟩ := wish_back (c := c) hk va vc w3
        obtain ⟨a2, n2, k2, rfl⟩ : ∃ a2 n2 k2, v2 = .slice a2 n2 k2 := by rcases hv2 with rfl | ⟨rfl, _⟩ <;> exact ⟨_, _, _, rfl⟩
        have HV2 := hide hv2
        have hwe' : e = .returned (.iface bt bv) := by rw [hwe]; exact congrArg _ hwv
        subst hwe'
        have cB := hide (hcall w3)
        clear hwe hwv hcall hcc hk hC hK hv2
        go_wp2_with fail
        refine (unhide cB).mono ?_
        rintro e w4 ⟨rfl, hx⟩
        have B4 := hide (below_call (unhide B3) hx)
        have R4 := hide ((unhide R3).kept hx)
        have O4 := hide (ownKept' (unhide O3) hx)
        clear hx cB B3 R3 O3
        have r0 := (unhide R4).cell 0 _ rfl
        have r1 := (unhide R4).cell 1 _ rfl
        have r2 := (unhide R4).cell 2 _ rfl
        have r3 := (unhide R4).cell 3 _ rfl
        have r4 := (unhide R4).cell 4 _ rfl
        have r5 := (unhide R4).cell 5 _ rfl
        have r6 := (unhide R4).cell 6 _ rfl
        have r7 := (unhide R4).cell 7 _ rfl
        have r8 := (unhide R4).cell 8 _ rfl
        have r9 := (unhide R4).cell 9 _ rfl
        have r10 := (unhide R4).cell 10 _ rfl
        have r11 := (unhide R4).cell 11 _ rfl
        have g0 := (unhide R4).free 0
        have g1 := (unhide R4).free 1
        have g2 := (unhide R4).free 2
        have g3 := (unhide R4).free 3
        have g4 := (unhide R4).free 4
        have g5 := (unhide R4).free 5
        have g6 := (unhide R4).free 6
        have g7 := (unhide R4).free 7
        have g8 := (unhide R4).free 8
        have g9 := (unhide R4).free 9
        have g10 := (unhide R4).free 10
        have g11 := (unhide R4).free 11
        go_wp2_with fail
        clear r0 r1 r2 r3 r4 r5 r6 r7 r8 r9 r10 r11 g0 g1 g2 g3 g4 g5 g6 g7 g8 g9 g10 g11
        refine leaves_cons (f := 52) (args := #[.pointer (some ⟨w.heap.size, 0, none⟩)]) (by simp) (by simp [go_sem]) ?_
        refine (catchC_idle w.heap.size _).mono ?_
        rintro e u' w'' ⟨rfl, rfl, hw⟩
        subst hw
        refine ⟨_, res_cread _ _ w.heap.size c (.slice a2 n2 k2) 0 rfl (blk_set12 (unhide R4) rfl _ _ _ _ _ _ _ _ _ _ _ _), ?_, ?_⟩
        · rw [(unhide HCC).1, (unhide HCC).2]
          refine ⟨_, rfl, ?_⟩
          rcases unhide HV2 with h | ⟨h, h0⟩
          · rw [h]
            iterate 12 (refine ownSetC ?_ (fun z hz => by have := hrow z hz; omega) _ _)
            exact unhide O4
          · rw [h, h0]
            exact World.ownsRow_nil _ _ _ _
        · iterate 12 (refine belowSetC ?_ (Nat.le_refl w.heap.size) _ _)
          exact unhide B4
      · rw [if_neg hq] at hend
        have he : e = noCmd p := hend
        subst he
        have hcc : crCm s = zeroCm ∧ crCode s = 3 := ⟨by rw [unhide hC, if_neg (fun h => hq h.1)], by rw [unhide hK, if_neg (fun h => hq h.1)]⟩
        have HCC := hide hcc
        clear hcc
        unfold noCmd
        go_wp2_with fail
        refine leaves_cons (f := 52) (args := #[.pointer (some ⟨w.heap.size, 0, none⟩)]) (by simp) (by simp [go_sem]) ?_
        refine (catchC_panicking w.heap.size _ _ _ [] _ rfl (unhide R2)).mono ?_
        rintro e u' w'' ⟨rfl, rfl, hw⟩
        subst hw
        refine ⟨_, res_cread _ _ w.heap.size zeroCm (.slice none 0 0) 3 rfl (blk_set12 (unhide R2) rfl _ _ _ _ _ _ _ _ _ _ _ _), ?_, ?_⟩
        · rw [(unhide HCC).1, (unhide HCC).2]
          exact outCr_zero _ _ 3
        · iterate 12 (refine belowSetC ?_ (Nat.le_refl w.heap.size) _ _)
          exact unhide B2
  · have HCC : Hid (crCm s = zeroCm ∧ crCode s = unC s) := hide ⟨by unfold crCm; rw [if_neg hu], by unfold crCode; rw [if_neg hu]⟩
    generalize unC s = uc at *
    have q0 := (unhide T1).cell 0 _ rfl
    have q1 := (unhide T1).cell 1 _ rfl
    have q2 := (unhide T1).cell 2 _ rfl
    have r0 := (unhide R1).cell 0 _ rfl
    have r1 := (unhide R1).cell 1 _ rfl
    have r2 := (unhide R1).cell 2 _ rfl
    have r3 := (unhide R1).cell 3 _ rfl
    have r4 := (unhide R1).cell 4 _ rfl
    have r5 := (unhide R1).cell 5 _ rfl
    have r6 := (unhide R1).cell 6 _ rfl
    have r7 := (unhide R1).cell 7 _ rfl
    have r8 := (unhide R1).cell 8 _ rfl
    have r9 := (unhide R1).cell 9 _ rfl
    have r10 := (unhide R1).cell 10 _ rfl
    have r11 := (unhide R1).cell 11 _ rfl
    have g0 := (unhide R1).free 0
    have g1 := (unhide R1).free 1
    have g2 := (unhide R1).free 2
    have g3 := (unhide R1).free 3
    have g4 := (unhide R1).free 4
    have g5 := (unhide R1).free 5
    have g6 := (unhide R1).free 6
    have g7 := (unhide R1).free 7
    have g8 := (unhide R1).free 8
    have g9 := (unhide R1).free 9
    have g10 := (unhide R1).free 10
    have g11 := (unhide R1).free 11
    go_wp2_with fail
    clear q0 q1 q2 r0 r1 r2 r3 r4 r5 r6 r7 r8 r9 r10 r11 g0 g1 g2 g3 g4 g5 g6 g7 g8 g9 g10 g11
    refine ⟨_, res_cread _ _ w.heap.size zeroCm (.slice none 0 0) uc rfl (blk_set12 (unhide R1) rfl _ _ _ _ _ _ _ _ _ _ _ _), ?_, ?_⟩
    · rw [(unhide HCC).1, (unhide HCC).2]
      exact outCr_zero _ _ _
    · iterate 12 (refine belowSetC ?_ (Nat.le_refl w.heap.size) _ _)
      exact unhide B1
end Go.Proofs.YtnffnjljjecphaaDoor

namespace Go.Proofs.YtnffnjljjecphaaDoor
open Go.RowKit
set_option linter.unusedVariables false
theorem VecAt.lt' {w : World} {b : Nat} {x y z : Int} (h : VecAt w b x y z) : b < w.heap.size := World.block_lt_of_cell? w _ h.1
theorem stepCall {w1 wx wn : World} {X : Prop} (hx : Below wx.heap.size wx wn) (h : X ∧ Below w1.heap.size w1 wx) : Below w1.heap.size w1 wn := below_call h.2 hx
def Resv (w : World) (b : Nat) : Prop := VecAt w b 0 0 0 ∧ FreeAt w b
theorem newVec {wy wn : World} {t : TypeId} (hx : Below (wy.alloc (.cells #[.int .i64 0, .int .i64 0, .int .i64 0] t)).heap.size (wy.alloc (.cells #[.int .i64 0, .int .i64 0, .int .i64 0] t)) wn) : Resv wn wy.heap.size :=
  ⟨(vecAt_new wy 0 0 0 t).kept (by simp) hx, (freeAt_new wy 0 0 0 t).kept (by simp) hx⟩
theorem newVecD {wy wn : World} {t : TypeId} (hx : Below ((wy.alloc (.cells #[.int .i64 0, .int .i64 0, .int .i64 0] t)).drew).heap.size ((wy.alloc (.cells #[.int .i64 0, .int .i64 0, .int .i64 0] t)).drew) wn) : Resv wn wy.heap.size :=
  ⟨(show VecAt (wy.alloc (.cells #[.int .i64 0, .int .i64 0, .int .i64 0] t)).drew wy.heap.size 0 0 0 from vecAt_new wy 0 0 0 t).kept (by simp) hx, (show FreeAt (wy.alloc (.cells #[.int .i64 0, .int .i64 0, .int .i64 0] t)).drew wy.heap.size from freeAt_new wy 0 0 0 t).kept (by simp) hx⟩
theorem keptVec {wx wn : World} {b : Nat} (h : Resv wx b) (hx : Below wx.heap.size wx wn) : Resv wn b := ⟨h.1.kept (VecAt.lt' h.1) hx, h.2.kept (VecAt.lt' h.1) hx⟩
theorem stepAlloc2 {w1 wx : World} (h : Below w1.heap.size w1 wx) (o : Obj) : Below w1.heap.size w1 (wx.alloc o) := h.alloc h.size _
theorem vecAt_set3 {w : World} {b : Nat} (h : Resv w b) (x y z : Int) : VecAt (((w.setCell ⟨b, 0, none⟩ (.int .i64 x)).setCell ⟨b, 1, none⟩ (.int .i64 y)).setCell ⟨b, 2, none⟩ (.int .i64 z)) b x y z := by
  obtain ⟨⟨h0, h1, h2⟩, _⟩ := h
  refine ⟨?_, ?_, ?_⟩ <;> simp [go_sem, h0, h1, h2]
theorem below_set3' {w1 wx : World} {b : Nat} (h : Below w1.heap.size w1 wx) (hb : w1.heap.size ≤ b) (x y z : Value) : Below w1.heap.size w1 (((wx.setCell ⟨b, 0, none⟩ x).setCell ⟨b, 1, none⟩ y).setCell ⟨b, 2, none⟩ z) := ((h.setCell hb _).setCell hb _).setCell hb _
theorem stepAlloc {w1 wx : World} {X : Prop} (h : X ∧ Below w1.heap.size w1 wx) (o : Obj) : Below w1.heap.size w1 (wx.alloc o) := h.2.alloc h.2.size _
theorem stepSet3 {w1 wx : World} {X : Prop} {b : Nat} (h : X ∧ Below w1.heap.size w1 wx) (hb : w1.heap.size ≤ b) (x y z : Value) : Below w1.heap.size w1 (((wx.setCell ⟨b, 0, none⟩ x).setCell ⟨b, 1, none⟩ y).setCell ⟨b, 2, none⟩ z) := ((h.2.setCell hb _).setCell hb _).setCell hb _

end Go.Proofs.YtnffnjljjecphaaDoor

namespace Go.Proofs.YtnffnjljjecphaaDoor
open Go.RowKit Go.Sort
set_option linter.unusedVariables false

theorem scanR_err {s : ByteArray} {p : Nat} : ∀ (k i u : Nat) {c : Int}, scan s p k i u = .error c → c = 3 ∨ c = 4
  | 0, i, u, c, h => by simp [scan] at h; exact .inl h.symm
  | k + 1, i, u, c, h => by
    rw [scan] at h
    split at h
    · exact .inr (Except.error.inj h).symm
    · split at h
      · exact .inl (Except.error.inj h).symm
      · split at h
        · split at h
          · exact .inl (Except.error.inj h).symm
          · cases h
        · exact scanR_err k (i + 1) _ h
/-- what GetNum answers, by its three numbers -/
theorem get_form {s : ByteArray} {q : Nat} (hs : s.size ≤ 8000) : ∃ x y z : Int, getRes s (q : Int) = .agg #[.int .i64 x, .int .i64 y, .int .i64 z] ∧
    ((scanN s q = none ∧ z ≠ 0) ∨ ∃ n q', scanN s q = some (n, q') ∧ x = n ∧ y = (q' : Int) ∧ z = 0) := by
  have e : readRes s (q : Int) = scan s q 10 0 0 := by unfold readRes; rw [if_neg (by omega)]; rfl
  unfold getRes scanN
  rw [if_neg (by omega), e]
  cases h : scan s q 10 0 0 with
  | error c => exact ⟨0, 0, c, rfl, .inl ⟨rfl, by have := scanR_err 10 0 0 h; omega⟩⟩
  | ok x => exact ⟨_, _, 0, rfl, .inr ⟨_, _, rfl, rfl, rfl, rfl⟩⟩

def RdAt (w : World) (b : Nat) (t : ByteArray) (q : Nat) (bad : Bool) : Prop := w.cell? ⟨b, 0, none⟩ = some (.string t) ∧ w.cell? ⟨b, 1, none⟩ = some (.int .i64 (q : Int)) ∧ w.cell? ⟨b, 2, none⟩ = some (.bool bad) ∧ w.frozen? ⟨b, 1, none⟩ = false ∧ w.frozen? ⟨b, 2, none⟩ = false
theorem RdAt.lt {w : World} {b : Nat} {t : ByteArray} {q : Nat} {bad : Bool} (h : RdAt w b t q bad) : b < w.heap.size := World.block_lt_of_cell? w _ h.1
theorem RdAt.kept {w w' : World} {b : Nat} {t : ByteArray} {q : Nat} {bad : Bool} (h : RdAt w b t q bad) (hB : Below w.heap.size w w') : RdAt w' b t q bad := by
  have hb := h.lt
  obtain ⟨h0, h1, h2, f1, f2⟩ := h
  exact ⟨by rw [hB.cell (p := ⟨b, 0, none⟩) hb]; exact h0, by rw [hB.cell (p := ⟨b, 1, none⟩) hb]; exact h1, by rw [hB.cell (p := ⟨b, 2, none⟩) hb]; exact h2, by rw [hB.frozen (p := ⟨b, 1, none⟩) hb]; exact f1, by rw [hB.frozen (p := ⟨b, 2, none⟩) hb]; exact f2⟩
theorem RdAt.grown {w w' : World} {b : Nat} {t : ByteArray} {q : Nat} {bad : Bool} {row : Option Nat} (h : RdAt w b t q bad) (hg : w.grownBy w' row) (hne : some b ≠ row) : RdAt w' b t q bad := by
  have hb := h.lt
  obtain ⟨h0, h1, h2, f1, f2⟩ := h
  have e := hg.block b hb hne
  exact ⟨hg.cell h0 hne, hg.cell h1 hne, hg.cell h2 hne, by rw [World.frozen?_of_block (w := w) e]; exact f1, by rw [World.frozen?_of_block (w := w) e]; exact f2⟩
theorem RdAt.bad {w : World} {b : Nat} {t : ByteArray} {q : Nat} {bad : Bool} (h : RdAt w b t q bad) (y : Bool) : RdAt (w.setCell ⟨b, 2, none⟩ (.bool y)) b t q y := by
  obtain ⟨h0, h1, h2, f1, f2⟩ := h
  refine ⟨?_, ?_, ?_, ?_, ?_⟩
  · go_simp
  · go_simp
  · go_simp
  · simp only [World.frozen?_setCell]; exact f1
  · simp only [World.frozen?_setCell]; exact f2
theorem RdAt.at {w : World} {b : Nat} {t : ByteArray} {q : Nat} {bad : Bool} (h : RdAt w b t q bad) (q' : Nat) : RdAt (w.setCell ⟨b, 1, none⟩ (.int .i64 (q' : Int))) b t q' bad := by
  obtain ⟨h0, h1, h2, f1, f2⟩ := h
  refine ⟨?_, ?_, ?_, ?_, ?_⟩
  · go_simp
  · go_simp
  · go_simp
  · simp only [World.frozen?_setCell]; exact f1
  · simp only [World.frozen?_setCell]; exact f2
def numRd (t : ByteArray) (q : Nat) (bad : Bool) : Int × Nat × Bool := if bad = true then (0, q, true) else match scanN t q with | none => (0, q, true) | some (n, q') => (n, q', false)
theorem holdR {wr wx : World} {b : Nat} {t : ByteArray} {q : Nat} {bad : Bool} (hr : RdAt wr b t q bad) (h : Below wr.heap.size wr wx) :
    (wx.cell? ⟨b, 0, none⟩ = some (.string t) ∧ wx.cell? ⟨b, 1, none⟩ = some (.int .i64 (q : Int))) ∧ Below wr.heap.size wr wx := ⟨⟨(hr.kept h).1, (hr.kept h).2.1⟩, h⟩

set_option maxHeartbeats 2000000 in
set_option maxRecDepth 100000 in
theorem num_any (b : Nat) (t : ByteArray) (q : Nat) (bad : Bool) (w : World) (ht : t.size ≤ 8000) (hq : q ≤ 8000) (hR : RdAt w b t q bad) :
    Calls Tryd.prog 47 #[.pointer (some ⟨b, 0, none⟩)] w fun e w' => e = .returned (.int .i64 (numRd t q bad).1) ∧ RdAt w' b t (numRd t q bad).2.1 (numRd t q bad).2.2 ∧ w.grownBy w' (some b) := by
  have HR := hide hR
  clear hR
  obtain ⟨x, y, z, hg, hz⟩ := get_form (q := q) ht
  have HZ := hide hz
  have cG : Hid (∀ W : World, Calls Tryd.prog 82 #[.string t, .int .i64 (q : Int)] W fun e w' => e = .returned (.agg #[.int .i64 x, .int .i64 y, .int .i64 z]) ∧ Below W.heap.size W w') := hide (fun W => (specGetNum_any t (q : Int) W (by omega) (by omega)).mono fun e w' h => ⟨by rw [h.1, hg], h.2⟩)
  clear hg hz
  go_enter Tryd.func47, Tryd.ntmps47
  go_wp2_with fail
  go_cut [3] (fun s wx => ∃ bb, s = .pointer (some ⟨bb, 0, none⟩) ∧ VecAt wx bb x y z ∧ Below w.heap.size w wx)
  case first =>
    go_region_held (fun w' => (w'.cell? ⟨b, 0, none⟩ = some (.string t) ∧ w'.cell? ⟨b, 1, none⟩ = some (.int .i64 (q : Int))) ∧ Below w.heap.size w w') (first | exact holdR (unhide HR) (Below.refl _ _).drew | exact holdR (unhide HR) (stepAlloc (by assumption) _) | exact holdR (unhide HR) (by assumption) | exact holdR (unhide HR) (stepAlloc2 (by assumption) _) | exact holdR (unhide HR) (stepSet3 (by assumption) (by first | exact Nat.le_refl _ | exact Below.size (by assumption)) _ _ _)) ((go_at_call 82; refine (unhide cG _).mono ?_; rintro e wn ⟨rfl, hx⟩; have hw := stepCall (w1 := w) hx (by assumption); first | (have hr : Resv wn w.heap.size := newVecD hx; have hr2 := hr; obtain ⟨⟨r0, r1, r2⟩, f0, f1, f2⟩ := hr2) | (have hr := newVec hx; have hr2 := hr; obtain ⟨⟨r0, r1, r2⟩, f0, f1, f2⟩ := hr2) | (have hr := keptVec (by assumption) hx; have hr2 := hr; obtain ⟨⟨r0, r1, r2⟩, f0, f1, f2⟩ := hr2) | skip))
    all_goals (go_wp2_with fail; go_meet; refine ⟨_, rfl, ?_, ?_⟩)
    all_goals first | (with_reducible exact vecAt_new _ _ _ _ _) | (with_reducible exact stepAlloc2 (by assumption) _) | (with_reducible exact vecAt_set3 (by assumption) _ _ _) | (with_reducible exact below_set3' (by assumption) (by first | exact Nat.le_refl _ | exact Below.size (by assumption)) _ _ _) | trace_state
  case rest =>
    obtain ⟨bb, rfl, v5, hx⟩ := hcut
    have R2 := hide ((unhide HR).kept hx)
    have G2 := hide (grownB (b := b) hx)
    obtain ⟨v0, v1, v2⟩ := v5
    obtain ⟨c0, c1, c2, f1, f2⟩ := unhide R2
    clear hx cG
    cases bad
    · rcases unhide HZ with ⟨hn, hz⟩ | ⟨n, q', hn, rfl, rfl, rfl⟩
      · have HV : Hid (numRd t q false = (0, q, true)) := hide (by unfold numRd; rw [hn]; rfl)
        have hz' : (z == 0) = false := by simp [hz]
        have hz2 : (z != 0) = true := by simp [hz]
        clear hn
        go_wp2_with fail
        go_ret
        exact ⟨by rw [unhide HV]; rfl, by rw [unhide HV]; exact (unhide R2).bad true, grownSet (unhide G2) _ _⟩
      · have HV : Hid (numRd t q false = (x, q', false)) := hide (by unfold numRd; rw [hn]; rfl)
        clear hn
        go_wp2_with fail
        go_ret
        exact ⟨by rw [unhide HV]; rfl, by rw [unhide HV]; exact (unhide R2).at q', grownSet (unhide G2) _ _⟩
    · have HV : Hid (numRd t q true = (0, q, true)) := hide rfl
      go_wp2_with fail
      go_ret
      exact ⟨by rw [unhide HV]; rfl, by rw [unhide HV]; exact (unhide R2).bad true, grownSet (unhide G2) _ _⟩
end Go.Proofs.YtnffnjljjecphaaDoor

namespace Go.Proofs.YtnffnjljjecphaaDoor
open Go.RowKit Go.Sort
set_option linter.unusedVariables false

def manyV (t : ByteArray) (q : Nat) (bad : Bool) (most : Int) : Int × Nat × Bool :=
  if 0 ≤ (numRd t q bad).1 ∧ (numRd t q bad).1 ≤ most then numRd t q bad else (0, (numRd t q bad).2.1, true)

set_option maxHeartbeats 2000000 in
set_option maxRecDepth 100000 in
theorem many_any (b : Nat) (t : ByteArray) (q : Nat) (bad : Bool) (most : Int) (w : World) (ht : t.size ≤ 8000) (hq : q ≤ 8000) (hR : RdAt w b t q bad) :
    Calls Tryd.prog 48 #[.pointer (some ⟨b, 0, none⟩), .int .i64 most] w fun e w' => e = .returned (.int .i64 (manyV t q bad most).1) ∧ RdAt w' b t (manyV t q bad most).2.1 (manyV t q bad most).2.2 ∧ w.grownBy w' (some b) := by
  have cN := hide (num_any b t q bad w ht hq hR)
  have HM : Hid (manyV t q bad most = if 0 ≤ (numRd t q bad).1 ∧ (numRd t q bad).1 ≤ most then numRd t q bad else (0, (numRd t q bad).2.1, true)) := hide rfl
  clear hR
  generalize manyV t q bad most = mv at *
  generalize numRd t q bad = nv at *
  obtain ⟨n, q', bad'⟩ := nv
  go_enter Tryd.func48, Tryd.ntmps48
  go_wp2_with fail
  refine (unhide cN).mono ?_
  rintro e w1 ⟨rfl, hr, hg⟩
  have R1 := hide hr
  have G1 := hide hg
  clear hr hg cN
  go_wp2_with fail
  refine (l02Is_any n 0 most _).mono ?_
  rintro e w2 ⟨rfl, hw⟩
  rw [hw]
  clear hw w2
  obtain ⟨c0, c1, c2, f1, f2⟩ := unhide R1
  by_cases h : 0 ≤ n ∧ n ≤ most
  · rw [if_pos h] at HM
    have hd : (decide (0 ≤ n) && decide (n ≤ most)) = true := by simp [h.1, h.2]
    rw [hd]
    go_wp2_with fail
    go_ret
    exact ⟨by rw [unhide HM]; rfl, by rw [unhide HM]; exact unhide R1, unhide G1⟩
  · rw [if_neg h] at HM
    have hd : (decide (0 ≤ n) && decide (n ≤ most)) = false := by
      rw [Bool.and_eq_false_iff, decide_eq_false_iff_not, decide_eq_false_iff_not]; omega
    rw [hd]
    go_wp2_with fail
    go_ret
    exact ⟨by rw [unhide HM]; rfl, by rw [unhide HM]; exact (unhide R1).bad true, grownSet (unhide G1) _ _⟩

def vecRd (t : ByteArray) (q : Nat) (bad : Bool) : (Int × Int × Int) × Nat × Bool :=
  ((( numRd t q bad).1, (numRd t (numRd t q bad).2.1 (numRd t q bad).2.2).1, (numRd t (numRd t (numRd t q bad).2.1 (numRd t q bad).2.2).2.1 (numRd t (numRd t q bad).2.1 (numRd t q bad).2.2).2.2).1),
   (numRd t (numRd t (numRd t q bad).2.1 (numRd t q bad).2.2).2.1 (numRd t (numRd t q bad).2.1 (numRd t q bad).2.2).2.2).2)

theorem VecAt.grown {w w' : World} {b : Nat} {x y z : Int} {row : Option Nat} (h : VecAt w b x y z) (hg : w.grownBy w' row) (hne : some b ≠ row) : VecAt w' b x y z :=
  ⟨hg.cell h.1 hne, hg.cell h.2.1 hne, hg.cell h.2.2 hne⟩
theorem FreeAt.grown {w w' : World} {b : Nat} {row : Option Nat} (h : FreeAt w b) (hb : b < w.heap.size) (hg : w.grownBy w' row) (hne : some b ≠ row) : FreeAt w' b := by
  have e := hg.block b hb hne
  exact ⟨by rw [World.frozen?_of_block (w := w) e]; exact h.1, by rw [World.frozen?_of_block (w := w) e]; exact h.2.1, by rw [World.frozen?_of_block (w := w) e]; exact h.2.2⟩
theorem numV_le {t : ByteArray} {q : Nat} {bad : Bool} (ht : t.size ≤ 8000) (hq : q ≤ 8000) : (numRd t q bad).2.1 ≤ 8000 := by
  unfold numRd
  split
  · exact hq
  · cases h : scanN t q with
    | none => exact hq
    | some x => exact Nat.le_trans (scanN_le (n := x.1) (q := x.2) (by rw [h])).2 ht
theorem RdAt.set {w : World} {b c i : Nat} {t : ByteArray} {q : Nat} {bad : Bool} {v : Value} (h : RdAt w b t q bad) (hne : c ≠ b) : RdAt (w.setCell ⟨c, i, none⟩ v) b t q bad := by
  obtain ⟨h0, h1, h2, f1, f2⟩ := h
  have hn : b ≠ c := fun e => hne e.symm
  refine ⟨?_, ?_, ?_, ?_, ?_⟩
  · rw [World.cell?_setCell_far _ _ _ _ hne]; exact h0
  · rw [World.cell?_setCell_far _ _ _ _ hne]; exact h1
  · rw [World.cell?_setCell_far _ _ _ _ hne]; exact h2
  · simp only [World.frozen?_setCell]; exact f1
  · simp only [World.frozen?_setCell]; exact f2

theorem grownRd {w w1 : World} {c i : Nat} {v : Value} {row : Option Nat} (h : w.grownBy w1 row) (hc : w.heap.size ≤ c) : w.grownBy (w1.setCell ⟨c, i, none⟩ v) row :=
  ⟨h.os, h.tape, h.output, by simpa using h.size, fun k hk hn => by rw [Below.heap_setCell _ _ _ _ (show k ≠ c by omega)]; exact h.block k hk hn⟩
theorem VecAt.set1 {w : World} {b : Nat} {x y z : Int} (h : VecAt w b x y z) (u : Int) : VecAt (w.setCell ⟨b, 1, none⟩ (.int .i64 u)) b x u z := by
  obtain ⟨h0, h1, h2⟩ := h
  refine ⟨?_, ?_, ?_⟩ <;> simp [go_sem, h0, h1, h2]
theorem VecAt.set2 {w : World} {b : Nat} {x y z : Int} (h : VecAt w b x y z) (u : Int) : VecAt (w.setCell ⟨b, 2, none⟩ (.int .i64 u)) b x y u := by
  obtain ⟨h0, h1, h2⟩ := h
  refine ⟨?_, ?_, ?_⟩ <;> simp [go_sem, h0, h1, h2]
theorem VecAt.far {w : World} {b c i : Nat} {v : Value} {x y z : Int} (h : VecAt w b x y z) (hn : c ≠ b) : VecAt (w.setCell ⟨c, i, none⟩ v) b x y z :=
  ⟨by rw [World.cell?_setCell_far _ _ _ _ hn]; exact h.1, by rw [World.cell?_setCell_far _ _ _ _ hn]; exact h.2.1, by rw [World.cell?_setCell_far _ _ _ _ hn]; exact h.2.2⟩
theorem FreeAt.set {w : World} {b : Nat} {a : Addr} {v : Value} (h : FreeAt w b) : FreeAt (w.setCell a v) b := by
  unfold FreeAt
  simp only [World.frozen?_setCell]
  exact h

set_option maxHeartbeats 2000000 in
set_option maxRecDepth 100000 in
theorem vec_any (b : Nat) (t : ByteArray) (q : Nat) (bad : Bool) (w : World) (ht : t.size ≤ 8000) (hq : q ≤ 8000) (hR : RdAt w b t q bad) :
    Calls Tryd.prog 49 #[.pointer (some ⟨b, 0, none⟩)] w fun e w' => e = .returned (.agg #[.int .i64 (vecRd t q bad).1.1, .int .i64 (vecRd t q bad).1.2.1, .int .i64 (vecRd t q bad).1.2.2]) ∧ RdAt w' b t (vecRd t q bad).2.1 (vecRd t q bad).2.2 ∧ w.grownBy w' (some b) := by
  have hb := hide hR.lt
  have HV : Hid (vecRd t q bad = vecRd t q bad) := hide rfl
  generalize e0 : vecRd t q bad = vv at HV ⊢
  unfold vecRd at e0
  have l1 := numV_le (bad := bad) ht hq
  have R0 := hide (hR.kept (below1 w (.cells #[.int .i64 0, .int .i64 0, .int .i64 0] 75)))
  have c1 := hide (num_any b t q bad (w.alloc (.cells #[.int .i64 0, .int .i64 0, .int .i64 0] 75)) ht hq (unhide R0))
  have G0 : Hid (w.grownBy (w.alloc (.cells #[.int .i64 0, .int .i64 0, .int .i64 0] 75)) (some b)) := hide (grownB (below1 w _))
  have A0 := hide (vecAt_new w 0 0 0 75)
  have F0 := hide (freeAt_new w 0 0 0 75)
  clear hR R0 HV
  generalize numRd t q bad = n1 at *
  obtain ⟨x, q1, bad1⟩ := n1
  simp only at l1 e0
  have l2 := numV_le (bad := bad1) ht l1
  have hne : Hid (some w.heap.size ≠ some b) := hide (by have := unhide hb; simp; omega)
  go_enter Tryd.func49, Tryd.ntmps49
  go_wp2_with fail
  refine (unhide c1).mono ?_
  rintro e w1 ⟨rfl, hr, hg⟩
  have G1 := hide (grownTr (unhide G0) hg)
  have A1 := hide ((unhide A0).grown hg (unhide hne))
  have F1 := hide ((unhide F0).grown (by simp) hg (unhide hne))
  have R1 := hide hr
  clear hr hg c1 G0 A0 F0
  have hc : b < w1.heap.size := (unhide R1).lt
  have ha : w.heap.size < w1.heap.size := VecAt.lt' (unhide A1)
  have Z2 := hide (below1 w1 (.cells #[.int .i64 x, .int .i64 0, .int .i64 0] 75))
  have R2 := hide ((unhide R1).kept (unhide Z2))
  have G2 := hide (grownTr (unhide G1) (grownB (b := b) (unhide Z2)))
  have A2 := hide ((unhide A1).kept ha (unhide Z2))
  have F2 := hide ((unhide F1).kept ha (unhide Z2))
  have V2 := hide (vecAt_new w1 x 0 0 75)
  have U2 := hide (freeAt_new w1 x 0 0 75)
  have hlt : w1.heap.size < (w1.alloc (.cells #[.int .i64 x, .int .i64 0, .int .i64 0] 75)).heap.size := VecAt.lt' (unhide V2)
  clear R1 G1 A1 F1 Z2
  go_wp2_with fail
  generalize w1.alloc (.cells #[.int .i64 x, .int .i64 0, .int .i64 0] 75) = W2 at *
  generalize w1.heap.size = c at *
  have c2 := hide (num_any b t q1 bad1 W2 ht l1 (unhide R2))
  generalize numRd t q1 bad1 = n2 at *
  obtain ⟨y, q2, bad2⟩ := n2
  simp only at l2 e0
  have hnc : Hid (some c ≠ some b) := hide (by simp; omega)
  refine (unhide c2).mono ?_
  rintro e w3 ⟨rfl, hr, hg⟩
  have G3 := hide (grownRd (c := c) (i := 1) (v := .int .i64 y) (grownTr (unhide G2) hg) (by omega))
  have A3 := hide (((unhide A2).grown hg (unhide hne)).far (c := c) (i := 1) (v := .int .i64 y) (by omega))
  have F3 := hide (((unhide F2).grown (by omega) hg (unhide hne)).set (a := ⟨c, 1, none⟩) (v := .int .i64 y))
  obtain ⟨v0, v1, v2⟩ := (unhide V2).grown hg (unhide hnc)
  obtain ⟨u0, u1, u2⟩ := (unhide U2).grown (by omega) hg (unhide hnc)
  have V3 := hide (((unhide V2).grown hg (unhide hnc)).set1 y)
  have U3 := hide (((unhide U2).grown (by omega) hg (unhide hnc)).set (a := ⟨c, 1, none⟩) (v := .int .i64 y))
  have R3 := hide (hr.set (c := c) (i := 1) (v := .int .i64 y) (by omega))
  clear hr hg c2 G2 A2 F2 V2 U2 R2
  go_wp2_with fail
  clear v0 v1 v2 u0 u1 u2
  generalize w3.setCell ⟨c, 1, none⟩ (.int .i64 y) = W3 at *
  have c3 := hide (num_any b t q2 bad2 W3 ht l2 (unhide R3))
  generalize numRd t q2 bad2 = n3 at *
  obtain ⟨z, q3, bad3⟩ := n3
  simp only at e0
  subst e0
  have hl3 : c < W3.heap.size := VecAt.lt' (unhide V3)
  have hm3 : w.heap.size < W3.heap.size := VecAt.lt' (unhide A3)
  refine (unhide c3).mono ?_
  rintro e w4 ⟨rfl, hr, hg⟩
  have G4 := hide (grownRd (c := c) (i := 2) (v := .int .i64 z) (grownTr (unhide G3) hg) (by omega))
  obtain ⟨a0, a1, a2⟩ := (unhide A3).grown hg (unhide hne)
  obtain ⟨f0, f1, f2⟩ := (unhide F3).grown hm3 hg (unhide hne)
  obtain ⟨v0, v1, v2⟩ := (unhide V3).grown hg (unhide hnc)
  obtain ⟨u0, u1, u2⟩ := (unhide U3).grown hl3 hg (unhide hnc)
  have R4 := hide (hr.set (c := c) (i := 2) (v := .int .i64 z) (by omega))
  have hca : Hid (c ≠ w.heap.size) := hide (by omega)
  have hb' := unhide hb
  clear hr hg c3 G3 A3 F3 V3 U3 R3
  have n0 : w.heap.size ≠ c := by omega
  go_wp2_with fail
  exact bodyPost_ret (v := .agg #[.int .i64 x, .int .i64 y, .int .i64 z]) (by simp [results, Tryd.results49, go_sem, a0, a1, a2]) rfl ⟨rfl, (((unhide R4).set (by omega)).set (by omega)).set (by omega), grownRd (grownRd (grownRd (unhide G4) (by omega)) (by omega)) (by omega)⟩
end Go.Proofs.YtnffnjljjecphaaDoor

namespace Go.Proofs.YtnffnjljjecphaaDoor
open Go.RowKit Go.Sort
set_option linter.unusedVariables false

end Go.Proofs.YtnffnjljjecphaaDoor
