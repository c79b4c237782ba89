/- Several texts in one: CrD. -/
import Derived.Test.YtnffnjljjecphaaDoorQCommandReadOwn15
import Derived.Test.YtnffnjljjecphaaDoorQCommandReadOwn11
namespace Go.Proofs.YtnffnjljjecphaaDoor
open Go.RowKit Go.Sort
set_option linter.unusedVariables false
set_option linter.unusedSimpArgs false

def cmV (c : Cm) (v : Value) : Value := .agg #[.int .i64 c.kind, .int .i64 c.A, .int .i64 c.B, .int .i64 c.C, .int .i64 c.D, v, .int .i64 c.wd, .int .i64 c.ht, .string c.px, .int .i64 c.lv, .int .i64 c.fo]
/-- how readCommand ends -/
def RcEnd (p : Addr) (B : Nat) (t : ByteArray) (e : Ending) (w' : World) : Prop := match readCm t with
  | none => e = noCmd p
  | some (c, q) => if q = t.size then ∃ v, e = .returned (cmV c v) ∧ w'.ownsRow B 75 3 v c.S.length (flatD c.S) else e = noCmd p
theorem rc_none {p : Addr} {B : Nat} {t : ByteArray} {w' : World} (h : readCm t = none) : RcEnd p B t (noCmd p) w' := by unfold RcEnd; rw [h]
theorem rc_some {p : Addr} {B : Nat} {t : ByteArray} {w' : World} {e : Ending} {c : Cm} {q : Nat} (h : readCm t = some (c, q)) (h1 : q = t.size → ∃ v, e = .returned (cmV c v) ∧ w'.ownsRow B 75 3 v c.S.length (flatD c.S)) (h2 : q ≠ t.size → e = noCmd p) : RcEnd p B t e w' := by
  unfold RcEnd
  rw [h]
  dsimp only
  by_cases hq : q = t.size
  · rw [if_pos hq]; exact h1 hq
  · rw [if_neg hq]; exact h2 hq
theorem Blk.grownK {w w2 : World} {b : Nat} {cs : List Value} {t : TypeId} {c : Nat} (h : Blk w b cs t) (hg : w.grownBy w2 (some c)) (hne : b ≠ c) : Blk w2 b cs t := (hg.block b h.lt (fun e => hne (Option.some.inj e))).trans h
theorem belowG {B b : Nat} {w w1 w2 : World} (h : Below B w w1) (hg : w1.grownBy w2 (some b)) (hb : B ≤ b) (hB : B ≤ w1.heap.size) : Below B w w2 := belowR h hg hB (fun g e => by have := Option.some.inj e; omega)
theorem own_lowC {w : World} {B B' n m : Nat} {t : TypeId} {v : Value} {xs : List Value} (h : w.ownsRow B t m v n xs) (hb : B' ≤ B) : w.ownsRow B' t m v n xs := by
  obtain ⟨h1, h2⟩ := h
  refine ⟨h1, ?_⟩
  rcases h2 with h2 | ⟨g, cap, cur, e, hg, r⟩
  · exact .inl h2
  · exact .inr ⟨g, cap, cur, e, by omega, r⟩
theorem own_formC {w : World} {B n m : Nat} {t : TypeId} {v : Value} {xs : List Value} (h : w.ownsRow B t m v n xs) : ∃ a c, v = .slice a n c := by
  rcases h.2 with ⟨h1, h0⟩ | ⟨g, cap, cur, e, _⟩
  · exact ⟨none, 0, by rw [h1, h0]⟩
  · exact ⟨_, _, e⟩
theorem ownSetC {w : World} {B n m b : Nat} {t : TypeId} {v : Value} {xs : List Value} (h : w.ownsRow B t m v n xs) (hne : ∀ z, v.ownBlock = some z → z ≠ b) (o : Nat) (x : Value) : (w.setCell ⟨b, o, none⟩ x).ownsRow B t m v n xs := by
  refine h.kept (row := some b) ⟨rfl, rfl, rfl, by simp [World.setCell], fun k hk hn => Below.heap_setCell w ⟨b, o, none⟩ x k (fun e => hn (by rw [e]))⟩ ?_
  cases hv : v.ownBlock with
  | none => exact .inl rfl
  | some z => exact .inr (fun e => hne z hv (Option.some.inj e))
theorem rc_spn {t : ByteArray} {q1 : Nat} (h0 : scanN t 0 = some (3, q1)) (h : readSp t q1 = none) : readCm t = none := by
  unfold readSp at h
  unfold readCm
  rw [h0]
  dsimp only
  rw [if_neg (show ¬ (3 : Int) = 2 by decide), if_pos rfl]
  split at h
  · rename_i e; first | rw [e] | rfl
  · rename_i m q2 e
    try rw [e]
    try dsimp only
    split at h
    · rename_i hm; rw [if_pos hm, h]
    · rename_i hm; rw [if_neg hm]
theorem rc_sps {t : ByteArray} {q1 z : Nat} {S : List D3} (h0 : scanN t 0 = some (3, q1)) (h : readSp t q1 = some (S, z)) : readCm t = some (⟨3, 0, 0, 0, 0, S, 0, 0, ⟨#[]⟩, 0, 0⟩, z) := by
  unfold readSp at h
  unfold readCm
  rw [h0]
  dsimp only
  rw [if_neg (show ¬ (3 : Int) = 2 by decide), if_pos rfl]
  split at h
  · cases h
  · rename_i m q2 e
    try rw [e]
    try dsimp only
    split at h
    · rename_i hm; rw [if_pos hm, h]
    · cases h
theorem rc_2n {t : ByteArray} {q1 : Nat} (h0 : scanN t 0 = some (2, q1)) (h : read4 t q1 = none) : readCm t = none := by
  unfold readCm; rw [h0]; dsimp only; rw [if_pos rfl, h]
theorem rc_2s {t : ByteArray} {q1 z : Nat} {x1 x2 x3 x4 : Int} (h0 : scanN t 0 = some (2, q1)) (h : read4 t q1 = some ((x1, x2, x3, x4), z)) : readCm t = some (⟨2, x1, x2, x3, x4, [], 0, 0, ⟨#[]⟩, 0, 0⟩, z) := by
  unfold readCm; rw [h0]; dsimp only; rw [if_pos rfl, h]
theorem rc_4n {t : ByteArray} {q1 : Nat} (h0 : scanN t 0 = some (4, q1)) (h : read4 t q1 = none) : readCm t = none := by
  unfold readCm; rw [h0]; dsimp only; rw [if_neg (show ¬ (4 : Int) = 2 by decide), if_neg (show ¬ (4 : Int) = 3 by decide), if_pos rfl, h]
theorem rc_4t {t : ByteArray} {q1 z : Nat} {x1 x2 x3 x4 : Int} (h0 : scanN t 0 = some (4, q1)) (h : read4 t q1 = some ((x1, x2, x3, x4), z)) (h2 : textN t z = none) : readCm t = none := by
  unfold readCm; rw [h0]; dsimp only; rw [if_neg (show ¬ (4 : Int) = 2 by decide), if_neg (show ¬ (4 : Int) = 3 by decide), if_pos rfl, h]; dsimp only; rw [h2]
theorem rc_4s {t : ByteArray} {q1 z z2 : Nat} {x1 x2 x3 x4 : Int} {px : ByteArray} (h0 : scanN t 0 = some (4, q1)) (h : read4 t q1 = some ((x1, x2, x3, x4), z)) (h2 : textN t z = some (px, z2)) : readCm t = some (⟨4, 0, 0, 0, 0, [], x1, x2, px, x3, x4⟩, z2) := by
  unfold readCm; rw [h0]; dsimp only; rw [if_neg (show ¬ (4 : Int) = 2 by decide), if_neg (show ¬ (4 : Int) = 3 by decide), if_pos rfl, h]; dsimp only; rw [h2]
theorem rc_o {t : ByteArray} {q1 : Nat} {kd : Int} (h0 : scanN t 0 = some (kd, q1)) (k2 : ¬ kd = 2) (k3 : ¬ kd = 3) (k4 : ¬ kd = 4) : readCm t = some (⟨kd, 0, 0, 0, 0, [], 0, 0, ⟨#[]⟩, 0, 0⟩, q1) := by
  unfold readCm; rw [h0]; dsimp only; rw [if_neg k2, if_neg k3, if_neg k4]
theorem r4_1 {t : ByteArray} {q : Nat} (h : scanN t q = none) : read4 t q = none := by unfold read4; rw [h]
theorem r4_2 {t : ByteArray} {q z1 : Nat} {x1 : Int} (h1 : scanN t q = some (x1, z1)) (h : scanN t z1 = none) : read4 t q = none := by unfold read4; rw [h1]; dsimp only; rw [h]
theorem r4_3 {t : ByteArray} {q z1 z2 : Nat} {x1 x2 : Int} (h1 : scanN t q = some (x1, z1)) (h2 : scanN t z1 = some (x2, z2)) (h : scanN t z2 = none) : read4 t q = none := by unfold read4; rw [h1]; dsimp only; rw [h2]; dsimp only; rw [h]
theorem r4_4 {t : ByteArray} {q z1 z2 z3 : Nat} {x1 x2 x3 : Int} (h1 : scanN t q = some (x1, z1)) (h2 : scanN t z1 = some (x2, z2)) (h3 : scanN t z2 = some (x3, z3)) (h : scanN t z3 = none) : read4 t q = none := by unfold read4; rw [h1]; dsimp only; rw [h2]; dsimp only; rw [h3]; dsimp only; rw [h]
theorem r4_s {t : ByteArray} {q z1 z2 z3 z4 : Nat} {x1 x2 x3 x4 : Int} (h1 : scanN t q = some (x1, z1)) (h2 : scanN t z1 = some (x2, z2)) (h3 : scanN t z2 = some (x3, z3)) (h : scanN t z3 = some (x4, z4)) : read4 t q = some ((x1, x2, x3, x4), z4) := by unfold read4; rw [h1]; dsimp only; rw [h2]; dsimp only; rw [h3]; dsimp only; rw [h]
theorem res_readCommand (T : Array Value) (X : World) (b : Nat) (c : Cm) (v : Value) (hT : T.getD 2 undef = .pointer (some ⟨b, 0, none⟩)) (h : Blk X b [.int .i64 c.kind, .int .i64 c.A, .int .i64 c.B, .int .i64 c.C, .int .i64 c.D, v, .int .i64 c.wd, .int .i64 c.ht, .string c.px, .int .i64 c.lv, .int .i64 c.fo] 35) : (results Tryd.f53 T).run Tryd.prog X = .ok (cmV c v) X := by
  have h0 := h.cell 0 _ rfl
  have h1 := h.cell 1 _ rfl
  have h2 := h.cell 2 _ rfl
  have h3 := h.cell 3 _ rfl
  have h4 := h.cell 4 _ rfl
  have h5 := h.cell 5 _ rfl
  have h6 := h.cell 6 _ rfl
  have h7 := h.cell 7 _ rfl
  have h8 := h.cell 8 _ rfl
  have h9 := h.cell 9 _ rfl
  have h10 := h.cell 10 _ rfl
  simp only [Array.getD_eq_getD_getElem?] at hT
  unfold cmV
  simp [results, Tryd.results53, go_sem, hT, h0, h1, h2, h3, h4, h5, h6, h7, h8, h9, h10]

set_option maxHeartbeats 16000000 in
set_option maxRecDepth 100000 in
theorem readCommand_any (t : ByteArray) (p : Addr) (w : World) (ht : t.size ≤ 8000) (hE : ErrCmd p w) :
    Calls Tryd.prog 53 #[.string t] w fun e w' => RcEnd p w.heap.size t e w' ∧ Below w.heap.size w w' := by
  have B0 := hide (below2 w (.cells #[.int .i64 0, .int .i64 0, .int .i64 0, .int .i64 0, .int .i64 0, .slice none 0 0, .int .i64 0, .int .i64 0, .string ⟨#[]⟩, .int .i64 0, .int .i64 0] 35) (.cells #[.string t, .int .i64 0] 126))
  have R0 := hide ((blk_new w [.int .i64 0, .int .i64 0, .int .i64 0, .int .i64 0, .int .i64 0, .slice none 0 0, .int .i64 0, .int .i64 0, .string ⟨#[]⟩, .int .i64 0, .int .i64 0] 35).alloc (.cells #[.string t, .int .i64 0] 126))
  have D0 := hide (by simpa using blk_new (w.alloc (.cells #[.int .i64 0, .int .i64 0, .int .i64 0, .int .i64 0, .int .i64 0, .slice none 0 0, .int .i64 0, .int .i64 0, .string ⟨#[]⟩, .int .i64 0, .int .i64 0] 35)) [.string t, .int .i64 ((0 : Nat) : Int)] 126 : Blk ((w.alloc (.cells #[.int .i64 0, .int .i64 0, .int .i64 0, .int .i64 0, .int .i64 0, .slice none 0 0, .int .i64 0, .int .i64 0, .string ⟨#[]⟩, .int .i64 0, .int .i64 0] 35)).alloc (.cells #[.string t, .int .i64 0] 126)) (w.heap.size + 1) [.string t, .int .i64 ((0 : Nat) : Int)] 126)
  have hel := hE.lt
  have E0 := hide (hE.kept (unhide B0))
  have hne : 0 ≠ w.heap.size + 1 := by omega
  have hl0 : w.heap.size + 1 + 1 ≤ ((w.alloc (.cells #[.int .i64 0, .int .i64 0, .int .i64 0, .int .i64 0, .int .i64 0, .slice none 0 0, .int .i64 0, .int .i64 0, .string ⟨#[]⟩, .int .i64 0, .int .i64 0] 35)).alloc (.cells #[.string t, .int .i64 0] 126)).heap.size := by simp
  have HE := hide hE
  clear hE
  cases h0 : scanN t 0 with
  | none =>
    go_enter Tryd.func53, Tryd.ntmps53
    have cA := hide (number_no (w.heap.size + 1) t 0 p _ ht (by omega) h0 (unhide D0) (unhide E0))
    have HN := hide (show readCm t = none by unfold readCm; rw [h0])
    go_wp2_with fail
    refine (unhide cA).mono ?_
    rintro e wx ⟨rfl, hx⟩
    exact ⟨rfl, rc_none (unhide HN), below_call (unhide B0) hx⟩
  | some y0 =>
    obtain ⟨kd, q1⟩ := y0
    have hq1 := (scanN_le h0).2
    go_enter Tryd.func53, Tryd.ntmps53
    have cA := hide (number_yes (w.heap.size + 1) t 0 q1 kd _ ht (by omega) h0 (unhide D0))
    go_wp2_with fail
    refine (unhide cA).mono ?_
    rintro e w1 ⟨rfl, hD, hg⟩
    have D1 := hide hD
    have B1 := hide (belowG (unhide B0) hg (by omega) (by omega))
    have R1 := hide ((unhide R0).grownK hg (by omega))
    have hl1 := Nat.le_trans hl0 hg.size
    have E1 := hide ((unhide HE).kept (unhide B1))
    clear hD hg cA D0 B0 R0 E0
    have Z := below1 w1 (.cells #[.int .i64 kd, .int .i64 0, .int .i64 0, .int .i64 0, .int .i64 0, .slice none 0 0, .int .i64 0, .int .i64 0, .string ⟨#[]⟩, .int .i64 0, .int .i64 0] 35)
    have C2 := hide (blk_new w1 [.int .i64 kd, .int .i64 0, .int .i64 0, .int .i64 0, .int .i64 0, .slice none 0 0, .int .i64 0, .int .i64 0, .string ⟨#[]⟩, .int .i64 0, .int .i64 0] 35)
    have D2 := hide ((unhide D1).kept Z)
    have R2 := hide ((unhide R1).kept Z)
    have B2 := hide (below_call (unhide B1) Z)
    have E2 := hide ((unhide E1).kept Z)
    have hl2 := Nat.le_trans hl1 Z.size
    have hlc := (unhide C2).lt
    clear Z D1 R1 B1 E1
    by_cases k2 : kd = 2
    · subst k2
      have c0 := (unhide C2).cell 0 _ rfl
      have c1 := (unhide C2).cell 1 _ rfl
      have c2 := (unhide C2).cell 2 _ rfl
      have c3 := (unhide C2).cell 3 _ rfl
      have c4 := (unhide C2).cell 4 _ rfl
      have c5 := (unhide C2).cell 5 _ rfl
      have c6 := (unhide C2).cell 6 _ rfl
      have c7 := (unhide C2).cell 7 _ rfl
      have c8 := (unhide C2).cell 8 _ rfl
      have c9 := (unhide C2).cell 9 _ rfl
      have c10 := (unhide C2).cell 10 _ rfl
      cases n1 : scanN t q1 with
      | none =>
        have cA := hide (number_no (w.heap.size + 1) t q1 p _ ht (by omega) n1 (unhide D2) (unhide E2))
        have HN := hide (rc_2n h0 (r4_1 n1))
        go_wp2_with fail
        refine (unhide cA).mono ?_
        rintro e wx ⟨rfl, hx⟩
        exact ⟨rfl, rc_none (unhide HN), below_call (unhide B2) hx⟩
      | some y1 =>
        obtain ⟨x1, z1⟩ := y1
        have hz1 := (scanN_le n1).2
        have cA := hide (number_yes (w.heap.size + 1) t q1 z1 x1 _ ht (by omega) n1 (unhide D2))
        go_wp2_with fail
        refine (unhide cA).mono ?_
        rintro e wa ⟨rfl, hD, hg⟩
        have Da := hide hD
        have Ba := hide (belowG (unhide B2) hg (by omega) (by omega))
        have Ra := hide ((unhide R2).grownK hg (by omega))
        have Ca := hide ((unhide C2).grownK hg (by omega))
        have hla := Nat.le_trans hl2 hg.size
        have Ea := hide ((unhide HE).kept (unhide Ba))
        clear hD hg cA D2 B2 R2 E2 C2
        cases n2 : scanN t z1 with
        | none =>
          have cA := hide (number_no (w.heap.size + 1) t z1 p _ ht (by omega) n2 (unhide Da) (unhide Ea))
          have HN := hide (rc_2n h0 (r4_2 n1 n2))
          go_wp2_with fail
          refine (unhide cA).mono ?_
          rintro e wx ⟨rfl, hx⟩
          exact ⟨rfl, rc_none (unhide HN), below_call (unhide Ba) hx⟩
        | some y2 =>
          obtain ⟨x2, z2⟩ := y2
          have hz2 := (scanN_le n2).2
          have cA := hide (number_yes (w.heap.size + 1) t z1 z2 x2 _ ht (by omega) n2 (unhide Da))
          go_wp2_with fail
          refine (unhide cA).mono ?_
          rintro e wb ⟨rfl, hD, hg⟩
          have Db := hide hD
          have Bb := hide (belowG (unhide Ba) hg (by omega) (by omega))
          have Rb := hide ((unhide Ra).grownK hg (by omega))
          have Cb := hide ((unhide Ca).grownK hg (by omega))
          have hlb := Nat.le_trans hla hg.size
          have Eb := hide ((unhide HE).kept (unhide Bb))
          clear hD hg cA Da Ba Ra Ea Ca
          cases n3 : scanN t z2 with
          | none =>
            have cA := hide (number_no (w.heap.size + 1) t z2 p _ ht (by omega) n3 (unhide Db) (unhide Eb))
            have HN := hide (rc_2n h0 (r4_3 n1 n2 n3))
            go_wp2_with fail
            refine (unhide cA).mono ?_
            rintro e wx ⟨rfl, hx⟩
            exact ⟨rfl, rc_none (unhide HN), below_call (unhide Bb) hx⟩
          | some y3 =>
            obtain ⟨x3, z3⟩ := y3
            have hz3 := (scanN_le n3).2
            have cA := hide (number_yes (w.heap.size + 1) t z2 z3 x3 _ ht (by omega) n3 (unhide Db))
            go_wp2_with fail
            refine (unhide cA).mono ?_
            rintro e wc ⟨rfl, hD, hg⟩
            have Dc := hide hD
            have Bc := hide (belowG (unhide Bb) hg (by omega) (by omega))
            have Rc := hide ((unhide Rb).grownK hg (by omega))
            have Cc := hide ((unhide Cb).grownK hg (by omega))
            have hlc := Nat.le_trans hlb hg.size
            have Ec := hide ((unhide HE).kept (unhide Bc))
            clear hD hg cA Db Bb Rb Eb Cb
            cases n4 : scanN t z3 with
            | none =>
              have cA := hide (number_no (w.heap.size + 1) t z3 p _ ht (by omega) n4 (unhide Dc) (unhide Ec))
              have HN := hide (rc_2n h0 (r4_4 n1 n2 n3 n4))
              go_wp2_with fail
              refine (unhide cA).mono ?_
              rintro e wx ⟨rfl, hx⟩
              exact ⟨rfl, rc_none (unhide HN), below_call (unhide Bc) hx⟩
            | some y4 =>
              obtain ⟨x4, z4⟩ := y4
              have hz4 := (scanN_le n4).2
              have cA := hide (number_yes (w.heap.size + 1) t z3 z4 x4 _ ht (by omega) n4 (unhide Dc))
              go_wp2_with fail
              refine (unhide cA).mono ?_
              rintro e wd ⟨rfl, hD, hg⟩
              have Dd := hide hD
              have Bd := hide (belowG (unhide Bc) hg (by omega) (by omega))
              have Rd := hide ((unhide Rc).grownK hg (by omega))
              have Cd := hide ((unhide Cc).grownK hg (by omega))
              have hld := Nat.le_trans hlc hg.size
              have Ed := hide ((unhide HE).kept (unhide Bd))
              clear hD hg cA Dc Bc Rc Ec Cc
              have HR4 := hide (r4_s n1 n2 n3 n4)
              clear n1 n2 n3 n4
              have HRC := hide (rc_2s h0 (unhide HR4))
              have d0 := (unhide Dd).cell 0 _ rfl
              have d1 := (unhide Dd).cell 1 _ rfl
              have c0 := (unhide Cd).cell 0 _ rfl
              have c1 := (unhide Cd).cell 1 _ rfl
              have c2 := (unhide Cd).cell 2 _ rfl
              have c3 := (unhide Cd).cell 3 _ rfl
              have c4 := (unhide Cd).cell 4 _ rfl
              have c5 := (unhide Cd).cell 5 _ rfl
              have c6 := (unhide Cd).cell 6 _ rfl
              have c7 := (unhide Cd).cell 7 _ rfl
              have c8 := (unhide Cd).cell 8 _ rfl
              have c9 := (unhide Cd).cell 9 _ rfl
              have c10 := (unhide Cd).cell 10 _ rfl
              have k0 := (unhide Cd).free 0
              have k1 := (unhide Cd).free 1
              have k2 := (unhide Cd).free 2
              have k3 := (unhide Cd).free 3
              have k4 := (unhide Cd).free 4
              have k5 := (unhide Cd).free 5
              have k6 := (unhide Cd).free 6
              have k7 := (unhide Cd).free 7
              have k8 := (unhide Cd).free 8
              have k9 := (unhide Cd).free 9
              have k10 := (unhide Cd).free 10
              have r0 := (unhide Rd).cell 0 _ rfl
              have r1 := (unhide Rd).cell 1 _ rfl
              have r2 := (unhide Rd).cell 2 _ rfl
              have r3 := (unhide Rd).cell 3 _ rfl
              have r4 := (unhide Rd).cell 4 _ rfl
              have r5 := (unhide Rd).cell 5 _ rfl
              have r6 := (unhide Rd).cell 6 _ rfl
              have r7 := (unhide Rd).cell 7 _ rfl
              have r8 := (unhide Rd).cell 8 _ rfl
              have r9 := (unhide Rd).cell 9 _ rfl
              have r10 := (unhide Rd).cell 10 _ rfl
              have g0 := (unhide Rd).free 0
              have g1 := (unhide Rd).free 1
              have g2 := (unhide Rd).free 2
              have g3 := (unhide Rd).free 3
              have g4 := (unhide Rd).free 4
              have g5 := (unhide Rd).free 5
              have g6 := (unhide Rd).free 6
              have g7 := (unhide Rd).free 7
              have g8 := (unhide Rd).free 8
              have g9 := (unhide Rd).free 9
              have g10 := (unhide Rd).free 10
              by_cases hend : z4 = t.size
              · have hend' : ((z4 : Nat) : Int) = (t.size : Int) := by omega
                have hend2 : (((z4 : Nat) : Int) == (t.size : Int)) = true := by simpa using hend'
                go_wp2_with fail
                refine (must_yes _).mono ?_
                rintro e wy ⟨rfl, hw⟩
                rw [hw]
                clear hw wy
                go_wp2_with fail
                clear d0 d1 c0 c1 c2 c3 c4 c5 c6 c7 c8 c9 c10 k0 k1 k2 k3 k4 k5 k6 k7 k8 k9 k10 r0 r1 r2 r3 r4 r5 r6 r7 r8 r9 r10 g0 g1 g2 g3 g4 g5 g6 g7 g8 g9 g10
                refine bodyPost_ret (v := cmV ⟨2, x1, x2, x3, x4, [], 0, 0, ⟨#[]⟩, 0, 0⟩ (.slice none 0 0)) ?_ rfl ⟨rc_some (unhide HRC) (fun _ => ⟨_, rfl, ?_⟩) (fun h => absurd hend h), ?_⟩
                · refine res_readCommand _ _ w.heap.size ⟨2, x1, x2, x3, x4, [], 0, 0, ⟨#[]⟩, 0, 0⟩ (.slice none 0 0) rfl ?_
                  refine blk_set11 (L := [.int .i64 0, .int .i64 0, .int .i64 0, .int .i64 0, .int .i64 0, .slice none 0 0, .int .i64 0, .int .i64 0, .string ⟨#[]⟩, .int .i64 0, .int .i64 0]) (t := 35) ?_ rfl _ _ _ _ _ _ _ _ _ _ _
                  iterate 4 (refine Blk.other ?_ _ _ (show w.heap.size ≠ w1.heap.size by omega))
                  exact unhide Rd
                · exact World.ownsRow_nil _ _ _ _
                · iterate 11 (refine belowSetC ?_ (Nat.le_refl w.heap.size) _ _)
                  iterate 4 (refine belowSetC ?_ (show w.heap.size ≤ w1.heap.size by omega) _ _)
                  exact unhide Bd
              · have hend2 : (((z4 : Nat) : Int) == (t.size : Int)) = false := by simp; omega
                have hend' : ¬ ((z4 : Nat) : Int) = (t.size : Int) := by omega
                go_wp2_with fail
                clear d0 d1 c0 c1 c2 c3 c4 c5 c6 c7 c8 c9 c10 k0 k1 k2 k3 k4 k5 k6 k7 k8 k9 k10 r0 r1 r2 r3 r4 r5 r6 r7 r8 r9 r10 g0 g1 g2 g3 g4 g5 g6 g7 g8 g9 g10
                refine (must_no p _ ((unhide HE).kept ?_)).mono ?_
                · skip
                  iterate 4 (refine belowSetC ?_ (show w.heap.size ≤ w1.heap.size by omega) _ _)
                  exact unhide Bd
                rintro e wy ⟨rfl, hw⟩
                rw [hw]
                refine ⟨rfl, rc_some (unhide HRC) (fun h => absurd h hend) (fun _ => rfl), ?_⟩
                iterate 4 (refine belowSetC ?_ (show w.heap.size ≤ w1.heap.size by omega) _ _)
                exact unhide Bd
    by_cases k3 : kd = 3
    · subst k3
      have c0 := (unhide C2).cell 0 _ rfl
      have c1 := (unhide C2).cell 1 _ rfl
      have c2 := (unhide C2).cell 2 _ rfl
      have c3 := (unhide C2).cell 3 _ rfl
      have c4 := (unhide C2).cell 4 _ rfl
      have c5 := (unhide C2).cell 5 _ rfl
      have c6 := (unhide C2).cell 6 _ rfl
      have c7 := (unhide C2).cell 7 _ rfl
      have c8 := (unhide C2).cell 8 _ rfl
      have c9 := (unhide C2).cell 9 _ rfl
      have c10 := (unhide C2).cell 10 _ rfl
      have cA := hide (spots_any (w.heap.size + 1) t q1 p _ ht (by omega) hne (unhide D2) (unhide E2))
      go_wp2_with fail
      clear c0 c1 c2 c3 c4 c5 c6 c7 c8 c9 c10
      refine (unhide cA).mono ?_
      rintro e w3 ⟨hg, hend0⟩
      have B3 := hide (belowG (unhide B2) hg (by omega) (by omega))
      have R3 := hide ((unhide R2).grownK hg (by omega))
      have C3 := hide ((unhide C2).grownK hg (by omega))
      have hl3 := Nat.le_trans hl2 hg.size
      cases hsp : readSp t q1 with
      | none =>
        rw [hsp] at hend0
        have he : e = noCmd p := hend0
        subst he
        have HN : Hid (readCm t = none) := hide (rc_spn h0 hsp)
        exact ⟨rfl, rc_none (unhide HN), unhide B3⟩
      | some y =>
        obtain ⟨S, z4⟩ := y
        rw [hsp] at hend0
        obtain ⟨⟨v, rfl, hown⟩, hD⟩ := hend0
        have D3 := hide hD
        have hrow : ∀ z, v.ownBlock = some z → w1.heap.size < z := fun z hz => by have := (hown.lt z hz).1; omega
        have W3 := hide (own_lowC hown (show w.heap.size ≤ _ by omega))
        have HRC0 := hide (rc_sps h0 hsp)
        clear hD hown hg cA D2 B2 R2 C2 E2 hsp
        obtain ⟨va, vc, rfl⟩ := own_formC (unhide W3)
        have HRC := hide (unhide HRC0)
        have d0 := (unhide D3).cell 0 _ rfl
        have d1 := (unhide D3).cell 1 _ rfl
        have c0 := (unhide C3).cell 0 _ rfl
        have c1 := (unhide C3).cell 1 _ rfl
        have c2 := (unhide C3).cell 2 _ rfl
        have c3 := (unhide C3).cell 3 _ rfl
        have c4 := (unhide C3).cell 4 _ rfl
        have c5 := (unhide C3).cell 5 _ rfl
        have c6 := (unhide C3).cell 6 _ rfl
        have c7 := (unhide C3).cell 7 _ rfl
        have c8 := (unhide C3).cell 8 _ rfl
        have c9 := (unhide C3).cell 9 _ rfl
        have c10 := (unhide C3).cell 10 _ rfl
        have k0 := (unhide C3).free 0
        have k1 := (unhide C3).free 1
        have k2 := (unhide C3).free 2
        have k3 := (unhide C3).free 3
        have k4 := (unhide C3).free 4
        have k5 := (unhide C3).free 5
        have k6 := (unhide C3).free 6
        have k7 := (unhide C3).free 7
        have k8 := (unhide C3).free 8
        have k9 := (unhide C3).free 9
        have k10 := (unhide C3).free 10
        have r0 := (unhide R3).cell 0 _ rfl
        have r1 := (unhide R3).cell 1 _ rfl
        have r2 := (unhide R3).cell 2 _ rfl
        have r3 := (unhide R3).cell 3 _ rfl
        have r4 := (unhide R3).cell 4 _ rfl
        have r5 := (unhide R3).cell 5 _ rfl
        have r6 := (unhide R3).cell 6 _ rfl
        have r7 := (unhide R3).cell 7 _ rfl
        have r8 := (unhide R3).cell 8 _ rfl
        have r9 := (unhide R3).cell 9 _ rfl
        have r10 := (unhide R3).cell 10 _ rfl
        have g0 := (unhide R3).free 0
        have g1 := (unhide R3).free 1
        have g2 := (unhide R3).free 2
        have g3 := (unhide R3).free 3
        have g4 := (unhide R3).free 4
        have g5 := (unhide R3).free 5
        have g6 := (unhide R3).free 6
        have g7 := (unhide R3).free 7
        have g8 := (unhide R3).free 8
        have g9 := (unhide R3).free 9
        have g10 := (unhide R3).free 10
        by_cases hend : z4 = t.size
        · have hend' : ((z4 : Nat) : Int) = (t.size : Int) := by omega
          have hend2 : (((z4 : Nat) : Int) == (t.size : Int)) = true := by simpa using hend'
          go_wp2_with fail
          refine (must_yes _).mono ?_
          rintro e wy ⟨rfl, hw⟩
          rw [hw]
          clear hw wy
          go_wp2_with fail
          clear d0 d1 c0 c1 c2 c3 c4 c5 c6 c7 c8 c9 c10 k0 k1 k2 k3 k4 k5 k6 k7 k8 k9 k10 r0 r1 r2 r3 r4 r5 r6 r7 r8 r9 r10 g0 g1 g2 g3 g4 g5 g6 g7 g8 g9 g10
          refine bodyPost_ret (v := cmV ⟨3, 0, 0, 0, 0, S, 0, 0, ⟨#[]⟩, 0, 0⟩ (.slice va S.length vc)) ?_ rfl ⟨rc_some (unhide HRC) (fun _ => ⟨_, rfl, ?_⟩) (fun h => absurd hend h), ?_⟩
          · refine res_readCommand _ _ w.heap.size ⟨3, 0, 0, 0, 0, S, 0, 0, ⟨#[]⟩, 0, 0⟩ (.slice va S.length vc) rfl ?_
            refine blk_set11 (L := [.int .i64 0, .int .i64 0, .int .i64 0, .int .i64 0, .int .i64 0, .slice none 0 0, .int .i64 0, .int .i64 0, .string ⟨#[]⟩, .int .i64 0, .int .i64 0]) (t := 35) ?_ rfl _ _ _ _ _ _ _ _ _ _ _
            iterate 1 (refine Blk.other ?_ _ _ (show w.heap.size ≠ w1.heap.size by omega))
            exact unhide R3
          · iterate 11 (refine ownSetC ?_ (fun z hz => by have := hrow z hz; omega) _ _)
            refine ownSetC ?_ (fun z hz => by have := hrow z hz; omega) _ _
            exact unhide W3
          · iterate 11 (refine belowSetC ?_ (Nat.le_refl w.heap.size) _ _)
            iterate 1 (refine belowSetC ?_ (show w.heap.size ≤ w1.heap.size by omega) _ _)
            exact unhide B3
        · have hend2 : (((z4 : Nat) : Int) == (t.size : Int)) = false := by simp; omega
          have hend' : ¬ ((z4 : Nat) : Int) = (t.size : Int) := by omega
          go_wp2_with fail
          clear d0 d1 c0 c1 c2 c3 c4 c5 c6 c7 c8 c9 c10 k0 k1 k2 k3 k4 k5 k6 k7 k8 k9 k10 r0 r1 r2 r3 r4 r5 r6 r7 r8 r9 r10 g0 g1 g2 g3 g4 g5 g6 g7 g8 g9 g10
          refine (must_no p _ ((unhide HE).kept ?_)).mono ?_
          · skip
            iterate 1 (refine belowSetC ?_ (show w.heap.size ≤ w1.heap.size by omega) _ _)
            exact unhide B3
          rintro e wy ⟨rfl, hw⟩
          rw [hw]
          refine ⟨rfl, rc_some (unhide HRC) (fun h => absurd h hend) (fun _ => rfl), ?_⟩
          iterate 1 (refine belowSetC ?_ (show w.heap.size ≤ w1.heap.size by omega) _ _)
          exact unhide B3
    by_cases k4 : kd = 4
    · subst k4
      have c0 := (unhide C2).cell 0 _ rfl
      have c1 := (unhide C2).cell 1 _ rfl
      have c2 := (unhide C2).cell 2 _ rfl
      have c3 := (unhide C2).cell 3 _ rfl
      have c4 := (unhide C2).cell 4 _ rfl
      have c5 := (unhide C2).cell 5 _ rfl
      have c6 := (unhide C2).cell 6 _ rfl
      have c7 := (unhide C2).cell 7 _ rfl
      have c8 := (unhide C2).cell 8 _ rfl
      have c9 := (unhide C2).cell 9 _ rfl
      have c10 := (unhide C2).cell 10 _ rfl
      cases n1 : scanN t q1 with
      | none =>
        have cA := hide (number_no (w.heap.size + 1) t q1 p _ ht (by omega) n1 (unhide D2) (unhide E2))
        have HN := hide (rc_4n h0 (r4_1 n1))
        go_wp2_with fail
        refine (unhide cA).mono ?_
        rintro e wx ⟨rfl, hx⟩
        exact ⟨rfl, rc_none (unhide HN), below_call (unhide B2) hx⟩
      | some y1 =>
        obtain ⟨x1, z1⟩ := y1
        have hz1 := (scanN_le n1).2
        have cA := hide (number_yes (w.heap.size + 1) t q1 z1 x1 _ ht (by omega) n1 (unhide D2))
        go_wp2_with fail
        refine (unhide cA).mono ?_
        rintro e wa ⟨rfl, hD, hg⟩
        have Da := hide hD
        have Ba := hide (belowG (unhide B2) hg (by omega) (by omega))
        have Ra := hide ((unhide R2).grownK hg (by omega))
        have Ca := hide ((unhide C2).grownK hg (by omega))
        have hla := Nat.le_trans hl2 hg.size
        have Ea := hide ((unhide HE).kept (unhide Ba))
        clear hD hg cA D2 B2 R2 E2 C2
        cases n2 : scanN t z1 with
        | none =>
          have cA := hide (number_no (w.heap.size + 1) t z1 p _ ht (by omega) n2 (unhide Da) (unhide Ea))
          have HN := hide (rc_4n h0 (r4_2 n1 n2))
          go_wp2_with fail
          refine (unhide cA).mono ?_
          rintro e wx ⟨rfl, hx⟩
          exact ⟨rfl, rc_none (unhide HN), below_call (unhide Ba) hx⟩
        | some y2 =>
          obtain ⟨x2, z2⟩ := y2
          have hz2 := (scanN_le n2).2
          have cA := hide (number_yes (w.heap.size + 1) t z1 z2 x2 _ ht (by omega) n2 (unhide Da))
          go_wp2_with fail
          refine (unhide cA).mono ?_
          rintro e wb ⟨rfl, hD, hg⟩
          have Db := hide hD
          have Bb := hide (belowG (unhide Ba) hg (by omega) (by omega))
          have Rb := hide ((unhide Ra).grownK hg (by omega))
          have Cb := hide ((unhide Ca).grownK hg (by omega))
          have hlb := Nat.le_trans hla hg.size
          have Eb := hide ((unhide HE).kept (unhide Bb))
          clear hD hg cA Da Ba Ra Ea Ca
          have Ds := hide (((unhide Db).other ⟨w1.heap.size, 6, none⟩ (.int .i64 x1) (show w.heap.size + 1 ≠ w1.heap.size by omega)).other ⟨w1.heap.size, 7, none⟩ (.int .i64 x2) (show w.heap.size + 1 ≠ w1.heap.size by omega))
          have Rs := hide (((unhide Rb).other ⟨w1.heap.size, 6, none⟩ (.int .i64 x1) (show w.heap.size ≠ w1.heap.size by omega)).other ⟨w1.heap.size, 7, none⟩ (.int .i64 x2) (show w.heap.size ≠ w1.heap.size by omega))
          have Cs := hide (((unhide Cb).set 6 (.int .i64 x1)).set 7 (.int .i64 x2))
          have Bs := hide (belowSetC (belowSetC (unhide Bb) (show w.heap.size ≤ w1.heap.size by omega) 6 (.int .i64 x1)) (show w.heap.size ≤ w1.heap.size by omega) 7 (.int .i64 x2))
          have Es := hide ((unhide HE).kept (unhide Bs))
          have hls := (unhide Ds).lt
          have c0 := (unhide Cb).cell 0 _ rfl
          have c1 := (unhide Cb).cell 1 _ rfl
          have c2 := (unhide Cb).cell 2 _ rfl
          have c3 := (unhide Cb).cell 3 _ rfl
          have c4 := (unhide Cb).cell 4 _ rfl
          have c5 := (unhide Cb).cell 5 _ rfl
          have c6 := (unhide Cb).cell 6 _ rfl
          have c7 := (unhide Cb).cell 7 _ rfl
          have c8 := (unhide Cb).cell 8 _ rfl
          have c9 := (unhide Cb).cell 9 _ rfl
          have c10 := (unhide Cb).cell 10 _ rfl
          have k0 := (unhide Cb).free 0
          have k1 := (unhide Cb).free 1
          have k2 := (unhide Cb).free 2
          have k3 := (unhide Cb).free 3
          have k4 := (unhide Cb).free 4
          have k5 := (unhide Cb).free 5
          have k6 := (unhide Cb).free 6
          have k7 := (unhide Cb).free 7
          have k8 := (unhide Cb).free 8
          have k9 := (unhide Cb).free 9
          have k10 := (unhide Cb).free 10
          cases n3 : scanN t z2 with
          | none =>
            have cA := hide (number_no (w.heap.size + 1) t z2 p _ ht (by omega) n3 (unhide Ds) (unhide Es))
            have HN := hide (rc_4n h0 (r4_3 n1 n2 n3))
            go_wp2_with fail
            refine (unhide cA).mono ?_
            rintro e wx ⟨rfl, hx⟩
            exact ⟨rfl, rc_none (unhide HN), below_call (unhide Bs) hx⟩
          | some y3 =>
            obtain ⟨x3, z3⟩ := y3
            have hz3 := (scanN_le n3).2
            have cA := hide (number_yes (w.heap.size + 1) t z2 z3 x3 _ ht (by omega) n3 (unhide Ds))
            go_wp2_with fail
            clear c0 c1 c2 c3 c4 c5 c6 c7 c8 c9 c10 k0 k1 k2 k3 k4 k5 k6 k7 k8 k9 k10
            refine (unhide cA).mono ?_
            rintro e wc ⟨rfl, hD, hg⟩
            have Dc := hide hD
            have Bc := hide (belowG (unhide Bs) hg (by omega) (by omega))
            have Rc := hide ((unhide Rs).grownK hg (by omega))
            have Cc := hide ((unhide Cs).grownK hg (by omega))
            have hlc := Nat.le_trans hls hg.size
            have Ec := hide ((unhide HE).kept (unhide Bc))
            clear hD hg cA Ds Bs Rs Es Cs
            cases n4 : scanN t z3 with
            | none =>
              have cA := hide (number_no (w.heap.size + 1) t z3 p _ ht (by omega) n4 (unhide Dc) (unhide Ec))
              have HN := hide (rc_4n h0 (r4_4 n1 n2 n3 n4))
              go_wp2_with fail
              refine (unhide cA).mono ?_
              rintro e wx ⟨rfl, hx⟩
              exact ⟨rfl, rc_none (unhide HN), below_call (unhide Bc) hx⟩
            | some y4 =>
              obtain ⟨x4, z4⟩ := y4
              have hz4 := (scanN_le n4).2
              have cA := hide (number_yes (w.heap.size + 1) t z3 z4 x4 _ ht (by omega) n4 (unhide Dc))
              go_wp2_with fail
              refine (unhide cA).mono ?_
              rintro e wd ⟨rfl, hD, hg⟩
              have Dd := hide hD
              have Bd := hide (belowG (unhide Bc) hg (by omega) (by omega))
              have Rd := hide ((unhide Rc).grownK hg (by omega))
              have Cd := hide ((unhide Cc).grownK hg (by omega))
              have hld := Nat.le_trans hlc hg.size
              have Ed := hide ((unhide HE).kept (unhide Bd))
              clear hD hg cA Dc Bc Rc Ec Cc
              have HR4 := hide (r4_s n1 n2 n3 n4)
              clear n1 n2 n3 n4
              have Du := hide (((unhide Dd).other ⟨w1.heap.size, 9, none⟩ (.int .i64 x3) (show w.heap.size + 1 ≠ w1.heap.size by omega)).other ⟨w1.heap.size, 10, none⟩ (.int .i64 x4) (show w.heap.size + 1 ≠ w1.heap.size by omega))
              have Ru := hide (((unhide Rd).other ⟨w1.heap.size, 9, none⟩ (.int .i64 x3) (show w.heap.size ≠ w1.heap.size by omega)).other ⟨w1.heap.size, 10, none⟩ (.int .i64 x4) (show w.heap.size ≠ w1.heap.size by omega))
              have Cu := hide (((unhide Cd).set 9 (.int .i64 x3)).set 10 (.int .i64 x4))
              have Bu := hide (belowSetC (belowSetC (unhide Bd) (show w.heap.size ≤ w1.heap.size by omega) 9 (.int .i64 x3)) (show w.heap.size ≤ w1.heap.size by omega) 10 (.int .i64 x4))
              have Eu := hide ((unhide HE).kept (unhide Bu))
              have hlu := (unhide Du).lt
              have c0 := (unhide Cd).cell 0 _ rfl
              have c1 := (unhide Cd).cell 1 _ rfl
              have c2 := (unhide Cd).cell 2 _ rfl
              have c3 := (unhide Cd).cell 3 _ rfl
              have c4 := (unhide Cd).cell 4 _ rfl
              have c5 := (unhide Cd).cell 5 _ rfl
              have c6 := (unhide Cd).cell 6 _ rfl
              have c7 := (unhide Cd).cell 7 _ rfl
              have c8 := (unhide Cd).cell 8 _ rfl
              have c9 := (unhide Cd).cell 9 _ rfl
              have c10 := (unhide Cd).cell 10 _ rfl
              have k0 := (unhide Cd).free 0
              have k1 := (unhide Cd).free 1
              have k2 := (unhide Cd).free 2
              have k3 := (unhide Cd).free 3
              have k4 := (unhide Cd).free 4
              have k5 := (unhide Cd).free 5
              have k6 := (unhide Cd).free 6
              have k7 := (unhide Cd).free 7
              have k8 := (unhide Cd).free 8
              have k9 := (unhide Cd).free 9
              have k10 := (unhide Cd).free 10
              cases n5 : textN t z4 with
              | none =>
                have cA := hide (text_no (w.heap.size + 1) t z4 p _ ht (by omega) n5 (unhide Du) (unhide Eu))
                have HN := hide (rc_4t h0 (unhide HR4) n5)
                go_wp2_with fail
                refine (unhide cA).mono ?_
                rintro e wx ⟨rfl, hx⟩
                exact ⟨rfl, rc_none (unhide HN), below_call (unhide Bu) hx⟩
              | some y5 =>
                obtain ⟨px, z5⟩ := y5
                have cA := hide (text_yes (w.heap.size + 1) t z4 z5 px _ ht (by omega) n5 (unhide Du))
                go_wp2_with fail
                clear c0 c1 c2 c3 c4 c5 c6 c7 c8 c9 c10 k0 k1 k2 k3 k4 k5 k6 k7 k8 k9 k10
                refine (unhide cA).mono ?_
                rintro e wv ⟨rfl, hD, hg⟩
                have Dv := hide hD
                have Bv := hide (belowG (unhide Bu) hg (by omega) (by omega))
                have Rv := hide ((unhide Ru).grownK hg (by omega))
                have Cv := hide ((unhide Cu).grownK hg (by omega))
                have hlv := Nat.le_trans hlu hg.size
                have Ev := hide ((unhide HE).kept (unhide Bv))
                clear hD hg cA Du Bu Ru Eu Cu
                have HRC := hide (rc_4s h0 (unhide HR4) n5)
                have d0 := (unhide Dv).cell 0 _ rfl
                have d1 := (unhide Dv).cell 1 _ rfl
                have c0 := (unhide Cv).cell 0 _ rfl
                have c1 := (unhide Cv).cell 1 _ rfl
                have c2 := (unhide Cv).cell 2 _ rfl
                have c3 := (unhide Cv).cell 3 _ rfl
                have c4 := (unhide Cv).cell 4 _ rfl
                have c5 := (unhide Cv).cell 5 _ rfl
                have c6 := (unhide Cv).cell 6 _ rfl
                have c7 := (unhide Cv).cell 7 _ rfl
                have c8 := (unhide Cv).cell 8 _ rfl
                have c9 := (unhide Cv).cell 9 _ rfl
                have c10 := (unhide Cv).cell 10 _ rfl
                have k0 := (unhide Cv).free 0
                have k1 := (unhide Cv).free 1
                have k2 := (unhide Cv).free 2
                have k3 := (unhide Cv).free 3
                have k4 := (unhide Cv).free 4
                have k5 := (unhide Cv).free 5
                have k6 := (unhide Cv).free 6
                have k7 := (unhide Cv).free 7
                have k8 := (unhide Cv).free 8
                have k9 := (unhide Cv).free 9
                have k10 := (unhide Cv).free 10
                have r0 := (unhide Rv).cell 0 _ rfl
                have r1 := (unhide Rv).cell 1 _ rfl
                have r2 := (unhide Rv).cell 2 _ rfl
                have r3 := (unhide Rv).cell 3 _ rfl
                have r4 := (unhide Rv).cell 4 _ rfl
                have r5 := (unhide Rv).cell 5 _ rfl
                have r6 := (unhide Rv).cell 6 _ rfl
                have r7 := (unhide Rv).cell 7 _ rfl
                have r8 := (unhide Rv).cell 8 _ rfl
                have r9 := (unhide Rv).cell 9 _ rfl
                have r10 := (unhide Rv).cell 10 _ rfl
                have g0 := (unhide Rv).free 0
                have g1 := (unhide Rv).free 1
                have g2 := (unhide Rv).free 2
                have g3 := (unhide Rv).free 3
                have g4 := (unhide Rv).free 4
                have g5 := (unhide Rv).free 5
                have g6 := (unhide Rv).free 6
                have g7 := (unhide Rv).free 7
                have g8 := (unhide Rv).free 8
                have g9 := (unhide Rv).free 9
                have g10 := (unhide Rv).free 10
                by_cases hend : z5 = t.size
                · have hend' : ((z5 : Nat) : Int) = (t.size : Int) := by omega
                  have hend2 : (((z5 : Nat) : Int) == (t.size : Int)) = true := by simpa using hend'
                  go_wp2_with fail
                  refine (must_yes _).mono ?_
                  rintro e wy ⟨rfl, hw⟩
                  rw [hw]
                  clear hw wy
                  go_wp2_with fail
                  clear d0 d1 c0 c1 c2 c3 c4 c5 c6 c7 c8 c9 c10 k0 k1 k2 k3 k4 k5 k6 k7 k8 k9 k10 r0 r1 r2 r3 r4 r5 r6 r7 r8 r9 r10 g0 g1 g2 g3 g4 g5 g6 g7 g8 g9 g10
                  refine bodyPost_ret (v := cmV ⟨4, 0, 0, 0, 0, [], x1, x2, px, x3, x4⟩ (.slice none 0 0)) ?_ rfl ⟨rc_some (unhide HRC) (fun _ => ⟨_, rfl, ?_⟩) (fun h => absurd hend h), ?_⟩
                  · refine res_readCommand _ _ w.heap.size ⟨4, 0, 0, 0, 0, [], x1, x2, px, x3, x4⟩ (.slice none 0 0) rfl ?_
                    refine blk_set11 (L := [.int .i64 0, .int .i64 0, .int .i64 0, .int .i64 0, .int .i64 0, .slice none 0 0, .int .i64 0, .int .i64 0, .string ⟨#[]⟩, .int .i64 0, .int .i64 0]) (t := 35) ?_ rfl _ _ _ _ _ _ _ _ _ _ _
                    iterate 1 (refine Blk.other ?_ _ _ (show w.heap.size ≠ w1.heap.size by omega))
                    exact unhide Rv
                  · exact World.ownsRow_nil _ _ _ _
                  · iterate 11 (refine belowSetC ?_ (Nat.le_refl w.heap.size) _ _)
                    iterate 1 (refine belowSetC ?_ (show w.heap.size ≤ w1.heap.size by omega) _ _)
                    exact unhide Bv
                · have hend2 : (((z5 : Nat) : Int) == (t.size : Int)) = false := by simp; omega
                  have hend' : ¬ ((z5 : Nat) : Int) = (t.size : Int) := by omega
                  go_wp2_with fail
                  clear d0 d1 c0 c1 c2 c3 c4 c5 c6 c7 c8 c9 c10 k0 k1 k2 k3 k4 k5 k6 k7 k8 k9 k10 r0 r1 r2 r3 r4 r5 r6 r7 r8 r9 r10 g0 g1 g2 g3 g4 g5 g6 g7 g8 g9 g10
                  refine (must_no p _ ((unhide HE).kept ?_)).mono ?_
                  · skip
                    iterate 1 (refine belowSetC ?_ (show w.heap.size ≤ w1.heap.size by omega) _ _)
                    exact unhide Bv
                  rintro e wy ⟨rfl, hw⟩
                  rw [hw]
                  refine ⟨rfl, rc_some (unhide HRC) (fun h => absurd h hend) (fun _ => rfl), ?_⟩
                  iterate 1 (refine belowSetC ?_ (show w.heap.size ≤ w1.heap.size by omega) _ _)
                  exact unhide Bv
    have c0 := (unhide C2).cell 0 _ rfl
    have c1 := (unhide C2).cell 1 _ rfl
    have c2 := (unhide C2).cell 2 _ rfl
    have c3 := (unhide C2).cell 3 _ rfl
    have c4 := (unhide C2).cell 4 _ rfl
    have c5 := (unhide C2).cell 5 _ rfl
    have c6 := (unhide C2).cell 6 _ rfl
    have c7 := (unhide C2).cell 7 _ rfl
    have c8 := (unhide C2).cell 8 _ rfl
    have c9 := (unhide C2).cell 9 _ rfl
    have c10 := (unhide C2).cell 10 _ rfl
    have HK := hide (rc_o h0 k2 k3 k4)
    have HRC := hide (unhide HK)
    have d0 := (unhide D2).cell 0 _ rfl
    have d1 := (unhide D2).cell 1 _ rfl
    have c0 := (unhide C2).cell 0 _ rfl
    have c1 := (unhide C2).cell 1 _ rfl
    have c2 := (unhide C2).cell 2 _ rfl
    have c3 := (unhide C2).cell 3 _ rfl
    have c4 := (unhide C2).cell 4 _ rfl
    have c5 := (unhide C2).cell 5 _ rfl
    have c6 := (unhide C2).cell 6 _ rfl
    have c7 := (unhide C2).cell 7 _ rfl
    have c8 := (unhide C2).cell 8 _ rfl
    have c9 := (unhide C2).cell 9 _ rfl
    have c10 := (unhide C2).cell 10 _ rfl
    have k0 := (unhide C2).free 0
    have k1 := (unhide C2).free 1
    have k2 := (unhide C2).free 2
    have k3 := (unhide C2).free 3
    have k4 := (unhide C2).free 4
    have k5 := (unhide C2).free 5
    have k6 := (unhide C2).free 6
    have k7 := (unhide C2).free 7
    have k8 := (unhide C2).free 8
    have k9 := (unhide C2).free 9
    have k10 := (unhide C2).free 10
    have r0 := (unhide R2).cell 0 _ rfl
    have r1 := (unhide R2).cell 1 _ rfl
    have r2 := (unhide R2).cell 2 _ rfl
    have r3 := (unhide R2).cell 3 _ rfl
    have r4 := (unhide R2).cell 4 _ rfl
    have r5 := (unhide R2).cell 5 _ rfl
    have r6 := (unhide R2).cell 6 _ rfl
    have r7 := (unhide R2).cell 7 _ rfl
    have r8 := (unhide R2).cell 8 _ rfl
    have r9 := (unhide R2).cell 9 _ rfl
    have r10 := (unhide R2).cell 10 _ rfl
    have g0 := (unhide R2).free 0
    have g1 := (unhide R2).free 1
    have g2 := (unhide R2).free 2
    have g3 := (unhide R2).free 3
    have g4 := (unhide R2).free 4
    have g5 := (unhide R2).free 5
    have g6 := (unhide R2).free 6
    have g7 := (unhide R2).free 7
    have g8 := (unhide R2).free 8
    have g9 := (unhide R2).free 9
    have g10 := (unhide R2).free 10
    by_cases hend : q1 = t.size
    · have hend' : ((q1 : Nat) : Int) = (t.size : Int) := by omega
      have hend2 : (((q1 : Nat) : Int) == (t.size : Int)) = true := by simpa using hend'
      go_wp2_with fail
      refine (must_yes _).mono ?_
      rintro e wy ⟨rfl, hw⟩
      rw [hw]
      clear hw wy
      go_wp2_with fail
      clear d0 d1 c0 c1 c2 c3 c4 c5 c6 c7 c8 c9 c10 k0 k1 k2 k3 k4 k5 k6 k7 k8 k9 k10 r0 r1 r2 r3 r4 r5 r6 r7 r8 r9 r10 g0 g1 g2 g3 g4 g5 g6 g7 g8 g9 g10
      refine bodyPost_ret (v := cmV ⟨kd, 0, 0, 0, 0, [], 0, 0, ⟨#[]⟩, 0, 0⟩ (.slice none 0 0)) ?_ rfl ⟨rc_some (unhide HRC) (fun _ => ⟨_, rfl, ?_⟩) (fun h => absurd hend h), ?_⟩
      · refine res_readCommand _ _ w.heap.size ⟨kd, 0, 0, 0, 0, [], 0, 0, ⟨#[]⟩, 0, 0⟩ (.slice none 0 0) rfl ?_
        refine blk_set11 (L := [.int .i64 0, .int .i64 0, .int .i64 0, .int .i64 0, .int .i64 0, .slice none 0 0, .int .i64 0, .int .i64 0, .string ⟨#[]⟩, .int .i64 0, .int .i64 0]) (t := 35) ?_ rfl _ _ _ _ _ _ _ _ _ _ _
        exact unhide R2
      · exact World.ownsRow_nil _ _ _ _
      · iterate 11 (refine belowSetC ?_ (Nat.le_refl w.heap.size) _ _)
        exact unhide B2
    · have hend2 : (((q1 : Nat) : Int) == (t.size : Int)) = false := by simp; omega
      have hend' : ¬ ((q1 : Nat) : Int) = (t.size : Int) := by omega
      go_wp2_with fail
      clear d0 d1 c0 c1 c2 c3 c4 c5 c6 c7 c8 c9 c10 k0 k1 k2 k3 k4 k5 k6 k7 k8 k9 k10 r0 r1 r2 r3 r4 r5 r6 r7 r8 r9 r10 g0 g1 g2 g3 g4 g5 g6 g7 g8 g9 g10
      refine (must_no p _ ((unhide HE).kept ?_)).mono ?_
      · skip
        exact unhide B2
      rintro e wy ⟨rfl, hw⟩
      rw [hw]
      refine ⟨rfl, rc_some (unhide HRC) (fun h => absurd h hend) (fun _ => rfl), ?_⟩
      exact unhide B2
end Go.Proofs.YtnffnjljjecphaaDoor
