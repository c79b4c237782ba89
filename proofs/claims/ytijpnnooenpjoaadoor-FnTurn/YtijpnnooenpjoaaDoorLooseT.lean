/- looseTurn, the program's: a turn's text gone through rune by rune. -/
import Derived.Test.YtijpnnooenpjoaaDoorTurnC
import Derived.Test.YtijpnnooenpjoaaDoorReadMath
import Derived.Laws.RangeString
import Derived.Laws.RangeAny
import Derived.Lib.OthersKept
namespace Go.Proofs.YtijpnnooenpjoaaDoor
open Go.RowKit
set_option linter.unusedVariables false

theorem TurnAt.block {w w' : World} {b : Nat} {p q r s : Int} (h : TurnAt w b p q r s) (e : w'.heap[b]? = w.heap[b]?) : TurnAt w' b p q r s := by
  obtain ⟨h0, h1, h2, h3⟩ := h
  exact ⟨by rw [World.cell?_of_block (a := ⟨b, 0, none⟩) e]; exact h0, by rw [World.cell?_of_block (a := ⟨b, 1, none⟩) e]; exact h1, by rw [World.cell?_of_block (a := ⟨b, 2, none⟩) e]; exact h2, by rw [World.cell?_of_block (a := ⟨b, 3, none⟩) e]; exact h3⟩
theorem FreeT.block {w w' : World} {b : Nat} (h : FreeT w b) (e : w'.heap[b]? = w.heap[b]?) : FreeT w' b := by
  obtain ⟨h0, h1, h2, h3⟩ := h
  exact ⟨by rw [World.frozen?_of_block (a := ⟨b, 0, none⟩) e]; exact h0, by rw [World.frozen?_of_block (a := ⟨b, 1, none⟩) e]; exact h1, by rw [World.frozen?_of_block (a := ⟨b, 2, none⟩) e]; exact h2, by rw [World.frozen?_of_block (a := ⟨b, 3, none⟩) e]; exact h3⟩
def LInv (w wr : World) (s : ByteArray) (br bp bi : Nat) (t : LSt) (pos : Nat) : Prop :=
  TurnAt wr bp t.a t.b t.c t.d ∧ FreeT wr bp ∧ TurnAt wr br 0 0 0 0 ∧ FreeT wr br ∧ wr.heap[bi]? = some (.stringIter s pos) ∧ Below w.heap.size w wr
theorem LInv.next {w wr : World} {s : ByteArray} {br bp bi : Nat} {t : LSt} {pos : Nat} (h : LInv w wr s br bp bi t pos) (h1 : bp ≠ bi) (h2 : br ≠ bi) (h3 : w.heap.size ≤ bi) (p : Nat) : LInv w (wr.iterAt bi s p) s br bp bi t p := by
  obtain ⟨i1, i2, i3, i4, i5, i6⟩ := h
  exact ⟨i1.block (Lib.iterAt_other _ _ _ _ _ h1), i2.block (Lib.iterAt_other _ _ _ _ _ h1), i3.block (Lib.iterAt_other _ _ _ _ _ h2), i4.block (Lib.iterAt_other _ _ _ _ _ h2), Lib.iterAt_heap _ _ _ _ _ i5, Lib.below_iterAt i6 h3 _ _⟩
theorem LInv.cell {w wr : World} {s : ByteArray} {br bp bi : Nat} {t : LSt} {pos : Nat} (h : LInv w wr s br bp bi t pos) (hp : t.pl ≤ 3) : wr.cell? ⟨bp, t.pl, none⟩ = some (.int .i64 t.part) ∧ wr.frozen? ⟨bp, t.pl, none⟩ = false := by
  obtain ⟨⟨c0, c1, c2, c3⟩, ⟨f0, f1, f2, f3⟩, _⟩ := h
  unfold LSt.part
  rcases (show t.pl = 0 ∨ t.pl = 1 ∨ t.pl = 2 ∨ t.pl = 3 by omega) with e | e | e | e <;> rw [e]
  · exact ⟨c0, f0⟩
  · exact ⟨c1, f1⟩
  · exact ⟨c2, f2⟩
  · exact ⟨c3, f3⟩
theorem LInv.put {w wr : World} {s : ByteArray} {br bp bi : Nat} {t : LSt} {pos : Nat} (h : LInv w wr s br bp bi t pos) (hp : t.pl ≤ 3) (h1 : br ≠ bp) (h2 : bi ≠ bp) (h3 : w.heap.size ≤ bp) (v : Int) : LInv w (wr.setCell ⟨bp, t.pl, none⟩ (.int .i64 v)) s br bp bi (t.put v) pos := by
  obtain ⟨⟨c0, c1, c2, c3⟩, ⟨f0, f1, f2, f3⟩, i3, i4, i5, i6⟩ := h
  refine ⟨?_, ?_, i3.block (Below.heap_setCell _ _ _ _ h1), i4.block (Below.heap_setCell _ _ _ _ h1), (Below.heap_setCell _ _ _ _ h2).trans i5, i6.setCell h3 _⟩
  · unfold LSt.put
    rcases (show t.pl = 0 ∨ t.pl = 1 ∨ t.pl = 2 ∨ t.pl = 3 by omega) with e | e | e | e <;> rw [e] <;> (refine ⟨?_, ?_, ?_, ?_⟩ <;> simp [go_sem, c0, c1, c2, c3])
  · refine ⟨?_, ?_, ?_, ?_⟩ <;> simp [go_sem, f0, f1, f2, f3]
theorem put_pl (t : LSt) (v : Int) : (t.put v).pl = t.pl ∧ (t.put v).sg = t.sg := by
  unfold LSt.put
  split
  · exact ⟨rfl, rfl⟩
  · split
    · exact ⟨rfl, rfl⟩
    · split <;> exact ⟨rfl, rfl⟩
theorem put_part (t : LSt) (v : Int) : (t.put v).part = v := by
  unfold LSt.put LSt.part
  by_cases h0 : t.pl = 0
  · simp [h0]
  · by_cases h1 : t.pl = 1
    · simp [h1]
    · by_cases h2 : t.pl = 2
      · simp [h2]
      · simp [h0, h1, h2]
theorem okS_put {t : LSt} {v : Int} (h : okS t) (hv : -5 ≤ v ∧ v ≤ 5) : okS (t.put v) := by
  obtain ⟨h0, h1, h2, h3, h4, h5⟩ := h
  unfold LSt.put
  split
  · exact ⟨h0, h1, hv, h3, h4, h5⟩
  · split
    · exact ⟨h0, h1, h2, hv, h4, h5⟩
    · split
      · exact ⟨h0, h1, h2, h3, hv, h5⟩
      · exact ⟨h0, h1, h2, h3, h4, hv⟩
theorem loose_next {s : ByteArray} {pos : Nat} {t u : LSt} (h : looseN s pos = some t) (hp : pos < s.size) (hs : stepL t s[pos].toNat = some u) : looseN s (pos + 1) = some u := by
  show (looseN s pos).bind _ = _
  rw [h, byteN_lt hp]
  exact hs
theorem loose_dead {s : ByteArray} {pos : Nat} {t : LSt} (h : looseN s pos = some t) (hp : pos < s.size) (hs : stepL t s[pos].toNat = none) : looseP s = ⟨0, 0, 0, 0, 0, 0⟩ := by
  have : looseN s (pos + 1) = none := by
    show (looseN s pos).bind _ = _
    rw [h, byteN_lt hp]
    exact hs
  unfold looseP
  rw [looseN_none this (by omega)]
  rfl
theorem step_comma {t : LSt} (h : okS t) (hp : t.pl < 3) : stepL t 44 = some { t with pl := t.pl + 1, sg := 1 } ∧ okS { t with pl := t.pl + 1, sg := 1 } := by
  have ho : okS { t with pl := t.pl + 1, sg := 1 } := by
    obtain ⟨h0, h1, h2⟩ := h
    exact ⟨by show t.pl + 1 ≤ 3; omega, .inl rfl, h2⟩
  refine ⟨?_, ho⟩
  unfold stepL stepR
  rw [if_pos ⟨rfl, hp⟩]
  show (if _ then _ else _) = _
  rw [if_pos (okS_part ho)]
theorem step_minus {t : LSt} (h : okS t) : stepL t 45 = some { t with sg := -1 } ∧ okS { t with sg := -1 } := by
  have ho : okS { t with sg := -1 } := by
    obtain ⟨h0, h1, h2⟩ := h
    exact ⟨h0, .inr rfl, h2⟩
  refine ⟨?_, ho⟩
  unfold stepL stepR
  rw [if_neg (fun e => absurd e.1 (by decide)), if_pos rfl]
  show (if _ then _ else _) = _
  rw [if_pos (okS_part ho)]
def digV (t : LSt) (x : Nat) : Int := 10 * t.part + t.sg * ((x : Int) - 48)
theorem digV_le {t : LSt} {x : Nat} (h : okS t) (h1 : 48 ≤ x) (h2 : x ≤ 57) : -59 ≤ digV t x ∧ digV t x ≤ 59 := by
  have hp := okS_part h
  unfold digV
  rcases h.2.1 with e | e <;> rw [e] <;> omega
theorem step_digit {t : LSt} {x : Nat} (h : okS t) (h1 : 48 ≤ x) (h2 : x ≤ 57) (hv : -5 ≤ digV t x ∧ digV t x ≤ 5) : stepL t x = some (t.put (digV t x)) ∧ okS (t.put (digV t x)) := by
  refine ⟨?_, okS_put h hv⟩
  unfold stepL stepR
  rw [if_neg (fun e => by omega), if_neg (by omega), if_pos ⟨h1, h2⟩]
  show (if _ then _ else _) = _
  rw [if_pos (by rw [put_part]; exact hv)]
  rfl
theorem step_far {t : LSt} {x : Nat} (h1 : 48 ≤ x) (h2 : x ≤ 57) (hv : ¬ (-5 ≤ digV t x ∧ digV t x ≤ 5)) : stepL t x = none := by
  unfold stepL stepR
  rw [if_neg (fun e => by omega), if_neg (by omega), if_pos ⟨h1, h2⟩]
  show (if _ then _ else _) = _
  rw [if_neg (by rw [put_part]; exact hv)]
theorem step_none {t : LSt} {x : Nat} (h1 : ¬ (x = 44 ∧ t.pl < 3)) (h2 : x ≠ 45) (h3 : ¬ (48 ≤ x ∧ x ≤ 57)) : stepL t x = none := by
  unfold stepL stepR
  rw [if_neg h1, if_neg h2, if_neg h3]
  rfl

set_option maxHeartbeats 1000000 in
set_option maxRecDepth 100000 in
theorem looseTurn_any (s : ByteArray) (w : World) (hs : s.size ≤ 8000) :
    Calls Tryd.prog 57 #[.string s] w fun e w' => e = .returned (.agg #[.int .i64 (looseP s).a, .int .i64 (looseP s).b, .int .i64 (looseP s).c, .int .i64 (looseP s).d]) ∧ Below w.heap.size w w' := by
  go_enter Tryd.func57, Tryd.ntmps57
  go_wp2_with fail
  have H0 : Hid (LInv w (((w.alloc (.cells #[.int .i64 0, .int .i64 0, .int .i64 0, .int .i64 0] 37)).alloc (.cells #[.int .i64 0, .int .i64 0, .int .i64 0, .int .i64 0] 83)).iter s 0) s w.heap.size (w.heap.size + 1) (w.heap.size + 1 + 1) st0 0) := hide (by
    refine ⟨?_, ?_, ?_, ?_, ?_, ?_⟩
    · exact (show TurnAt _ (w.heap.size + 1) 0 0 0 0 by simpa using turnAt_new (w.alloc _) 0 0 0 0 _).alloc _
    · exact (show FreeT _ (w.heap.size + 1) by simpa using freeT_new (w.alloc _) 0 0 0 0 _).kept (by simp) (below1 _ _)
    · exact ((turnAt_new w 0 0 0 0 _).alloc _).alloc _
    · exact ((freeT_new w 0 0 0 0 _).kept (by simp) (below1 _ _)).kept (by simp; omega) (below1 _ _)
    · have := World.iter_heap ((w.alloc (.cells #[.int .i64 0, .int .i64 0, .int .i64 0, .int .i64 0] 37)).alloc (.cells #[.int .i64 0, .int .i64 0, .int .i64 0, .int .i64 0] 83)) s 0
      simpa using this
    · exact below3 _ _ _ _)
  generalize ((w.alloc (.cells #[.int .i64 0, .int .i64 0, .int .i64 0, .int .i64 0] 37)).alloc (.cells #[.int .i64 0, .int .i64 0, .int .i64 0, .int .i64 0] 83)).iter s 0 = w0 at H0 ⊢
  have g1 : w.heap.size ≠ w.heap.size + 1 := by omega
  have g2 : w.heap.size + 1 ≠ w.heap.size + 1 + 1 := by omega
  have g3 : w.heap.size ≠ w.heap.size + 1 + 1 := by omega
  have g4 : w.heap.size ≤ w.heap.size + 1 := by omega
  have g5 : w.heap.size ≤ w.heap.size + 1 + 1 := by omega
  have g6 : w.heap.size ≤ w.heap.size := Nat.le_refl _
  generalize w.heap.size + 1 + 1 = bi at H0 g2 g3 g5 ⊢
  generalize w.heap.size + 1 = bp at H0 g1 g2 g4 ⊢
  have HG := hide (And.intro g1 (And.intro g2 (And.intro g3 (And.intro g4 g5))))
  clear g1 g2 g3 g4 g5 g6
  go_loopw [4, 5] (fun u v wr => ∃ (t : LSt) (pos : Nat), u = .int .i64 (t.pl : Int) ∧ v = .int .i64 t.sg ∧ Hid (looseN s pos = some t) ∧ Hid (okS t) ∧ Hid (pos ≤ s.size) ∧ Hid (LInv w wr s w.heap.size bp bi t pos)) (fun _ _ wr => s.size - wr.iterPos bi)
  case atStart => exact ⟨st0, 0, rfl, rfl, hide rfl, hide ⟨by decide, .inl rfl, by decide, by decide, by decide, by decide⟩, hide (Nat.zero_le _), H0⟩
  case round =>
    clear H0
    obtain ⟨t, pos, rfl, rfl, HL, HO, HP, HI⟩ := hrel
    have hit : wr.iterPos bi = pos := by have := (unhide HI).2.2.2.2.1; simp [World.iterPos, this]
    by_cases hp : pos < s.size
    · obtain ⟨W1, hW⟩ : ∃ W, wr.iterAt bi s (pos + (Utf8.decode s pos).2) = W := ⟨_, rfl⟩
      have hnx : ∀ ty, (Instr.next (.pointer (some ⟨bi, 0, none⟩)) true ty).run Tryd.prog wr = .ok (.tuple #[.bool true, .int .i64 pos, .int .i32 (Utf8.decode s pos).1]) W1 := fun ty => by rw [← hW]; exact Lib.run_next_any_at wr bi s pos ty (unhide HI).2.2.2.2.1 hp
      have HI1 : Hid (LInv w W1 s w.heap.size bp bi t (pos + (Utf8.decode s pos).2)) := hide (by rw [← hW]; exact (unhide HI).next (unhide HG).2.1 (unhide HG).2.2.1 (unhide HG).2.2.2.2 _)
      have HD : Hid ((s[pos].toNat < 128 ∧ Utf8.decode s pos = (s[pos].toNat, 1)) ∨ (128 ≤ s[pos].toNat ∧ 128 ≤ (Utf8.decode s pos).1)) := hide (by
        by_cases h : s[pos].toNat < 128
        · exact .inl ⟨h, decode_ascii s pos hp h⟩
        · exact .inr ⟨by omega, (decode_high s pos hp (by omega)).1⟩)
      have HS : Hid (∀ u, stepL t s[pos].toNat = some u → looseN s (pos + 1) = some u) := hide (fun u hu => loose_next (unhide HL) hp hu)
      have HX : Hid (stepL t s[pos].toNat = none → looseP s = ⟨0, 0, 0, 0, 0, 0⟩) := hide (fun hu => loose_dead (unhide HL) hp hu)
      have hpl : (t.pl : Int) ≤ 3 := by have := (unhide HO).1; omega
      clear hW HI HL
      obtain ⟨r, hr⟩ : ∃ r, (Utf8.decode s pos).1 = r := ⟨_, rfl⟩
      obtain ⟨x, hx⟩ : ∃ x, s[pos].toNat = x := ⟨_, rfl⟩
      obtain ⟨q, hq⟩ : ∃ q, pos + (Utf8.decode s pos).2 = q := ⟨_, rfl⟩
      rw [hr] at hnx
      rw [hq] at HI1
      rw [hx] at HS HX
      have HE : Hid ((x < 128 ∧ r = x ∧ q = pos + 1) ∨ (128 ≤ x ∧ 128 ≤ r)) := hide (by
        rcases unhide HD with ⟨h1, h2⟩ | ⟨h1, h2⟩
        · left
          rw [h2] at hr hq
          exact ⟨by omega, by rw [← hr, ← hx], by rw [← hq]⟩
        · right
          exact ⟨by omega, by omega⟩)
      have HQ : Hid (pos + 1 ≤ s.size) := hide hp
      clear hr hx hq HD hp
      by_cases c1 : r = 44 ∧ t.pl < 3
      · obtain ⟨rfl, c2⟩ := c1
        obtain ⟨rfl, rfl⟩ : x = 44 ∧ q = pos + 1 := by rcases unhide HE with h | h <;> omega
        have hst := step_comma (unhide HO) c2
        have HN := hide (unhide HS _ hst.1)
        have HO2 := hide hst.2
        have HI2 : Hid (LInv w W1 s w.heap.size bp bi { t with pl := t.pl + 1, sg := 1 } (pos + 1)) := HI1
        have hcell := ((unhide HI2).cell (unhide HO2).1).1
        have hpr := okS_part hst.2
        have hca : ((t.pl + 1 : Nat) : Int) = (t.pl : Int) + 1 := by omega
        have d1 : (t.pl : Int) < 3 := by omega
        have d2 : (t.pl : Int) + 1 < 4 := by omega
        generalize LSt.part { t with pl := t.pl + 1, sg := 1 } = v at hcell hpr
        have hv1 : ¬ v < -5 := by omega
        have hv2 : ¬ 5 < v := by omega
        clear hst hpr HS HX HE
        go_wp2_with fail
        have hi2 : W1.iterPos bi = pos + 1 := by have := (unhide HI2).2.2.2.2.1; simp [World.iterPos, this]
        have hqs := unhide HQ
        exact ⟨⟨{ t with pl := t.pl + 1, sg := 1 }, pos + 1, by rw [← hca], rfl, HN, HO2, HQ, HI2⟩, by omega⟩
      · by_cases c2 : r = 45
        · subst c2
          obtain ⟨rfl, rfl⟩ : x = 45 ∧ q = pos + 1 := by rcases unhide HE with h | h <;> omega
          have hst := step_minus (unhide HO)
          have HN := hide (unhide HS _ hst.1)
          have HO2 := hide hst.2
          have HI2 : Hid (LInv w W1 s w.heap.size bp bi { t with sg := -1 } (pos + 1)) := HI1
          have hcell := ((unhide HI2).cell (unhide HO2).1).1
          have hpr := okS_part hst.2
          have d2 : (t.pl : Int) < 4 := by omega
          generalize LSt.part { t with sg := -1 } = v at hcell hpr
          have hv1 : ¬ v < -5 := by omega
          have hv2 : ¬ 5 < v := by omega
          clear hst hpr HS HX HE
          go_wp2_with fail
          have hi2 : W1.iterPos bi = pos + 1 := by have := (unhide HI2).2.2.2.2.1; simp [World.iterPos, this]
          have hqs := unhide HQ
          exact ⟨⟨{ t with sg := -1 }, pos + 1, rfl, rfl, HN, HO2, HQ, HI2⟩, by omega⟩
        · by_cases c3 : 48 ≤ r ∧ r ≤ 57
          · obtain ⟨hxr, rfl⟩ : x = r ∧ q = pos + 1 := by rcases unhide HE with h | h <;> omega
            subst hxr
            have hcell := (unhide HI1).cell (unhide HO).1
            have hsg := (unhide HO).2.1
            have hpb := okS_part (unhide HO)
            have hdv := digV_le (unhide HO) c3.1 c3.2
            have d2 : (t.pl : Int) < 4 := by omega
            have e1 : (((x : Nat) : Int) == 44) = false := by simp; omega
            have e2 : (((x : Nat) : Int) == 45) = false := by simp; omega
            have e3 : (48 : Int) ≤ (x : Int) := by omega
            have e4 : (x : Int) ≤ 57 := by omega
            have w1 : wrap32 ((x : Int) - 48) = (x : Int) - 48 := by unfold wrap32; omega
            have w2 : wrap64 ((x : Int) - 48) = (x : Int) - 48 := wrap_id (by omega) (by omega)
            have w3 : wrap64 (10 * t.part) = 10 * t.part := wrap_id (by omega) (by omega)
            have w4 : wrap64 (t.sg * ((x : Int) - 48)) = t.sg * ((x : Int) - 48) := by rcases hsg with e | e <;> rw [e] <;> exact wrap_id (by omega) (by omega)
            have w5 : wrap64 (10 * t.part + t.sg * ((x : Int) - 48)) = digV t x := by unfold digV at hdv ⊢; exact wrap_id (by omega) (by omega)
            obtain ⟨hc, hf⟩ := hcell
            by_cases c4 : -5 ≤ digV t x ∧ digV t x ≤ 5
            · have hst := step_digit (unhide HO) c3.1 c3.2 c4
              have HN := hide (unhide HS _ hst.1)
              have HO2 := hide hst.2
              have HI2 := hide ((unhide HI1).put (unhide HO).1 (unhide HG).1 (Ne.symm (unhide HG).2.1) (unhide HG).2.2.2.1 (digV t x))
              have hpp := put_pl t (digV t x)
              have hv1 : ¬ digV t x < -5 := by omega
              have hv2 : ¬ 5 < digV t x := by omega
              clear hst HS HX HE hsg hpb hdv c1 c2 c3 c4
              go_wp2_with fail
              have hi2 : (W1.setCell ⟨bp, t.pl, none⟩ (.int .i64 (digV t x))).iterPos bi = pos + 1 := by have := (unhide HI2).2.2.2.2.1; simp [World.iterPos, this]
              have hqs := unhide HQ
              exact ⟨⟨t.put (digV t x), pos + 1, by rw [hpp.1], by rw [hpp.2], HN, HO2, HQ, HI2⟩, by omega⟩
            · have HZ := hide (unhide HX (step_far c3.1 c3.2 c4))
              have hvv : digV t x < -5 ∨ (¬ digV t x < -5 ∧ 5 < digV t x) := by omega
              clear HS HX HE hsg hpb hdv c1 c2 c3 c4
              obtain ⟨cr0, cr1, cr2, cr3⟩ := (unhide HI1).2.2.1
              obtain ⟨fr0, fr1, fr2, fr3⟩ := (unhide HI1).2.2.2.1
              have n1 : w.heap.size ≠ bp := (unhide HG).1
              have n2 : bp ≠ w.heap.size := Ne.symm n1
              have HB := hide ((unhide HI1).2.2.2.2.2.setCell (p := ⟨bp, t.pl, none⟩) (unhide HG).2.2.2.1 (.int .i64 (digV t x)))
              rcases hvv with hv | ⟨hv, hv2⟩
              · go_wp2_with fail
                exact bodyPost_ret (v := .agg #[.int .i64 0, .int .i64 0, .int .i64 0, .int .i64 0]) (by simp [results, Tryd.results57, go_sem, cr0, cr1, cr2, cr3]) rfl ⟨by rw [unhide HZ], below_set4 (unhide HB) (Nat.le_refl _) _ _ _ _⟩
              · go_wp2_with fail
                exact bodyPost_ret (v := .agg #[.int .i64 0, .int .i64 0, .int .i64 0, .int .i64 0]) (by simp [results, Tryd.results57, go_sem, cr0, cr1, cr2, cr3]) rfl ⟨by rw [unhide HZ], below_set4 (unhide HB) (Nat.le_refl _) _ _ _ _⟩
          · have HZ : Hid (looseP s = ⟨0, 0, 0, 0, 0, 0⟩) := hide (unhide HX (by
              rcases unhide HE with h | h
              · obtain ⟨_, rfl, _⟩ := h
                exact step_none c1 c2 c3
              · exact step_none (by omega) (by omega) (by omega)))
            obtain ⟨cr0, cr1, cr2, cr3⟩ := (unhide HI1).2.2.1
            obtain ⟨fr0, fr1, fr2, fr3⟩ := (unhide HI1).2.2.2.1
            have HB := hide (unhide HI1).2.2.2.2.2
            have e2 : (((r : Nat) : Int) == 45) = false := by simp; omega
            by_cases c5 : r = 44
            · subst c5
              have d1 : ¬ (t.pl : Int) < 3 := by omega
              clear HS HX HE c1 c2 c3
              go_wp2_with fail
              exact bodyPost_ret (v := .agg #[.int .i64 0, .int .i64 0, .int .i64 0, .int .i64 0]) (by simp [results, Tryd.results57, go_sem, cr0, cr1, cr2, cr3]) rfl ⟨by rw [unhide HZ], below_set4 (unhide HB) (Nat.le_refl _) _ _ _ _⟩
            · have e1 : (((r : Nat) : Int) == 44) = false := by simp; omega
              have e3 : ¬ (48 : Int) ≤ (r : Int) ∨ ((48 : Int) ≤ (r : Int) ∧ ¬ (r : Int) ≤ 57) := by omega
              clear HS HX HE c1 c2 c3 c5
              rcases e3 with e3 | ⟨e3, e4⟩
              · go_wp2_with fail
                exact bodyPost_ret (v := .agg #[.int .i64 0, .int .i64 0, .int .i64 0, .int .i64 0]) (by simp [results, Tryd.results57, go_sem, cr0, cr1, cr2, cr3]) rfl ⟨by rw [unhide HZ], below_set4 (unhide HB) (Nat.le_refl _) _ _ _ _⟩
              · go_wp2_with fail
                exact bodyPost_ret (v := .agg #[.int .i64 0, .int .i64 0, .int .i64 0, .int .i64 0]) (by simp [results, Tryd.results57, go_sem, cr0, cr1, cr2, cr3]) rfl ⟨by rw [unhide HZ], below_set4 (unhide HB) (Nat.le_refl _) _ _ _ _⟩
    · have hps : pos = s.size := by have := unhide HP; omega
      subst hps
      have hnx : ∀ ty, (Instr.next (.pointer (some ⟨bi, 0, none⟩)) true ty).run Tryd.prog wr = .ok (.tuple #[.bool false]) wr := fun ty => Lib.run_next_end_at wr bi s s.size ty (unhide HI).2.2.2.2.1 (by omega)
      have HZ : Hid (looseP s = t) := hide (by unfold looseP; rw [unhide HL]; rfl)
      obtain ⟨ca0, ca1, ca2, ca3⟩ := (unhide HI).1
      obtain ⟨cr0, cr1, cr2, cr3⟩ := (unhide HI).2.2.1
      obtain ⟨fr0, fr1, fr2, fr3⟩ := (unhide HI).2.2.2.1
      have HB := hide (unhide HI).2.2.2.2.2
      clear HI HL HO HP hit hp
      go_wp2_with fail
      exact bodyPost_ret (v := .agg #[.int .i64 t.a, .int .i64 t.b, .int .i64 t.c, .int .i64 t.d]) (by simp [results, Tryd.results57, go_sem, cr0, cr1, cr2, cr3]) rfl ⟨by rw [unhide HZ], below_set4 (unhide HB) (Nat.le_refl _) _ _ _ _⟩
end Go.Proofs.YtijpnnooenpjoaaDoor
