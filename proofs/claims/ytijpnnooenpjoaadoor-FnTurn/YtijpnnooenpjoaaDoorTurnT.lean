/- TurnText: the program's. -/
import Derived.Test.YtijpnnooenpjoaaDoorTurnC
import Derived.Test.YtijpnnooenpjoaaDoorTShelf
import Derived.Test.YtijpnnooenpjoaaDoorTextMath
import Derived.Lib.SmallJoins
import Derived.Lib.AppendIntMem
import Derived.Deep.RegionWith
namespace Go.Proofs.YtijpnnooenpjoaaDoor
open Go.RowKit Go.Joins
open Go.Sort (grow)
set_option linter.unusedVariables false

def numS (n : Int) : ByteArray := ⟨(Lib.itoa n).toArray⟩
def WordsAt (w : World) (b : Nat) (s0 s1 s2 s3 : ByteArray) : Prop := w.cell? ⟨b, 0, none⟩ = some (.string s0) ∧ w.cell? ⟨b, 1, none⟩ = some (.string s1) ∧ w.cell? ⟨b, 2, none⟩ = some (.string s2) ∧ w.cell? ⟨b, 3, none⟩ = some (.string s3)
theorem WordsAt.lt {w : World} {b : Nat} {s0 s1 s2 s3 : ByteArray} (h : WordsAt w b s0 s1 s2 s3) : b < w.heap.size := World.block_lt_of_cell? w _ h.1
theorem WordsAt.kept {w w' : World} {b : Nat} {s0 s1 s2 s3 : ByteArray} (h : WordsAt w b s0 s1 s2 s3) (hB : Below w.heap.size w w') : WordsAt w' b s0 s1 s2 s3 := by
  have hb := h.lt
  obtain ⟨h0, h1, h2, h3⟩ := h
  exact ⟨by rw [hB.cell (p := ⟨b, 0, none⟩) hb]; exact h0, by rw [hB.cell (p := ⟨b, 1, none⟩) hb]; exact h1, by rw [hB.cell (p := ⟨b, 2, none⟩) hb]; exact h2, by rw [hB.cell (p := ⟨b, 3, none⟩) hb]; exact h3⟩
theorem words_new (w : World) (s0 s1 s2 s3 : ByteArray) (t : TypeId) : WordsAt (w.alloc (.cells #[.string s0, .string s1, .string s2, .string s3] t)) w.heap.size s0 s1 s2 s3 := by
  refine ⟨?_, ?_, ?_, ?_⟩ <;> simp
theorem freeW_new (w : World) (s0 s1 s2 s3 : ByteArray) (t : TypeId) : FreeT (w.alloc (.cells #[.string s0, .string s1, .string s2, .string s3] t)) w.heap.size := by
  refine ⟨?_, ?_, ?_, ?_⟩ <;> simp
theorem FreeT.set {w : World} {b : Nat} (h : FreeT w b) (p : Addr) (v : Value) : FreeT (w.setCell p v) b := by
  obtain ⟨h0, h1, h2, h3⟩ := h
  refine ⟨?_, ?_, ?_, ?_⟩ <;> simp [go_sem, h0, h1, h2, h3]
def Tab (w : World) : Prop := Lib.TabIs Tryd.prog w "internal/strconv.uint64pow10" .u64 Lib.pow10Tab
theorem tab_named : Tryd.prog.globalNamed "internal/strconv.uint64pow10" = some 1 := by kernel_rfl
theorem Tab.kept {w w' : World} (h : Tab w) (hB : Below w.heap.size w w') : Tab w' := tab_stays tab_named h hB (Nat.le_refl _)
theorem below_grew (w : World) (k : Nat) (os : Array Obj) : RowKit.Below w.heap.size w (grow (w.drewN k) os) := Lib.below_grow _ w (Nat.le_refl _) k os
theorem format_any (n : Int) (w : World) (h : -1000 ≤ n ∧ n ≤ 1000) (ht : Tab w) :
    Calls Tryd.prog 53 #[.int .i64 n, .int .i64 10] w fun e w' => e = .returned (.string (numS n)) ∧ Below w.heap.size w w' :=
  (strconv_FormatInt_10 n (by omega) (by omega) w ht).mono fun e w' ⟨he, k, os, hw⟩ => ⟨he, by subst hw; exact below_grew _ _ _⟩

def wlist (a b c d : Int) (w : World) (bk : Nat) : Nat → Prop
  | 0 => WordsAt w bk ⟨#[]⟩ ⟨#[]⟩ ⟨#[]⟩ ⟨#[]⟩
  | 1 => WordsAt w bk (numS a) ⟨#[]⟩ ⟨#[]⟩ ⟨#[]⟩
  | 2 => WordsAt w bk (numS a) (numS b) ⟨#[]⟩ ⟨#[]⟩
  | 3 => WordsAt w bk (numS a) (numS b) (numS c) ⟨#[]⟩
  | _ => WordsAt w bk (numS a) (numS b) (numS c) (numS d)

set_option maxHeartbeats 1000000 in
set_option maxRecDepth 100000 in
theorem turnText_any (a b c d : Int) (w : World) (ht : Tab w) :
    Calls Tryd.prog 19 #[.agg #[.int .i64 a, .int .i64 b, .int .i64 c, .int .i64 d]] w fun e w' => e = .returned (.string (textB a b c d)) ∧ Below w.heap.size w w' := by
  have i0 : ∀ w : World, (Instr.index 83 (.agg #[.int .i64 a, .int .i64 b, .int .i64 c, .int .i64 d]) (.int .i64 0)).run Tryd.prog w = .ok (.int .i64 a) w := fun _ => by kernel_rfl
  have i1 : ∀ w : World, (Instr.index 83 (.agg #[.int .i64 a, .int .i64 b, .int .i64 c, .int .i64 d]) (.int .i64 1)).run Tryd.prog w = .ok (.int .i64 b) w := fun _ => by kernel_rfl
  have i2 : ∀ w : World, (Instr.index 83 (.agg #[.int .i64 a, .int .i64 b, .int .i64 c, .int .i64 d]) (.int .i64 2)).run Tryd.prog w = .ok (.int .i64 c) w := fun _ => by kernel_rfl
  have i3 : ∀ w : World, (Instr.index 83 (.agg #[.int .i64 a, .int .i64 b, .int .i64 c, .int .i64 d]) (.int .i64 3)).run Tryd.prog w = .ok (.int .i64 d) w := fun _ => by kernel_rfl
  have HT := hide ht
  clear ht
  go_enter Tryd.func19, Tryd.ntmps19
  go_wp2_with fail
  refine (turnRight_any a b c d _).mono ?_
  rintro e w1 ⟨rfl, hx⟩
  have va : TurnAt w1 w.heap.size a b c d := (turnAt_new w a b c d _).kept (by simp) hx
  have hB : Below w.heap.size w w1 := below_call (below1 _ _) hx
  clear hx
  cases hr : rightT a b c d
  · have HR : Hid (textB a b c d = ⟨#[]⟩) := hide (text_no hr)
    go_wp2_with fail
    go_ret
    exact ⟨by rw [unhide HR]; rfl, hB⟩
  · have HR := hide (text_ok hr)
    have HJ := hide (text_join (rightT_iff.1 hr).1)
    have HI := hide (inT_iff.1 (inT_mono (rightT_iff.1 hr).1 (show (5 : Int) ≤ 1000 by omega)))
    have va2 := va.alloc (.cells #[.string ⟨#[]⟩, .string ⟨#[]⟩, .string ⟨#[]⟩, .string ⟨#[]⟩] 82)
    have hwn := words_new w1 ⟨#[]⟩ ⟨#[]⟩ ⟨#[]⟩ ⟨#[]⟩ 82
    have hfn := freeW_new w1 ⟨#[]⟩ ⟨#[]⟩ ⟨#[]⟩ ⟨#[]⟩ 82
    have hB1 := hB.alloc hB.size (.cells #[.string ⟨#[]⟩, .string ⟨#[]⟩, .string ⟨#[]⟩, .string ⟨#[]⟩] 82)
    have hle : w.heap.size ≤ w1.heap.size := hB.size
    obtain ⟨c0, c1, c2, c3⟩ := va2
    clear va hr hB
    go_wp2_with fail
    refine (tparts_any a b c d _).mono ?_
    rintro e w2 ⟨rfl, hx⟩
    replace hfn := hfn.kept hwn.lt hx
    replace hwn := hwn.kept hx
    replace hB1 := below_call hB1 hx
    clear hx c0 c1 c2 c3
    generalize w1.heap.size = bk at hwn hfn hle ⊢
    have HW := hide hwn
    have HF := hide hfn
    have HB := hide hB1
    clear hwn hfn hB1
    go_wp2_with fail
    go_loopw [11] (fun i wr => ∃ k : Nat, k ≤ 4 ∧ i = .int .i64 k ∧ Hid (wlist a b c d wr bk k) ∧ Hid (FreeT wr bk) ∧ Hid (Below w.heap.size w wr)) (fun i _ => 4 - (intOf i).toNat)
    case atStart => exact ⟨0, by omega, rfl, HW, HF, HB⟩
    case round =>
      clear HW HF HB
      obtain ⟨k, hk, rfl, HW, HF, HB⟩ := hrel
      have hk5 : k = 0 ∨ k = 1 ∨ k = 2 ∨ k = 3 ∨ k = 4 := by omega
      rcases hk5 with rfl | rfl | rfl | rfl | rfl
      · go_wp2_with fail
        refine (format_any a _ (unhide HI).1 ((unhide HT).kept (unhide HB))).mono ?_
        rintro e w3 ⟨rfl, hx⟩
        have hw : WordsAt w3 bk ⟨#[]⟩ ⟨#[]⟩ ⟨#[]⟩ ⟨#[]⟩ := (show WordsAt _ bk ⟨#[]⟩ ⟨#[]⟩ ⟨#[]⟩ ⟨#[]⟩ from unhide HW).kept hx
        have hf : FreeT w3 bk := (unhide HF).kept (WordsAt.lt (show WordsAt _ bk ⟨#[]⟩ ⟨#[]⟩ ⟨#[]⟩ ⟨#[]⟩ from unhide HW)) hx
        have hb : Below w.heap.size w w3 := below_call (unhide HB) hx
        clear hx HW HF HB
        have hw2 := hw
        have hf2 := hf
        obtain ⟨g0, g1, g2, g3⟩ := hw2
        obtain ⟨f0, f1, f2, f3⟩ := hf2
        have HB := hide hb
        have HH := hide hw
        have HF := hide hf
        clear hb hw hf
        go_wp2_with fail
        go_roundw
        case rel => exact ⟨1, by omega, rfl, hide (by simp [wlist, WordsAt, go_sem, g0, g1, g2, g3]), hide ((unhide HF).set _ _), hide ((unhide HB).setCell hle _)⟩
        case measure => simp [intOf]
      · go_wp2_with fail
        refine (format_any b _ (unhide HI).2.1 ((unhide HT).kept (unhide HB))).mono ?_
        rintro e w3 ⟨rfl, hx⟩
        have hw : WordsAt w3 bk (numS a) ⟨#[]⟩ ⟨#[]⟩ ⟨#[]⟩ := (show WordsAt _ bk (numS a) ⟨#[]⟩ ⟨#[]⟩ ⟨#[]⟩ from unhide HW).kept hx
        have hf : FreeT w3 bk := (unhide HF).kept (WordsAt.lt (show WordsAt _ bk (numS a) ⟨#[]⟩ ⟨#[]⟩ ⟨#[]⟩ from unhide HW)) hx
        have hb : Below w.heap.size w w3 := below_call (unhide HB) hx
        clear hx HW HF HB
        have hw2 := hw
        have hf2 := hf
        obtain ⟨g0, g1, g2, g3⟩ := hw2
        obtain ⟨f0, f1, f2, f3⟩ := hf2
        have HB := hide hb
        have HH := hide hw
        have HF := hide hf
        clear hb hw hf
        go_wp2_with fail
        go_roundw
        case rel => exact ⟨2, by omega, rfl, hide (by simp [wlist, WordsAt, go_sem, g0, g1, g2, g3]), hide ((unhide HF).set _ _), hide ((unhide HB).setCell hle _)⟩
        case measure => simp [intOf]
      · go_wp2_with fail
        refine (format_any c _ (unhide HI).2.2.1 ((unhide HT).kept (unhide HB))).mono ?_
        rintro e w3 ⟨rfl, hx⟩
        have hw : WordsAt w3 bk (numS a) (numS b) ⟨#[]⟩ ⟨#[]⟩ := (show WordsAt _ bk (numS a) (numS b) ⟨#[]⟩ ⟨#[]⟩ from unhide HW).kept hx
        have hf : FreeT w3 bk := (unhide HF).kept (WordsAt.lt (show WordsAt _ bk (numS a) (numS b) ⟨#[]⟩ ⟨#[]⟩ from unhide HW)) hx
        have hb : Below w.heap.size w w3 := below_call (unhide HB) hx
        clear hx HW HF HB
        have hw2 := hw
        have hf2 := hf
        obtain ⟨g0, g1, g2, g3⟩ := hw2
        obtain ⟨f0, f1, f2, f3⟩ := hf2
        have HB := hide hb
        have HH := hide hw
        have HF := hide hf
        clear hb hw hf
        go_wp2_with fail
        go_roundw
        case rel => exact ⟨3, by omega, rfl, hide (by simp [wlist, WordsAt, go_sem, g0, g1, g2, g3]), hide ((unhide HF).set _ _), hide ((unhide HB).setCell hle _)⟩
        case measure => simp [intOf]
      · go_wp2_with fail
        refine (format_any d _ (unhide HI).2.2.2 ((unhide HT).kept (unhide HB))).mono ?_
        rintro e w3 ⟨rfl, hx⟩
        have hw : WordsAt w3 bk (numS a) (numS b) (numS c) ⟨#[]⟩ := (show WordsAt _ bk (numS a) (numS b) (numS c) ⟨#[]⟩ from unhide HW).kept hx
        have hf : FreeT w3 bk := (unhide HF).kept (WordsAt.lt (show WordsAt _ bk (numS a) (numS b) (numS c) ⟨#[]⟩ from unhide HW)) hx
        have hb : Below w.heap.size w w3 := below_call (unhide HB) hx
        clear hx HW HF HB
        have hw2 := hw
        have hf2 := hf
        obtain ⟨g0, g1, g2, g3⟩ := hw2
        obtain ⟨f0, f1, f2, f3⟩ := hf2
        have HB := hide hb
        have HH := hide hw
        have HF := hide hf
        clear hb hw hf
        go_wp2_with fail
        go_roundw
        case rel => exact ⟨4, by omega, rfl, hide (by simp [wlist, WordsAt, go_sem, g0, g1, g2, g3]), hide ((unhide HF).set _ _), hide ((unhide HB).setCell hle _)⟩
        case measure => simp [intOf]
      · have hw : WordsAt wr bk (numS a) (numS b) (numS c) (numS d) := unhide HW
        have hb := unhide HB
        have HL : Hid ((Lib.join ([numS a, numS b, numS c, numS d].map (·.data.toList)) (⟨#[44]⟩ : ByteArray).data.toList) = textD a b c d) := hide (by rw [← unhide HJ]; simp [numS])
        have hcells : ∀ (j : Nat) x, [numS a, numS b, numS c, numS d][j]? = some x → wr.cell? ⟨bk, 0 + j, none⟩ = some (.string x) := by
          intro j x hx
          have hj : j < 4 := by
            rcases Nat.lt_or_ge j 4 with h | h
            · exact h
            · rw [List.getElem?_eq_none (by simpa using h)] at hx; cases hx
          match j, hj with
          | 0, _ => cases hx; exact hw.1
          | 1, _ => cases hx; exact hw.2.1
          | 2, _ => cases hx; exact hw.2.2.1
          | 3, _ => cases hx; exact hw.2.2.2
        have HC := hide hcells
        have HK := hide hw.lt
        have HB := hide hb
        clear hw hb HW HF hcells
        go_wp2_with fail
        refine (strings_Join bk 0 4 [numS a, numS b, numS c, numS d] ⟨#[44]⟩ wr (unhide HC) (unhide HK) (by simp) (by simp) (by rw [unhide HL]; have := text_len a b c d; omega)).mono ?_
        rw [unhide HL]
        rintro e w3 ⟨rfl, hx⟩
        have HB2 := hide (below_call (unhide HB) hx)
        clear hx HC HK HL HB
        go_wp2_with fail
        go_ret
        exact ⟨by rw [unhide HR]; rfl, unhide HB2⟩
end Go.Proofs.YtijpnnooenpjoaaDoor
