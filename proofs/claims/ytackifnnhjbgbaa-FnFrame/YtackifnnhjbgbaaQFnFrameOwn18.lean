/- Several texts in one: StH. -/
import Derived.Test.YtackifnnhjbgbaaQFnFrameOwn17
namespace Go.Proofs.Ytackifnnhjbgbaa
set_option linter.unusedVariables false
set_option linter.unusedSimpArgs false
set_option maxRecDepth 100000
set_option maxHeartbeats 8000000
section
open Go.RowKit
theorem StK.byRow {n : Nat} {w0 wr wx : World} {g rb : Nat} {P : Array Int → Prop} {dk : Array Int} (h : StK n w0 g P dk wr) (hg : wr.grownBy wx (some rb)) (hb : w0.heap.size ≤ rb) (hr : rb < wr.heap.size) : StK n w0 g P dk wx := by
 have hB : Below rb wr wx := ⟨hg.os, hg.tape, hg.output, hg.size, fun k hk => hg.block k (by omega) (fun e => by have := Option.some.inj e; omega)⟩
 have hl : g < rb := Nat.lt_of_lt_of_le h.row.lt hb
 refine ⟨h.size, h.same, ⟨hB.os.trans h.row.grown.os, hB.tape.trans h.row.grown.tape, hB.output.trans h.row.grown.output, Nat.le_trans h.row.grown.size hB.size, fun k hk hne => by rw [hB.block k (Nat.lt_of_lt_of_le hk hb)]; exact h.row.grown.block k hk hne⟩, h.row.lt, fun j hj => ?_, fun j hj => ?_⟩
 ·rw [hB.cell (p := ⟨g, j, none⟩) hl]; exact h.row.cells j hj
 ·rw [hB.frozen (p := ⟨g, j, none⟩) hl]; exact h.row.free j hj
theorem jw {m : Nat} (h : m < 600) : m < 18446744073709551616 := by omega
theorem jD (y : Int) (m : Nat) (h : m < 18446744073709551616) : ∃ r : Nat, bits BinOp.and IntKind.u64 y (m : Int) = (r : Int) ∧ r ≤ m :=
 ⟨(BitVec.ofInt 64 y).toNat &&& m, by
  have hle : (BitVec.ofInt 64 y).toNat &&& m ≤ m := Nat.and_le_right
  show IntKind.u64.wrap ((BitVec.ofInt 64 y &&& BitVec.ofInt 64 (m : Int)).toNat : Int) = _
  rw [BitVec.toNat_and, ofInt_u64 m h, IntKind.wrap_u64]
  omega, Nat.and_le_right⟩
theorem jz {y : Int} {M m r : Nat} (h : m + 1 = M) (h2 : m < 600) (hb : bits BinOp.and IntKind.u64 y (m : Int) = (r : Int)) (hr : r ≤ m) : wrap64 (bits BinOp.and IntKind.u64 y (IntKind.u64.wrap ((M : Int) - 1))) = (r : Int) := by
 have e : IntKind.u64.wrap ((M : Int) - 1) = (m : Int) := by rw [IntKind.wrap_u64]; omega
 rw [e, hb]
 exact aG (by omega) (by omega)
theorem gm (g cap n a b : Nat) (d dk : Array Int) (w0 w : World) (hA : StK n w0 g (Sort.PermIn a b d) dk w) (hab : a + 12 < b) (hb : b ≤ n) (hd : d.size = n) (hsz : n ≤ 255) :
  Calls Try.prog 39 #[.slice (some ⟨g, 0, none⟩) n cap, .int .i64 a, .int .i64 b] w fun e w' => e = .returned (.tuple #[]) ∧ ∃ d', StK n w0 g (Sort.PermIn a b d) d' w' := by
 obtain ⟨l, hl⟩ : ∃ l, l = b - a := ⟨_, rfl⟩
 obtain ⟨q, hq⟩ : ∃ q, q = l / 4 := ⟨_, rfl⟩
 have el : (b : Int) - (a : Int) = (l : Int) := by omega
 have eq : (l : Int) / 4 = (q : Int) := by omega
 have hq3 : 3 ≤ q := by omega
 obtain ⟨i0, hi0⟩ : ∃ i, i = a + q * 2 - 1 := ⟨_, rfl⟩
 have ei : (a : Int) + (q : Int) * 2 - 1 = (i0 : Int) := by omega
 have ei1 : (a : Int) + (q : Int) * 2 = (i0 : Int) + 1 := by omega
 have hi3 : a ≤ i0 := by omega
 have hi4 : i0 + 2 < b := by omega
 have h8 : (8 : Int) ≤ (l : Int) := by omega
 have hl0 : 0 < l := by omega
 have hl1 : l < 256 := by omega
 have hal : a + l = b := by omega
 have HL := yz hl
 have HQ := yz hq
 have HI0 := yz hi0
 clear hl hq hi0 ei1
 obtain ⟨W0, hW0⟩ : ∃ W, W = w.alloc (.cells #[.int .u64 (l : Int)] 91) := ⟨_, rfl⟩
 obtain ⟨rb, hrb⟩ : ∃ r, r = w.heap.size := ⟨_, rfl⟩
 have HB : Hid (Blk W0 rb [.int .u64 (l : Int)] 91) := yz (by rw [hW0, hrb]; exact al w [.int .u64 (l : Int)] 91)
 have HA : Hid (StK n w0 g (Sort.PermIn a b d) dk W0) := yz (by rw [hW0]; exact hA.kept (an _ _))
 have hrb0 : w0.heap.size ≤ rb := by rw [hrb]; exact hA.row.grown.size
 clear hA
 have hlu : IntKind.u64.wrap (l : Int) = (l : Int) := by rw [IntKind.wrap_u64]; omega
 go_enter Try.func39, Try.ntmps39
 go_wp2_with fail
 rw [← hrb, ← hW0]
 clear hW0 hrb
 refine (iS l _ hl1 hl0).mono ?_
 rintro e W1 ⟨k, rfl, hk8, hk2, hx⟩
 have hM1 : 1 ≤ 2 ^ k := Nat.one_le_two_pow
 generalize 2 ^ k = M at *
 have HA1 := yz ((yx HA).kept hx)
 have HB1 := yz ((yx HB).kept hx)
 clear hx HA HB
 have eM : (M : Int) - 1 = ((M - 1 : Nat) : Int) := by omega
 obtain ⟨m, hm⟩ : ∃ m, m = M - 1 := ⟨_, rfl⟩
 rw [← hm] at eM
 have hml : m < 2 * l := by omega
 have HM := yz hm
 clear hm hk2 hk8
 go_wp2_with fail
 go_loopw [9] (fun u wr => ∃ (t : Nat) (dk : Array Int) (y : Int), u = .int .i64 t ∧ i0 ≤ t ∧ t ≤ i0 + 3 ∧ Hid (StK n w0 g (Sort.PermIn a b d) dk wr) ∧ Hid (Blk wr rb [.int .u64 y] 91)) (fun u _ => i0 + 3 - (intOf u).toNat)
 case atStart => exact ⟨i0, dk, l, rfl, by omega, by omega, HA1, HB1⟩
 case round =>
  obtain ⟨t, dk, y, rfl, ht1, ht2, HA, HB⟩ := hrel
  clear HA1 HB1
  by_cases hlt : t ≤ i0 + 2
  ·have hltz : (t : Int) ≤ (i0 : Int) + 1 + 1 := by omega
   have ei1 : (a : Int) + (q : Int) * 2 = (i0 : Int) + 1 := by omega
   go_wp2_with fail
   refine (jA rb y _ (yx HB)).mono ?_
   rintro e W2 ⟨y2, rfl, hB2, hg2⟩
   have HA2 := yz ((yx HA).byRow hg2 hrb0 (yx HB).lt)
   have HB2 := yz hB2
   clear hB2 hg2 HA HB
   clear eq ei ei1 hltz hlu
   have hm9 : m ≤ 512 := by omega
   obtain ⟨r, hr, hrm⟩ := jD y2 m (jw (show m < 600 by omega))
   have HE := yz (jz (M := M) (by omega) (by omega) hr hrm)
   clear hr
   have hr9 : (r : Int) ≤ 512 := Int.ofNat_le.2 (Nat.le_trans hrm hm9)
   have hr0 : (0 : Int) ≤ (r : Int) := Int.natCast_nonneg r
   clear eM
   go_upto_if 43 with fail
   rw [yx HE]
   have ht4 : t < n := by omega
   by_cases hrl : l ≤ r
   ·have hrlz : (l : Int) ≤ (r : Int) := by omega
    obtain ⟨o, ho⟩ : ∃ o, o = a + (r - l) := ⟨_, rfl⟩
    have eo : (a : Int) + ((r : Int) - (l : Int)) = (o : Int) := by omega
    have eo2 : (a : Int) + (r : Int) - (l : Int) = (o : Int) := by omega
    have HO := yz ho
    clear ho
    have hon : o < n := by omega
    obtain ⟨xx, Hxx⟩ : ∃ x, Hid (x = dk[t]!) := ⟨_, yz rfl⟩
    obtain ⟨yy, Hyy⟩ : ∃ x, Hid (x = dk[o]!) := ⟨_, yz rfl⟩
    have cxx : W2.cell? ⟨g, t, none⟩ = some (.int .u8 xx) := by rw [yx Hxx]; exact (yx HA2).row.cells t (by have := (yx HA2).size; omega)
    have cyy : W2.cell? ⟨g, o, none⟩ = some (.int .u8 yy) := by rw [yx Hyy]; exact (yx HA2).row.cells o (by have := (yx HA2).size; omega)
    have fxx := (yx HA2).row.free t (by have := (yx HA2).size; omega)
    have fyy := (yx HA2).row.free o (by have := (yx HA2).size; omega)
    obtain ⟨z, gz⟩ : ∃ z, (W2.setCell ⟨g, t, none⟩ (.int .u8 yy)).cell? ⟨g, o, none⟩ = some (.int .u8 z) := by
     by_cases e : o = t
     ·rw [e]; exact ⟨yy, World.cell?_setCell_same _ _ _ cxx⟩
     ·exact ⟨yy, by rw [World.cell?_setCell_other _ _ _ _ (fun h => e (by simpa using (congrArg Addr.off h).symm))]; exact cyy⟩
    have gz2 : (W2.setCell ⟨g, t, none⟩ (.int .u8 yy)).drew.cell? ⟨g, o, none⟩ = some (.int .u8 z) := gz
    have HI : Hid (StK n w0 g (Sort.PermIn a b d) (Sort.swp dk t o) (((W2.setCell ⟨g, t, none⟩ (.int .u8 yy)).setCell ⟨g, o, none⟩ (.int .u8 xx)).drew)) := yz ((yx HA2).put ht4 hon Hxx Hyy (fun h => er h (by omega) (by omega) (by omega) (by have := yx HO; omega) (by have := yx HO; omega)))
    have HJ : Hid (Blk (((W2.setCell ⟨g, t, none⟩ (.int .u8 yy)).setCell ⟨g, o, none⟩ (.int .u8 xx)).drew) rb [.int .u64 y2] 91) := yz ((((yx HB2).other ⟨g, t, none⟩ _ (show rb ≠ g by have := (yx HA2).row.lt; omega)).other ⟨g, o, none⟩ _ (show rb ≠ g by have := (yx HA2).row.lt; omega)).drewn)
    clear HA2 HB2 Hxx Hyy
    go_wp2_with fail
    go_region
    go_wp2_with fail
    go_roundw
    case rel => exact ⟨t + 1, _, y2, by go_num, by omega, by omega, HI, HJ⟩
    case measure => simp [intOf] <;> omega
   ·have hrlz : ¬ (l : Int) ≤ (r : Int) := by omega
    obtain ⟨o, ho⟩ : ∃ o, o = a + r := ⟨_, rfl⟩
    have eo : (a : Int) + (r : Int) = (o : Int) := by omega
    have HO := yz ho
    clear ho
    have hon : o < n := by omega
    obtain ⟨xx, Hxx⟩ : ∃ x, Hid (x = dk[t]!) := ⟨_, yz rfl⟩
    obtain ⟨yy, Hyy⟩ : ∃ x, Hid (x = dk[o]!) := ⟨_, yz rfl⟩
    have cxx : W2.cell? ⟨g, t, none⟩ = some (.int .u8 xx) := by rw [yx Hxx]; exact (yx HA2).row.cells t (by have := (yx HA2).size; omega)
    have cyy : W2.cell? ⟨g, o, none⟩ = some (.int .u8 yy) := by rw [yx Hyy]; exact (yx HA2).row.cells o (by have := (yx HA2).size; omega)
    have fxx := (yx HA2).row.free t (by have := (yx HA2).size; omega)
    have fyy := (yx HA2).row.free o (by have := (yx HA2).size; omega)
    obtain ⟨z, gz⟩ : ∃ z, (W2.setCell ⟨g, t, none⟩ (.int .u8 yy)).cell? ⟨g, o, none⟩ = some (.int .u8 z) := by
     by_cases e : o = t
     ·rw [e]; exact ⟨yy, World.cell?_setCell_same _ _ _ cxx⟩
     ·exact ⟨yy, by rw [World.cell?_setCell_other _ _ _ _ (fun h => e (by simpa using (congrArg Addr.off h).symm))]; exact cyy⟩
    have gz2 : (W2.setCell ⟨g, t, none⟩ (.int .u8 yy)).drew.cell? ⟨g, o, none⟩ = some (.int .u8 z) := gz
    have HI : Hid (StK n w0 g (Sort.PermIn a b d) (Sort.swp dk t o) (((W2.setCell ⟨g, t, none⟩ (.int .u8 yy)).setCell ⟨g, o, none⟩ (.int .u8 xx)).drew)) := yz ((yx HA2).put ht4 hon Hxx Hyy (fun h => er h (by omega) (by omega) (by omega) (by have := yx HO; omega) (by have := yx HO; omega)))
    have HJ : Hid (Blk (((W2.setCell ⟨g, t, none⟩ (.int .u8 yy)).setCell ⟨g, o, none⟩ (.int .u8 xx)).drew) rb [.int .u64 y2] 91) := yz ((((yx HB2).other ⟨g, t, none⟩ _ (show rb ≠ g by have := (yx HA2).row.lt; omega)).other ⟨g, o, none⟩ _ (show rb ≠ g by have := (yx HA2).row.lt; omega)).drewn)
    clear HA2 HB2 Hxx Hyy
    go_wp2_with fail
    go_region
    go_wp2_with fail
    go_roundw
    case rel => exact ⟨t + 1, _, y2, by go_num, by omega, by omega, HI, HJ⟩
    case measure => simp [intOf] <;> omega
  ·have hltz : ¬ (t : Int) ≤ (i0 : Int) + 1 + 1 := by omega
   have ei1 : (a : Int) + (q : Int) * 2 = (i0 : Int) + 1 := by omega
   go_wp2_with fail
   go_end0
   exact ⟨rfl, dk, yx HA⟩
end
end Go.Proofs.Ytackifnnhjbgbaa
