/- Several texts in one: DsL, DsP, DsQ, CShelf, StrS, DkA. -/
import Derived.Shelf.Strings.Builder1
import Derived.Shelf.Strings.Builder2
import Derived.Shelf.Strings.OnBuilder
import Derived.Shelf.Strconv.Itoa0
import Derived.Shelf.Strconv.Itoa1
import Derived.Shelf.LaysM
import Derived.Shelf.Strconv.Itoa2
import Derived.Shelf.Strconv.Itoa3
import Derived.Shelf.Strconv.Itoa4
import Derived.Shelf.Strings.Search1
import Derived.Shelf.Strings.Search2
import Derived.Shelf.Strings.Search3
import Derived.Shelf.Strings.Cut
import Derived.Shelf.Strings.Count
import Derived.Shelf.Strings.Shaped
import Derived.Shelf.Strings.Split
import Derived.Shelf.Strings.SplitShaped
import Derived.Shelf.Unicode.Decode
import Derived.Shelf.Strings.RuneCount
import Derived.Shelf.Strings.Explode
import Derived.Shelf.Unicode.DecodeSlow
import Derived.Test.YtofpjlhoppofdaaGreatDoorChecked
import Derived.Lib.QuietBelow
import Derived.Deep.QuietTactic
import Derived.BigQuiet
import Derived.Laws.AppendOwn
import Derived.Laws.EntriesVeiled
import Derived.Test.YtofpjlhoppofdaaGreatDoorQDeskFaultOwn13
import Derived.Test.YtofpjlhoppofdaaGreatDoorQDeskFaultOwn5
import Derived.Test.YtofpjlhoppofdaaGreatDoorQDeskFaultOwn3
import Derived.Test.YtofpjlhoppofdaaGreatDoorQDeskFaultOwn4
namespace Go.Proofs.YtofpjlhoppofdaaGreatDoor
open Go.RowKit Go.Sort
set_option linter.unusedVariables false
set_option linter.unusedSimpArgs false
theorem fieldT (W : World) (a : Option Addr) (n c : Nat) (i1 i2 i3 i4 i5 i6 i7 i8 i9 : Int) : (Instr.field 50 (.agg #[.slice a n c, .int .i64 i1, .int .i64 i2, .int .i64 i3, .int .i64 i4, .int .i64 i5, .int .i64 i6, .int .i64 i7, .int .i64 i8, .int .i64 i9]) 0).run Tryz.prog W = .ok (.agg #[.slice a n c, .int .i64 i1, .int .i64 i2, .int .i64 i3, .int .i64 i4, .int .i64 i5, .int .i64 i6, .int .i64 i7, .int .i64 i8]) W := by kernel_rfl
set_option maxHeartbeats 8000000 in
set_option maxRecDepth 100000 in
theorem specLine_Move (w : World) (db B : Nat) (t : Tk) (u : U4) (a : Option Addr) (cap : Nat) (tx : ByteArray) (n : Int) (hk : DeskOk t) (hs : tx.size ≤ 9223372036854775807) (hB : B ≤ w.heap.size) (hD : DeskAt w db B t u a cap) :
    Calls Tryz.prog 21 #[.pointer (some ⟨db, 0, none⟩), .agg #[.string ⟨#[109, 111, 118, 101]⟩, .string tx, .int .i64 n]] w fun e w' => e = .returned (.string ((turnedD t u tx true).2)) ∧ (∃ a' cap', DeskAt w' db B (turnedD t u tx true).1.1 (turnedD t u tx true).1.2 a' cap') ∧ w.grownBy w' (some db) := by
  have hn : t.L.length ≤ 1048576 := Nat.le_trans hk.1 (by decide)
  have HZ := yz (below1 w (.cells #[.string ⟨#[109, 111, 118, 101]⟩, .string tx, .int .i64 n] 57))
  have HD0 := yz (hD.kept (yy HZ))
  have HB0 : B ≤ (w.alloc (.cells #[.string ⟨#[109, 111, 118, 101]⟩, .string tx, .int .i64 n] 57)).heap.size := Nat.le_trans hB (yy HZ).size
  have c0 := (blk_new w [.string ⟨#[109, 111, 118, 101]⟩, .string tx, .int .i64 n] 57).cell 0 _ rfl
  have c1 := (blk_new w [.string ⟨#[109, 111, 118, 101]⟩, .string tx, .int .i64 n] 57).cell 1 _ rfl
  have c2 := (blk_new w [.string ⟨#[109, 111, 118, 101]⟩, .string tx, .int .i64 n] 57).cell 2 _ rfl
  have cT := yz (specTurned_any _ db B t u a cap tx true hn hs HB0 (yy HD0))
  generalize turnedD t u tx true = R at *
  go_enter Tryz.func21, Tryz.ntmps21
  go_wp2_with fail
  refine (yy cT).mono ?_
  rintro e W1 ⟨rfl, hD1, hg⟩
  have HX := yz hD1
  have HG := yz (grown_more (grown_below (yy HZ)) hg)
  clear hD1 hg c0 c1 c2
  go_wp2_with fail
  go_ret
  exact ⟨rfl, yy HX, yy HG⟩
set_option maxHeartbeats 8000000 in
set_option maxRecDepth 100000 in
theorem specLine_Drift (w : World) (db B : Nat) (t : Tk) (u : U4) (a : Option Addr) (cap : Nat) (tx : ByteArray) (n : Int) (hk : DeskOk t) (hs : tx.size ≤ 9223372036854775807) (hB : B ≤ w.heap.size) (hD : DeskAt w db B t u a cap) :
    Calls Tryz.prog 21 #[.pointer (some ⟨db, 0, none⟩), .agg #[.string ⟨#[100, 114, 105, 102, 116]⟩, .string tx, .int .i64 n]] w fun e w' => e = .returned (.string ((turnedD t u tx false).2)) ∧ (∃ a' cap', DeskAt w' db B (turnedD t u tx false).1.1 (turnedD t u tx false).1.2 a' cap') ∧ w.grownBy w' (some db) := by
  have hn : t.L.length ≤ 1048576 := Nat.le_trans hk.1 (by decide)
  have HZ := yz (below1 w (.cells #[.string ⟨#[100, 114, 105, 102, 116]⟩, .string tx, .int .i64 n] 57))
  have HD0 := yz (hD.kept (yy HZ))
  have HB0 : B ≤ (w.alloc (.cells #[.string ⟨#[100, 114, 105, 102, 116]⟩, .string tx, .int .i64 n] 57)).heap.size := Nat.le_trans hB (yy HZ).size
  have c0 := (blk_new w [.string ⟨#[100, 114, 105, 102, 116]⟩, .string tx, .int .i64 n] 57).cell 0 _ rfl
  have c1 := (blk_new w [.string ⟨#[100, 114, 105, 102, 116]⟩, .string tx, .int .i64 n] 57).cell 1 _ rfl
  have c2 := (blk_new w [.string ⟨#[100, 114, 105, 102, 116]⟩, .string tx, .int .i64 n] 57).cell 2 _ rfl
  have cT := yz (specTurned_any _ db B t u a cap tx false hn hs HB0 (yy HD0))
  generalize turnedD t u tx false = R at *
  go_enter Tryz.func21, Tryz.ntmps21
  go_wp2_with fail
  refine (yy cT).mono ?_
  rintro e W1 ⟨rfl, hD1, hg⟩
  have HX := yz hD1
  have HG := yz (grown_more (grown_below (yy HZ)) hg)
  clear hD1 hg c0 c1 c2
  go_wp2_with fail
  go_ret
  exact ⟨rfl, yy HX, yy HG⟩
set_option maxHeartbeats 8000000 in
set_option maxRecDepth 100000 in
theorem specLine_See (w : World) (db B : Nat) (t : Tk) (u : U4) (a : Option Addr) (cap : Nat) (tx : ByteArray) (n : Int) (hk : DeskOk t) (hs : tx.size ≤ 9223372036854775807) (hB : B ≤ w.heap.size) (hD : DeskAt w db B t u a cap) :
    Calls Tryz.prog 21 #[.pointer (some ⟨db, 0, none⟩), .agg #[.string ⟨#[115, 101, 101]⟩, .string tx, .int .i64 n]] w fun e w' => e = .returned (.string ((lookD t (spotsD t.L u.1 u.2.1 u.2.2.1 u.2.2.2 n)).2)) ∧ (∃ a' cap', DeskAt w' db B (lookD t (spotsD t.L u.1 u.2.1 u.2.2.1 u.2.2.2 n)).1 u a' cap') ∧ w.grownBy w' (some db) := by
  have hn : t.L.length ≤ 1048576 := Nat.le_trans hk.1 (by decide)
  have HZ := yz (below1 w (.cells #[.string ⟨#[115, 101, 101]⟩, .string tx, .int .i64 n] 57))
  have HD0 := yz (hD.kept (yy HZ))
  have HB0 : B ≤ (w.alloc (.cells #[.string ⟨#[115, 101, 101]⟩, .string tx, .int .i64 n] 57)).heap.size := Nat.le_trans hB (yy HZ).size
  have c0 := (blk_new w [.string ⟨#[115, 101, 101]⟩, .string tx, .int .i64 n] 57).cell 0 _ rfl
  have c1 := (blk_new w [.string ⟨#[115, 101, 101]⟩, .string tx, .int .i64 n] 57).cell 1 _ rfl
  have c2 := (blk_new w [.string ⟨#[115, 101, 101]⟩, .string tx, .int .i64 n] 57).cell 2 _ rfl
  have cS := yz (specSpots_any _ db B t u a cap n hn (yy HD0))
  have hs6 := spotsD_len t.L u.1 u.2.1 u.2.2.1 u.2.2.2 n
  have hmx : maxLen ≤ 9223372036854775807 := by decide +kernel
  have cL := yz (fun W S br dr => specDeskLook_any W db B t u a cap S br dr hn)
  generalize (spotsD t.L u.1 u.2.1 u.2.2.1 u.2.2.2 n) = S at *
  go_enter Tryz.func21, Tryz.ntmps21
  go_wp2_with fail
  refine (yy cS).mono ?_
  rintro e W1 ⟨⟨v, rfl, hR⟩, hx⟩
  obtain ⟨a1, c1', rfl⟩ := own_slice hR
  have HB1 := yz (below_call (yy HZ) hx)
  have HD1 := yz ((yy HD0).kept hx)
  have HR := yz hR
  have hBW : B ≤ W1.heap.size := Nat.le_trans HB0 hx.size
  have hcap : S.length ≤ c1' ∧ c1' ≤ 9223372036854775807 := by
    rcases (dirs_ownV hR).2 with h | h
    · exact ⟨h.1, Nat.le_trans h.2 hmx⟩
    · omega
  clear hR hx c0 c1 c2
  go_wp2_with fail
  refine ((yy cL) W1 S a1 c1' (by omega) hBW (yy HD1) (dirs_ownV (yy HR)).1 (fun y e => (own_far (yy HR) y e).2) hcap.1 hcap.2).mono ?_
  rintro e W2 ⟨rfl, hD2, hg⟩
  have HX := yz hD2
  have HG := yz (grown_more (grown_below (yy HB1)) hg)
  clear hD2 hg
  go_wp2_with fail
  go_ret
  exact ⟨rfl, yy HX, yy HG⟩
set_option maxHeartbeats 8000000 in
set_option maxRecDepth 100000 in
theorem specLine_Blind (w : World) (db B : Nat) (t : Tk) (u : U4) (a : Option Addr) (cap : Nat) (tx : ByteArray) (n : Int) (hk : DeskOk t) (hs : tx.size ≤ 9223372036854775807) (hB : B ≤ w.heap.size) (hD : DeskAt w db B t u a cap) :
    Calls Tryz.prog 21 #[.pointer (some ⟨db, 0, none⟩), .agg #[.string ⟨#[98, 108, 105, 110, 100]⟩, .string tx, .int .i64 n]] w fun e w' => e = .returned (.string ((lookD t []).2)) ∧ (∃ a' cap', DeskAt w' db B (lookD t []).1 u a' cap') ∧ w.grownBy w' (some db) := by
  have hn : t.L.length ≤ 1048576 := Nat.le_trans hk.1 (by decide)
  have HZ := yz (below1 w (.cells #[.string ⟨#[98, 108, 105, 110, 100]⟩, .string tx, .int .i64 n] 57))
  have HD0 := yz (hD.kept (yy HZ))
  have HB0 : B ≤ (w.alloc (.cells #[.string ⟨#[98, 108, 105, 110, 100]⟩, .string tx, .int .i64 n] 57)).heap.size := Nat.le_trans hB (yy HZ).size
  have c0 := (blk_new w [.string ⟨#[98, 108, 105, 110, 100]⟩, .string tx, .int .i64 n] 57).cell 0 _ rfl
  have c1 := (blk_new w [.string ⟨#[98, 108, 105, 110, 100]⟩, .string tx, .int .i64 n] 57).cell 1 _ rfl
  have c2 := (blk_new w [.string ⟨#[98, 108, 105, 110, 100]⟩, .string tx, .int .i64 n] 57).cell 2 _ rfl
  have cL : Hid (Calls Tryz.prog 39 #[.pointer (some ⟨db, 0, none⟩), .slice none 0 0] (w.alloc (.cells #[.string ⟨#[98, 108, 105, 110, 100]⟩, .string tx, .int .i64 n] 57)) fun e w' => e = .returned (.string (lookD t []).2) ∧ (∃ a' cap', DeskAt w' db B (lookD t []).1 u a' cap') ∧ (w.alloc (.cells #[.string ⟨#[98, 108, 105, 110, 100]⟩, .string tx, .int .i64 n] 57)).grownBy w' (some db)) := yz (specDeskLook_any (w.alloc (.cells #[.string ⟨#[98, 108, 105, 110, 100]⟩, .string tx, .int .i64 n] 57)) db B t u a cap [] none 0 hn (by decide) HB0 (yy HD0) (.inl rfl) (fun y e => by cases e) (by decide) (by decide))
  generalize lookD t [] = R at *
  go_enter Tryz.func21, Tryz.ntmps21
  go_wp2_with fail
  refine (yy cL).mono ?_
  rintro e W1 ⟨rfl, hD1, hg⟩
  have HX := yz hD1
  have HG := yz (grown_more (grown_below (yy HZ)) hg)
  clear hD1 hg c0 c1 c2
  go_wp2_with fail
  go_ret
  exact ⟨rfl, yy HX, yy HG⟩
set_option maxHeartbeats 8000000 in
set_option maxRecDepth 100000 in
theorem specLine_Reset (w : World) (db B : Nat) (t : Tk) (u : U4) (a : Option Addr) (cap : Nat) (tx : ByteArray) (n : Int) (hk : DeskOk t) (hs : tx.size ≤ 9223372036854775807) (hB : B ≤ w.heap.size) (hD : DeskAt w db B t u a cap) :
    Calls Tryz.prog 21 #[.pointer (some ⟨db, 0, none⟩), .agg #[.string ⟨#[114, 101, 115, 101, 116]⟩, .string tx, .int .i64 n]] w fun e w' => e = .returned (.string (okTx)) ∧ (∃ a' cap', DeskAt w' db B (resetT t) u a' cap') ∧ w.grownBy w' (some db) := by
  have hn : t.L.length ≤ 1048576 := Nat.le_trans hk.1 (by decide)
  have HZ := yz (below1 w (.cells #[.string ⟨#[114, 101, 115, 101, 116]⟩, .string tx, .int .i64 n] 57))
  have HD0 := yz (hD.kept (yy HZ))
  have HB0 : B ≤ (w.alloc (.cells #[.string ⟨#[114, 101, 115, 101, 116]⟩, .string tx, .int .i64 n] 57)).heap.size := Nat.le_trans hB (yy HZ).size
  have c0 := (blk_new w [.string ⟨#[114, 101, 115, 101, 116]⟩, .string tx, .int .i64 n] 57).cell 0 _ rfl
  have c1 := (blk_new w [.string ⟨#[114, 101, 115, 101, 116]⟩, .string tx, .int .i64 n] 57).cell 1 _ rfl
  have c2 := (blk_new w [.string ⟨#[114, 101, 115, 101, 116]⟩, .string tx, .int .i64 n] 57).cell 2 _ rfl
  obtain ⟨u1, u2, u3, u4⟩ := u
  obtain ⟨L, lim, mode, A, B', C, D, coast, fr⟩ := t
  dsimp only at hn hD
  have HDs := yz (yy HD0).sky.stars
  have cR := yz (specReset_any L lim mode A B' C D coast fr a cap (w.alloc (.cells #[.string ⟨#[114, 101, 115, 101, 116]⟩, .string tx, .int .i64 n] 57)) hn (yy HDs))
  generalize resetT ⟨L, lim, mode, A, B', C, D, coast, fr⟩ = t2 at *
  generalize resetC ⟨L, lim, mode, A, B', C, D, coast, fr⟩ = code at *
  obtain ⟨L2, l2, m2, A2, B2, C2, D2, o2, f2⟩ := t2
  have d0 := (yy HD0).blk.cell 0 _ rfl
  have d1 := (yy HD0).blk.cell 1 _ rfl
  have d2 := (yy HD0).blk.cell 2 _ rfl
  have d3 := (yy HD0).blk.cell 3 _ rfl
  have d4 := (yy HD0).blk.cell 4 _ rfl
  have d5 := (yy HD0).blk.cell 5 _ rfl
  have d6 := (yy HD0).blk.cell 6 _ rfl
  have d7 := (yy HD0).blk.cell 7 _ rfl
  have d8 := (yy HD0).blk.cell 8 _ rfl
  go_enter Tryz.func21, Tryz.ntmps21
  go_wp2_with fail
  refine (yy cR).mono ?_
  rintro e W1 ⟨⟨a2, cap2, rfl, hC2⟩, hx⟩
  have HC2 := yz hC2
  have HB1 := yz (below_call (yy HZ) hx)
  have HE := yz ((yy HD0).kept hx)
  have hdl : db < W1.heap.size := (yy HE).lt
  have hd0 := (yy HD0).lt
  clear hC2 hx c0 c1 c2 d0 d1 d2 d3 d4 d5 d6 d7 d8
  have hft := fieldT W1 a2 L2.length cap2 l2 m2 A2 B2 C2 D2 o2 f2 code
  have e0 := (yy HE).blk.cell 0 _ rfl
  have z0 := (yy HE).blk.free 0
  have e1 := (yy HE).blk.cell 1 _ rfl
  have z1 := (yy HE).blk.free 1
  have e2 := (yy HE).blk.cell 2 _ rfl
  have z2 := (yy HE).blk.free 2
  have e3 := (yy HE).blk.cell 3 _ rfl
  have z3 := (yy HE).blk.free 3
  have e4 := (yy HE).blk.cell 4 _ rfl
  have z4 := (yy HE).blk.free 4
  have e5 := (yy HE).blk.cell 5 _ rfl
  have z5 := (yy HE).blk.free 5
  have e6 := (yy HE).blk.cell 6 _ rfl
  have z6 := (yy HE).blk.free 6
  have e7 := (yy HE).blk.cell 7 _ rfl
  have z7 := (yy HE).blk.free 7
  have e8 := (yy HE).blk.cell 8 _ rfl
  have z8 := (yy HE).blk.free 8
  go_wp2_with fail
  obtain ⟨HP, hg⟩ := DeskAt.put9 (yy HE) ⟨L2, l2, m2, A2, B2, C2, D2, o2, f2⟩ a2 cap2 (own_lower (yy HC2) HB0) (fun x e => by have := (own_far (yy HC2) x e).1; omega)
  dsimp only at HP hg
  have HP8 := yz HP
  have HG8 := yz (grown_more (grown_below (yy HB1)) hg)
  clear HP hg
  go_ret
  exact ⟨rfl, ⟨_, _, yy HP8⟩, yy HG8⟩
theorem intL_cellD {w : World} {B n cap : Nat} {a : Option Addr} {xs : List Int} (h : w.ownsRow B 2 1 (.slice a n cap) n (intL xs)) (hn : n = xs.length) {k : Nat} (hk : k < n) : ∃ g, a = some ⟨g, 0, none⟩ ∧ B ≤ g ∧ g < w.heap.size ∧ w.cell? ⟨g, k, none⟩ = some (.int .i64 (xs.getD k 0)) := by
  rcases h.2 with ⟨_, h0⟩ | ⟨g, c', cur, e', hb, hh, h1, h2, h3, h4⟩
  · omega
  · injection e' with e1
    refine ⟨g, e1, hb, (Array.getElem?_eq_some_iff.1 hh).1, ?_⟩
    rw [cell_of_row w g k cur _ _ hh]
    have e : (intL xs)[k]? = some (.int .i64 (xs.getD k 0)) := by
      unfold intL
      rw [List.getElem?_map, List.getD_eq_getElem?_getD, List.getElem?_eq_getElem (by omega)]
      rfl
    rw [← h4, List.getElem?_take, if_pos (by omega)] at e
    simpa using e
theorem own_put3 {w : World} {B n m yb : Nat} {t : TypeId} {a : Option Addr} {c : Nat} {xs : List Value} (h : w.ownsRow B t m (.slice a n c) n xs) (hf : ∀ x, a = some x → x.block ≠ yb) (x0 x1 x2 : Value) : (((w.setCell ⟨yb, 0, none⟩ x0).setCell ⟨yb, 1, none⟩ x1).setCell ⟨yb, 2, none⟩ x2).ownsRow B t m (.slice a n c) n xs := by
  refine World.ownsRow.kept h (grown_set (grown_set (grown_set (grown_below (Below.refl _ _)) 0 _) 1 _) 2 _) ?_
  cases a with
  | none => exact .inl rfl
  | some x => exact .inr (fun e => hf x rfl (Option.some.inj e))
theorem blk3_put {W : World} {xb : Nat} {t : TypeId} {v0 v1 v2 : Value} (h : Blk W xb [v0, v1, v2] t) (x0 x1 x2 : Value) : Blk (((W.setCell ⟨xb, 0, none⟩ x0).setCell ⟨xb, 1, none⟩ x1).setCell ⟨xb, 2, none⟩ x2) xb [x0, x1, x2] t := Blk.set (Blk.set (Blk.set h 0 x0) 1 x1) 2 x2
theorem below3_put {n : Nat} {w W : World} {xb : Nat} (h : Below n w W) (hx : n ≤ xb) (x0 x1 x2 : Value) : Below n w (((W.setCell ⟨xb, 0, none⟩ x0).setCell ⟨xb, 1, none⟩ x1).setCell ⟨xb, 2, none⟩ x2) := ((h.setCell hx _).setCell hx _).setCell hx _
def IdsCut (W : World) (I : List Int) (cnt code : Int) (sv : Value) (wx : World) : Prop := ∃ yb aI cI, sv = .pointer (some ⟨yb, 0, none⟩) ∧ Blk wx yb [.slice aI I.length cI, .int .i64 cnt, .int .i64 code] 87 ∧ wx.ownsRow W.heap.size 2 1 (.slice aI I.length cI) I.length (intL I) ∧ Below W.heap.size W wx
theorem idsCut_put {W V : World} {yb : Nat} {I : List Int} {cnt code : Int} {aI : Option Addr} {cI : Nat} {v0 v1 v2 : Value} (hY : Blk V yb [v0, v1, v2] 87) (hR : V.ownsRow W.heap.size 2 1 (.slice aI I.length cI) I.length (intL I)) (hf : ∀ x, aI = some x → x.block ≠ yb) (hB : Below W.heap.size W V) (hb : W.heap.size ≤ yb) : IdsCut W I cnt code (.pointer (some ⟨yb, 0, none⟩)) (((V.setCell ⟨yb, 0, none⟩ (.slice aI I.length cI)).setCell ⟨yb, 1, none⟩ (.int .i64 cnt)).setCell ⟨yb, 2, none⟩ (.int .i64 code)) :=
  ⟨yb, aI, cI, rfl, blk3_put hY _ _ _, own_put3 hR hf _ _ _, below3_put hB hb _ _ _⟩
set_option maxHeartbeats 8000000 in
set_option maxRecDepth 100000 in
theorem specLine_Ids (w : World) (db B : Nat) (t : Tk) (u : U4) (a : Option Addr) (cap : Nat) (tx : ByteArray) (n : Int) (hk : DeskOk t) (hs : tx.size ≤ 9223372036854775807) (hB : B ≤ w.heap.size) (hD : DeskAt w db B t u a cap) :
    Calls Tryz.prog 21 #[.pointer (some ⟨db, 0, none⟩), .agg #[.string ⟨#[105, 100, 115]⟩, .string tx, .int .i64 n]] w fun e w' => e = .returned (.string (idsB t u n)) ∧ (∃ a' cap', DeskAt w' db B t u a' cap') ∧ w.grownBy w' (some db) := by
  have hn : t.L.length ≤ 1048576 := Nat.le_trans hk.1 (by decide)
  have HZ := yz (below1 w (.cells #[.string ⟨#[105, 100, 115]⟩, .string tx, .int .i64 n] 57))
  have HD0 := yz (hD.kept (yy HZ))
  have HB0 : B ≤ (w.alloc (.cells #[.string ⟨#[105, 100, 115]⟩, .string tx, .int .i64 n] 57)).heap.size := Nat.le_trans hB (yy HZ).size
  have c0 := (blk_new w [.string ⟨#[105, 100, 115]⟩, .string tx, .int .i64 n] 57).cell 0 _ rfl
  have c1 := (blk_new w [.string ⟨#[105, 100, 115]⟩, .string tx, .int .i64 n] 57).cell 1 _ rfl
  have c2 := (blk_new w [.string ⟨#[105, 100, 115]⟩, .string tx, .int .i64 n] 57).cell 2 _ rfl
  have HSB : Hid (idsB t u n = if identK t.L (spotsD t.L u.1 u.2.1 u.2.2.1 u.2.2.2 n) = 0 then idsJ (identL t.L (spotsD t.L u.1 u.2.1 u.2.2.1 u.2.2.2 n)) (identL t.L (spotsD t.L u.1 u.2.1 u.2.2.1 u.2.2.2 n)).length else errT (identK t.L (spotsD t.L u.1 u.2.1 u.2.2.1 u.2.2.2 n)).toNat) := yz rfl
  generalize idsB t u n = R at *
  have hs6 := spotsD_len t.L u.1 u.2.1 u.2.2.1 u.2.2.2 n
  have hks := identK_span t.L (spotsD t.L u.1 u.2.1 u.2.2.1 u.2.2.2 n)
  obtain ⟨hil, his⟩ := identL_small t.L (spotsD t.L u.1 u.2.1 u.2.2.1 u.2.2.2 n)
  have HIS := yz his
  have HSZ := yz (idsJ_size his)
  clear his
  have cS := yz (fun W h => specSpots_any W db B t u a cap n hn h)
  have hmx : maxLen ≤ 9223372036854775807 := by decide +kernel
  have cI := yz (fun (W : World) br dr => specIdentify_any t.L (spotsD t.L u.1 u.2.1 u.2.2.1 u.2.2.2 n) a br cap dr W hn (by omega))
  generalize (spotsD t.L u.1 u.2.1 u.2.2.1 u.2.2.2 n) = S at *
  obtain ⟨u1, u2, u3, u4⟩ := u
  obtain ⟨L, lim, mode, A, B', C, D, coast, fr⟩ := t
  dsimp only at hn hD HSB hil hks HIS HSZ cI
  generalize identL L S = I at *
  generalize identC L S = cnt at *
  generalize identK L S = code at *
  have hdl := (yy HD0).lt
  have d0 := (yy HD0).blk.cell 0 _ rfl
  have hwl : w.heap.size < (w.alloc (.cells #[.string ⟨#[105, 100, 115]⟩, .string tx, .int .i64 n] 57)).heap.size := (blk_new w [.string ⟨#[105, 100, 115]⟩, .string tx, .int .i64 n] 57).lt
  have HKS : Hid (∀ w' : World, Below (w.alloc (.cells #[.string ⟨#[105, 100, 115]⟩, .string tx, .int .i64 n] 57)).heap.size (w.alloc (.cells #[.string ⟨#[105, 100, 115]⟩, .string tx, .int .i64 n] 57)) w' → w'.cell? ⟨db, 0, none⟩ = some (.slice a L.length cap) ∧ w'.cell? ⟨w.heap.size, 2, none⟩ = some (.int .i64 n)) := yz (fun w' h => ⟨by rw [h.cell hdl]; exact d0, by rw [h.cell hwl]; exact c2⟩)
  go_enter Tryz.func21, Tryz.ntmps21
  go_upto_region 14 with fail
  generalize w.alloc (.cells #[.string ⟨#[105, 100, 115]⟩, .string tx, .int .i64 n] 57) = W at *
  clear c0 c1 c2 d0
  go_cut [5] (fun sv wx => IdsCut W I cnt code sv wx)
  case first =>
    refine wp_region_held_drew (S := (fun w' => w'.cell? ⟨db, 0, none⟩ = some (.slice a L.length cap) ∧ w'.cell? ⟨w.heap.size, 2, none⟩ = some (.int .i64 n))) (by kernel_rfl) (yy HKS W (Below.refl _ _)) (fun hHeld => ?_)
    refine wpAnyH_take (i := 0) (v := ?_) rfl (by kernel_rfl) (by kernel_rfl) (by kernel_rfl) (fun _ _ _ h => h) (Or.inl ⟨by rfl, ?_⟩) (by assumption) ?_
    rotate_left
    · intro W0 hSw; (try dsimp only at hSw); go_simp <;> with_reducible rfl
    try simp only [Act.put, List.setIfInBounds_toArray, List.set_cons_zero, List.set_cons_succ]
    refine wpAnyH_take (i := 1) (v := ?_) rfl (by kernel_rfl) (by kernel_rfl) (by kernel_rfl) (fun _ _ _ h => h) (Or.inl ⟨by rfl, ?_⟩) (by assumption) ?_
    rotate_left
    · intro W0 hSw; (try dsimp only at hSw); go_simp <;> with_reducible rfl
    try simp only [Act.put, List.setIfInBounds_toArray, List.set_cons_zero, List.set_cons_succ]
    refine wpAnyH_take (i := 2) (v := ?_) rfl (by kernel_rfl) (by kernel_rfl) (by kernel_rfl) (fun _ _ _ h => h) (Or.inl ⟨by rfl, ?_⟩) (by assumption) ?_
    rotate_left
    · intro W0 hSw; (try dsimp only at hSw); go_simp <;> with_reducible rfl
    try simp only [Act.put, List.setIfInBounds_toArray, List.set_cons_zero, List.set_cons_succ]
    refine wpAnyH_take (i := 3) (v := ?_) rfl (by kernel_rfl) (by kernel_rfl) (by kernel_rfl) (fun _ _ _ h => h) (Or.inl ⟨by rfl, ?_⟩) (by assumption) ?_
    rotate_left
    · intro W0 hSw; (try dsimp only at hSw); go_simp <;> with_reducible rfl
    try simp only [Act.put, List.setIfInBounds_toArray, List.set_cons_zero, List.set_cons_succ]
    refine wpAnyH_take (i := 4) (v := ?_) rfl (by kernel_rfl) (by kernel_rfl) (by kernel_rfl) (fun _ _ _ h => h) (Or.inl ⟨by rfl, ?_⟩) (by assumption) ?_
    rotate_left
    · intro W0 hSw; (try dsimp only at hSw); go_simp <;> with_reducible rfl
    try simp only [Act.put, List.setIfInBounds_toArray, List.set_cons_zero, List.set_cons_succ]
    refine wpAnyH_take (i := 5) (v := ?_) rfl (by kernel_rfl) (by kernel_rfl) (by kernel_rfl) (fun _ _ _ h => h) (Or.inl ⟨by rfl, ?_⟩) (by assumption) ?_
    rotate_left
    · intro W0 hSw; (try dsimp only at hSw); go_simp <;> with_reducible rfl
    try simp only [Act.put, List.setIfInBounds_toArray, List.set_cons_zero, List.set_cons_succ]
    refine wpAnyH_take (i := 6) (v := ?_) rfl (by kernel_rfl) (by kernel_rfl) (by kernel_rfl) (fun _ _ _ h => h) (Or.inl ⟨by rfl, ?_⟩) (by assumption) ?_
    rotate_left
    · intro W0 hSw; (try dsimp only at hSw); go_simp <;> with_reducible rfl
    try simp only [Act.put, List.setIfInBounds_toArray, List.set_cons_zero, List.set_cons_succ]
    refine wpAnyH_take (i := 7) (v := ?_) rfl (by kernel_rfl) (by kernel_rfl) (by kernel_rfl) (fun _ _ _ h => h) (Or.inl ⟨by rfl, ?_⟩) (by assumption) ?_
    rotate_left
    · intro W0 hSw; (try dsimp only at hSw); go_simp <;> with_reducible rfl
    try simp only [Act.put, List.setIfInBounds_toArray, List.set_cons_zero, List.set_cons_succ]
    refine wpAnyH_ready (rs := [8, 10]) (by kernel_rfl) (by simp) ?_
    refine AllReadyH.cons rfl (fun K hK => ?_) (AllReadyH.cons rfl (fun K hK => ?_) AllReadyH.nil)
    · skip
      go_simp
      refine ((yy cS) W.drew ((yy HD0).kept (Below.refl _ _).drew)).mono ?_
      rintro e V1 ⟨⟨vS, rfl, hR⟩, hx⟩
      obtain ⟨aS, cpS, rfl⟩ := own_slice hR
      have HR := yz hR
      have HV : Hid (Below W.heap.size W V1) := yz ((Below.refl W.heap.size W).drew.trans hx)
      have hcap : S.length ≤ cpS ∧ cpS ≤ 9223372036854775807 := by
        rcases (dirs_ownV hR).2 with h | h
        · exact ⟨h.1, Nat.le_trans h.2 hmx⟩
        · omega
      clear hx hR
      refine hK.out _ _ (yy HKS _ (yy HV)) (fun hHeld1 => ?_)
      clear hK K hHeld
      refine wpAnyH_ready (rs := [9, 10]) (by kernel_rfl) (by simp) ?_
      refine AllReadyH.cons rfl (fun K hK => ?_) (AllReadyH.cons rfl (fun K hK => ?_) AllReadyH.nil)
      · skip
        go_simp
        refine ((yy cI) V1 aS cpS hcap.1 hcap.2 ((yy HD0).kept (yy HV)).sky.stars (dirs_ownV (yy HR)).1 (stars_lt ((yy HD0).kept (yy HV)).sky) (fun y e => (own_far (yy HR) y e).2)).mono ?_
        rintro e V2 ⟨⟨vI, rfl, hI⟩, hx⟩
        obtain ⟨aI, cpI, rfl⟩ := own_slice hI
        have HV1 := yz (below_call (yy HV) hx)
        have hvl : W.heap.size ≤ V1.heap.size := (yy HV).size
        have HI1 := yz (own_lower hI hvl)
        have hfar := fun x e => (own_far hI x e).2
        clear hx hI HV
        have HV := HV1
        refine hK.out _ _ (yy HKS _ (yy HV)) (fun hHeld => ?_)
        clear hK K hHeld1
        refine wpAnyH_ready (rs := [10]) (by kernel_rfl) (by simp) ?_
        refine AllReadyH.cons rfl (fun K hK => ?_) AllReadyH.nil
        go_simp
        have HY := yz (blk_new V2 [.slice none 0 0, .int .i64 0, .int .i64 0] 87)
        have HI := yz (own_kept (yy HI1) (below1 V2 (.cells #[.slice none 0 0, .int .i64 0, .int .i64 0] 87)))
        have HF : Hid (∀ x, aI = some x → x.block ≠ V2.heap.size) := yz (fun x e => Nat.ne_of_lt (hfar x e))
        have hyb : W.heap.size ≤ V2.heap.size := (yy HV).size
        replace HV := yz (below_call (yy HV) (below1 V2 (.cells #[.slice none 0 0, .int .i64 0, .int .i64 0] 87)))
        generalize V2.alloc (.cells #[.slice none 0 0, .int .i64 0, .int .i64 0] 87) = V3 at *
        generalize V2.heap.size = yb at *
        refine hK.out _ _ (yy HKS _ (yy HV)) (fun hHeld1 => ?_)
        clear hK K hHeld
        obtain ⟨y0, y1, y2⟩ := bcs3 (yy HY)
        obtain ⟨z0, z1, z2⟩ := bfs3 (yy HY)
        refine wpAnyH_ready (rs := [11]) (by kernel_rfl) (by simp) ?_
        refine AllReadyH.cons rfl (fun K hK => ?_) AllReadyH.nil
        go_simp
        have HCUT := yz (idsCut_put (cnt := cnt) (code := code) (yy HY) (yy HI) (yy HF) (yy HV) hyb)
        refine hK.out _ _ (yy HKS _ (below3_put (yy HV) hyb _ _ _)) (fun hHeldE => ?_)
        clear hK K y0 y1 y2 z0 z1 z2
        refine wpAnyH_done (by kernel_rfl) ?_ _
        clear hHeldE
        go_wp2_with fail
        go_meet
        exact yy HCUT
      · skip
        go_simp
        have HY1 := yz (blk_new V1 [.slice none 0 0, .int .i64 0, .int .i64 0] 87)
        have hyb : W.heap.size ≤ V1.heap.size := (yy HV).size
        replace HR := yz (own_kept (yy HR) (below1 V1 (.cells #[.slice none 0 0, .int .i64 0, .int .i64 0] 87)))
        replace HV := yz (below_call (yy HV) (below1 V1 (.cells #[.slice none 0 0, .int .i64 0, .int .i64 0] 87)))
        refine hK.out _ _ (yy HKS _ (yy HV)) (fun hHeld => ?_)
        clear hK K hHeld1
        refine wpAnyH_ready (rs := [9]) (by kernel_rfl) (by simp) ?_
        refine AllReadyH.cons rfl (fun K hK => ?_) AllReadyH.nil
        go_simp
        refine ((yy cI) _ aS cpS hcap.1 hcap.2 ((yy HD0).kept (yy HV)).sky.stars (dirs_ownV (yy HR)).1 (stars_lt ((yy HD0).kept (yy HV)).sky) (fun y e => (own_far (yy HR) y e).2)).mono ?_
        rintro e V2 ⟨⟨vI, rfl, hI⟩, hx⟩
        obtain ⟨aI, cpI, rfl⟩ := own_slice hI
        have HY := yz ((yy HY1).kept hx)
        have hvl := (yy HV).size
        have hylt := (yy HY1).lt
        have HF : Hid (∀ x, aI = some x → x.block ≠ V1.heap.size) := yz (fun x e => by have := (own_far hI x e).1; omega)
        have HI := yz (own_lower hI hvl)
        replace HV := yz (below_call (yy HV) hx)
        clear hx hI
        refine hK.out _ _ (yy HKS _ (yy HV)) (fun hHeld1 => ?_)
        clear hK K hHeld
        obtain ⟨y0, y1, y2⟩ := bcs3 (yy HY)
        obtain ⟨z0, z1, z2⟩ := bfs3 (yy HY)
        refine wpAnyH_ready (rs := [11]) (by kernel_rfl) (by simp) ?_
        refine AllReadyH.cons rfl (fun K hK => ?_) AllReadyH.nil
        go_simp
        have HCUT := yz (idsCut_put (cnt := cnt) (code := code) (yy HY) (yy HI) (yy HF) (yy HV) hyb)
        refine hK.out _ _ (yy HKS _ (below3_put (yy HV) hyb _ _ _)) (fun hHeldE => ?_)
        clear hK K y0 y1 y2 z0 z1 z2
        refine wpAnyH_done (by kernel_rfl) ?_ _
        clear hHeldE
        go_wp2_with fail
        go_meet
        exact yy HCUT
    · skip
      go_simp
      have HY0 : Hid (Blk (W.drew.alloc (.cells #[.slice none 0 0, .int .i64 0, .int .i64 0] 87)) W.heap.size [.slice none 0 0, .int .i64 0, .int .i64 0] 87) := yz (blk_new W.drew [.slice none 0 0, .int .i64 0, .int .i64 0] 87)
      have HV0 : Hid (Below W.heap.size W (W.drew.alloc (.cells #[.slice none 0 0, .int .i64 0, .int .i64 0] 87))) := yz ((Below.refl W.heap.size W).drew.trans (below1 W.drew (.cells #[.slice none 0 0, .int .i64 0, .int .i64 0] 87)))
      refine hK.out _ _ (yy HKS _ (yy HV0)) (fun hHeld1 => ?_)
      clear hK K hHeld
      refine wpAnyH_ready (rs := [8]) (by kernel_rfl) (by simp) ?_
      refine AllReadyH.cons rfl (fun K hK => ?_) AllReadyH.nil
      go_simp
      refine ((yy cS) _ ((yy HD0).kept (yy HV0))).mono ?_
      rintro e V1 ⟨⟨vS, rfl, hR⟩, hx⟩
      obtain ⟨aS, cpS, rfl⟩ := own_slice hR
      have HR := yz hR
      have HV : Hid (Below W.heap.size W V1) := yz (below_call (yy HV0) hx)
      have hcap : S.length ≤ cpS ∧ cpS ≤ 9223372036854775807 := by
        rcases (dirs_ownV hR).2 with h | h
        · exact ⟨h.1, Nat.le_trans h.2 hmx⟩
        · omega
      have HY1 := yz ((yy HY0).kept hx)
      clear hx hR
      refine hK.out _ _ (yy HKS _ (yy HV)) (fun hHeld => ?_)
      clear hK K hHeld1
      refine wpAnyH_ready (rs := [9]) (by kernel_rfl) (by simp) ?_
      refine AllReadyH.cons rfl (fun K hK => ?_) AllReadyH.nil
      go_simp
      refine ((yy cI) V1 aS cpS hcap.1 hcap.2 ((yy HD0).kept (yy HV)).sky.stars (dirs_ownV (yy HR)).1 (stars_lt ((yy HD0).kept (yy HV)).sky) (fun y e => (own_far (yy HR) y e).2)).mono ?_
      rintro e V2 ⟨⟨vI, rfl, hI⟩, hx⟩
      obtain ⟨aI, cpI, rfl⟩ := own_slice hI
      have HY := yz ((yy HY1).kept hx)
      have hvl := (yy HV).size
      have hylt := (yy HY1).lt
      have HF : Hid (∀ x, aI = some x → x.block ≠ W.heap.size) := yz (fun x e => by have := (own_far hI x e).1; omega)
      have HI := yz (own_lower hI hvl)
      replace HV := yz (below_call (yy HV) hx)
      clear hx hI
      refine hK.out _ _ (yy HKS _ (yy HV)) (fun hHeld1 => ?_)
      clear hK K hHeld
      obtain ⟨y0, y1, y2⟩ := bcs3 (yy HY)
      obtain ⟨z0, z1, z2⟩ := bfs3 (yy HY)
      refine wpAnyH_ready (rs := [11]) (by kernel_rfl) (by simp) ?_
      refine AllReadyH.cons rfl (fun K hK => ?_) AllReadyH.nil
      go_simp
      have HCUT := yz (idsCut_put (cnt := cnt) (code := code) (yy HY) (yy HI) (yy HF) (yy HV) (Nat.le_refl _))
      refine hK.out _ _ (yy HKS _ (below3_put (yy HV) (Nat.le_refl _) _ _ _)) (fun hHeldE => ?_)
      clear hK K y0 y1 y2 z0 z1 z2
      refine wpAnyH_done (by kernel_rfl) ?_ _
      clear hHeldE
      go_wp2_with fail
      go_meet
      exact yy HCUT
  case rest =>
  obtain ⟨yb, aI, cpI, rfl, hY, hI, hBc⟩ := hcut
  have HY := yz hY
  have HI := yz hI
  have HBC := yz hBc
  have y0 := hY.cell 0 _ rfl
  have y2 := hY.cell 2 _ rfl
  have hyl := hY.lt
  clear hY hI hBc HKS cS cI
  by_cases hc : code = 0
  case neg =>
    rw [if_neg hc] at HSB
    obtain ⟨m, rfl⟩ := Int.eq_ofNat_of_zero_le hks.1
    go_wp2_with fail
    refine (l09Error_any m _ (by omega)).mono ?_
    rintro e W3 ⟨rfl, hx3⟩
    have HB3 := yz (below_call (yy HBC) hx3)
    go_wp2_with fail
    go_ret
    rw [yy HSB]
    exact ⟨rfl, ⟨_, _, (yy HD0).kept (yy HB3)⟩, grown_below (below_call (yy HZ) (yy HB3))⟩
  subst hc
  rw [if_pos rfl] at HSB
  have hI6 : I.length ≤ 6 := by omega
  go_wp2_with fail
  go_loopw [6, 7] (fun s kk wr => ∃ k : Nat, k ≤ I.length ∧ s = .string (idsJ I k) ∧ kk = .int .i64 k ∧ Hid (Below wc.heap.size wc wr)) (fun _ kk _ => I.length - (intOf kk).toNat)
  case atStart => exact ⟨0, Nat.zero_le _, rfl, rfl, yz (Below.refl _ _)⟩
  case round =>
    obtain ⟨k, hk', rfl, rfl, HW⟩ := hrel
    have y0' : wr.cell? ⟨yb, 0, none⟩ = some (.slice aI I.length cpI) := by rw [(yy HW).cell hyl]; exact y0
    by_cases hkn : k < I.length
    · have hkn2 : (k : Int) < (I.length : Int) := by omega
      obtain ⟨g, rfl, hg1, hg2, ci⟩ := intL_cellD (yy HI) rfl hkn
      have ci' : wr.cell? ⟨g, k, none⟩ = some (.int .i64 (I.getD k 0)) := by rw [(yy HW).cell hg2]; exact ci
      have hmem : I.getD k 0 ∈ I := by rw [List.getD_eq_getElem?_getD, List.getElem?_eq_getElem hkn]; exact List.getElem_mem hkn
      have hid := yy HIS _ hmem
      have HJ : Hid (idsJ I (k + 1) = (if 0 < k then idsJ I k ++ ⟨#[44]⟩ else idsJ I k) ++ decB (I.getD k 0).toNat) := yz rfl
      have hz := yy HSZ k
      have HJ0 : Hid (idsJ I 0 = ⟨#[]⟩) := yz rfl
      clear hmem ci
      generalize I.getD k 0 = id at *
      obtain ⟨m, rfl⟩ := Int.eq_ofNat_of_zero_le hid.1
      have cD := yz (fun W => l01DecN_any m W (by omega))
      have hz2 := decB_size (n := m) (by omega)
      rw [Int.toNat_natCast] at HJ
      generalize decB m = xd at *
      by_cases hk0 : 0 < k
      · have hk0' : (0 : Int) < (k : Int) := by omega
        rw [if_pos hk0] at HJ
        generalize hJk : idsJ I k = J at *
        have hc1 : ¬ J.size + (⟨#[44]⟩ : ByteArray).size > 9223372036854775807 := by rw [show (⟨#[44]⟩ : ByteArray).size = 1 from rfl]; omega
        have hc2 : ¬ (J ++ ⟨#[44]⟩).size + xd.size > 9223372036854775807 := by rw [ByteArray.size_append, show (⟨#[44]⟩ : ByteArray).size = 1 from rfl]; omega
        go_wp2_with fail
        refine ((yy cD) _).mono ?_
        rintro e W3 ⟨rfl, hx3⟩
        have HW3 := yz (below_call (yy HW) hx3)
        clear hx3
        go_wp2_with fail
        go_roundw
        case rel => exact ⟨k + 1, hkn, by rw [yy HJ], by go_num, HW3⟩
        case measure => simp [intOf] <;> omega
      · have hk0' : k = 0 := by omega
        subst hk0'
        rw [if_neg (by omega)] at HJ
        have hc2 : ¬ (⟨#[]⟩ : ByteArray).size + xd.size > 9223372036854775807 := by rw [show (⟨#[]⟩ : ByteArray).size = 0 from rfl]; omega
        rw [yy HJ0] at HJ ⊢
        go_wp2_with fail
        refine ((yy cD) _).mono ?_
        rintro e W3 ⟨rfl, hx3⟩
        have HW3 := yz (below_call (yy HW) hx3)
        clear hx3
        go_wp2_with fail
        go_roundw
        case rel => exact ⟨1, hkn, by rw [yy HJ], by go_num, HW3⟩
        case measure => simp [intOf] <;> omega
    · have hke : k = I.length := by omega
      subst hke
      go_wp2_with fail
      go_ret
      rw [yy HSB]
      exact ⟨rfl, ⟨_, _, (yy HD0).kept (below_call (yy HBC) (yy HW))⟩, grown_below (below_call (yy HZ) (below_call (yy HBC) (yy HW)))⟩
set_option maxHeartbeats 8000000 in
set_option maxRecDepth 100000 in
theorem specLine_State (w : World) (db B : Nat) (t : Tk) (u : U4) (a : Option Addr) (cap : Nat) (tx : ByteArray) (n : Int) (hk : DeskOk t) (hs : tx.size ≤ 9223372036854775807) (hB : B ≤ w.heap.size) (hD : DeskAt w db B t u a cap) :
    Calls Tryz.prog 21 #[.pointer (some ⟨db, 0, none⟩), .agg #[.string ⟨#[115, 116, 97, 116, 101]⟩, .string tx, .int .i64 n]] w fun e w' => e = .returned (.string (stateB t)) ∧ (∃ a' cap', DeskAt w' db B t u a' cap') ∧ w.grownBy w' (some db) := by
  have hn : t.L.length ≤ 1048576 := Nat.le_trans hk.1 (by decide)
  have HZ := yz (below1 w (.cells #[.string ⟨#[115, 116, 97, 116, 101]⟩, .string tx, .int .i64 n] 57))
  have HD0 := yz (hD.kept (yy HZ))
  have HB0 : B ≤ (w.alloc (.cells #[.string ⟨#[115, 116, 97, 116, 101]⟩, .string tx, .int .i64 n] 57)).heap.size := Nat.le_trans hB (yy HZ).size
  have c0 := (blk_new w [.string ⟨#[115, 116, 97, 116, 101]⟩, .string tx, .int .i64 n] 57).cell 0 _ rfl
  have c1 := (blk_new w [.string ⟨#[115, 116, 97, 116, 101]⟩, .string tx, .int .i64 n] 57).cell 1 _ rfl
  have c2 := (blk_new w [.string ⟨#[115, 116, 97, 116, 101]⟩, .string tx, .int .i64 n] 57).cell 2 _ rfl
  have HSB : Hid (stateB t = if t.mode = 0 then ⟨#[48, 32, 45]⟩ else (decB t.mode.toNat ++ ⟨#[32]⟩) ++ textB t.A t.B t.C t.D) := yz rfl
  generalize stateB t = R at *
  obtain ⟨u1, u2, u3, u4⟩ := u
  obtain ⟨L, lim, mode, A, B', C, D, coast, fr⟩ := t
  obtain ⟨_, hm0, hm2⟩ := hk
  dsimp only at hn hD hm0 hm2 HSB
  have hdl := (yy HD0).lt
  have d2 := (yy HD0).blk.cell 2 _ rfl
  have d3 := (yy HD0).blk.cell 3 _ rfl
  have d4 := (yy HD0).blk.cell 4 _ rfl
  have d5 := (yy HD0).blk.cell 5 _ rfl
  have d6 := (yy HD0).blk.cell 6 _ rfl
  by_cases hm : mode = 0
  case pos =>
    rw [if_pos hm] at HSB
    subst hm
    go_enter Tryz.func21, Tryz.ntmps21
    go_wp2_with fail
    go_ret
    rw [yy HSB]
    exact ⟨rfl, ⟨_, _, yy HD0⟩, grown_below (yy HZ)⟩
  rw [if_neg hm] at HSB
  have HKS : Hid (∀ w' : World, Below (w.alloc (.cells #[.string ⟨#[115, 116, 97, 116, 101]⟩, .string tx, .int .i64 n] 57)).heap.size (w.alloc (.cells #[.string ⟨#[115, 116, 97, 116, 101]⟩, .string tx, .int .i64 n] 57)) w' → w'.cell? ⟨db, 2, none⟩ = some (.int .i64 mode) ∧ w'.cell? ⟨db, 3, none⟩ = some (.int .i64 A) ∧ w'.cell? ⟨db, 4, none⟩ = some (.int .i64 B') ∧ w'.cell? ⟨db, 5, none⟩ = some (.int .i64 C) ∧ w'.cell? ⟨db, 6, none⟩ = some (.int .i64 D)) := yz (fun w' h => ⟨by rw [h.cell hdl]; exact d2, by rw [h.cell hdl]; exact d3, by rw [h.cell hdl]; exact d4, by rw [h.cell hdl]; exact d5, by rw [h.cell hdl]; exact d6⟩)
  obtain ⟨n', rfl⟩ := Int.eq_ofNat_of_zero_le hm0
  have hnz : ((n' : Int) == 0) = false := by simpa using hm
  have cD := yz (fun W => l01DecN_any n' W (by omega))
  have cX := yz (fun W => specText_any A B' C D W)
  have hz1 := decB_size (n := n') (by omega)
  have hz2 := textB_len A B' C D
  rw [Int.toNat_natCast] at HSB
  generalize decB n' = xd at *
  generalize textB A B' C D = xt at *
  have hc1 : ¬ xd.size + (⟨#[32]⟩ : ByteArray).size > 9223372036854775807 := by rw [show (⟨#[32]⟩ : ByteArray).size = 1 from rfl]; omega
  have hc2 : ¬ (xd ++ ⟨#[32]⟩).size + xt.size > 9223372036854775807 := by rw [ByteArray.size_append, show (⟨#[32]⟩ : ByteArray).size = 1 from rfl]; omega
  have hc3 : ¬ 9223372036854775807 < xd.size + 1 := by omega
  have hc4 : ¬ 9223372036854775807 < xd.size + 1 + xt.size := by omega
  go_enter Tryz.func21, Tryz.ntmps21
  go_upto_region 27 with fail
  generalize w.alloc (.cells #[.string ⟨#[115, 116, 97, 116, 101]⟩, .string tx, .int .i64 n] 57) = W at *
  clear c0 c1 c2
  refine wp_region_held_drew (S := (fun w' => w'.cell? ⟨db, 2, none⟩ = some (.int .i64 (n' : Int)) ∧ w'.cell? ⟨db, 3, none⟩ = some (.int .i64 A) ∧ w'.cell? ⟨db, 4, none⟩ = some (.int .i64 B') ∧ w'.cell? ⟨db, 5, none⟩ = some (.int .i64 C) ∧ w'.cell? ⟨db, 6, none⟩ = some (.int .i64 D))) (by kernel_rfl) (yy HKS W (Below.refl _ _)) (fun hHeld => ?_)
  clear d2 d3 d4 d5 d6
  refine wpAnyH_take (i := 0) (v := ?_) rfl (by kernel_rfl) (by kernel_rfl) (by kernel_rfl) (fun _ _ _ h => h) (Or.inl ⟨by rfl, ?_⟩) (by assumption) ?_
  rotate_left
  · intro W0 hSw; (try dsimp only at hSw); go_simp <;> with_reducible rfl
  try simp only [Act.put, List.setIfInBounds_toArray, List.set_cons_zero, List.set_cons_succ]
  refine wpAnyH_take (i := 1) (v := ?_) rfl (by kernel_rfl) (by kernel_rfl) (by kernel_rfl) (fun _ _ _ h => h) (Or.inl ⟨by rfl, ?_⟩) (by assumption) ?_
  rotate_left
  · intro W0 hSw; (try dsimp only at hSw); go_simp <;> with_reducible rfl
  try simp only [Act.put, List.setIfInBounds_toArray, List.set_cons_zero, List.set_cons_succ]
  refine wpAnyH_take (i := 2) (v := ?_) rfl (by kernel_rfl) (by kernel_rfl) (by kernel_rfl) (fun _ _ _ h => h) (Or.inl ⟨by rfl, ?_⟩) (by assumption) ?_
  rotate_left
  · intro W0 hSw; (try dsimp only at hSw); go_simp <;> with_reducible rfl
  try simp only [Act.put, List.setIfInBounds_toArray, List.set_cons_zero, List.set_cons_succ]
  refine wpAnyH_take (i := 3) (v := ?_) rfl (by kernel_rfl) (by kernel_rfl) (by kernel_rfl) (fun _ _ _ h => h) (Or.inl ⟨by rfl, ?_⟩) (by assumption) ?_
  rotate_left
  · intro W0 hSw; (try dsimp only at hSw); go_simp <;> with_reducible rfl
  try simp only [Act.put, List.setIfInBounds_toArray, List.set_cons_zero, List.set_cons_succ]
  refine wpAnyH_take (i := 4) (v := ?_) rfl (by kernel_rfl) (by kernel_rfl) (by kernel_rfl) (fun _ _ _ h => h) (Or.inl ⟨by rfl, ?_⟩) (by assumption) ?_
  rotate_left
  · intro W0 hSw; (try dsimp only at hSw); go_simp <;> with_reducible rfl
  try simp only [Act.put, List.setIfInBounds_toArray, List.set_cons_zero, List.set_cons_succ]
  refine wpAnyH_take (i := 7) (v := ?_) rfl (by kernel_rfl) (by kernel_rfl) (by kernel_rfl) (fun _ _ _ h => h) (Or.inl ⟨by rfl, ?_⟩) (by assumption) ?_
  rotate_left
  · intro W0 hSw; (try dsimp only at hSw); go_simp <;> with_reducible rfl
  try simp only [Act.put, List.setIfInBounds_toArray, List.set_cons_zero, List.set_cons_succ]
  refine wpAnyH_take (i := 8) (v := ?_) rfl (by kernel_rfl) (by kernel_rfl) (by kernel_rfl) (fun _ _ _ h => h) (Or.inl ⟨by rfl, ?_⟩) (by assumption) ?_
  rotate_left
  · intro W0 hSw; (try dsimp only at hSw); go_simp <;> with_reducible rfl
  try simp only [Act.put, List.setIfInBounds_toArray, List.set_cons_zero, List.set_cons_succ]
  refine wpAnyH_take (i := 9) (v := ?_) rfl (by kernel_rfl) (by kernel_rfl) (by kernel_rfl) (fun _ _ _ h => h) (Or.inl ⟨by rfl, ?_⟩) (by assumption) ?_
  rotate_left
  · intro W0 hSw; (try dsimp only at hSw); go_simp <;> with_reducible rfl
  try simp only [Act.put, List.setIfInBounds_toArray, List.set_cons_zero, List.set_cons_succ]
  refine wpAnyH_take (i := 10) (v := ?_) rfl (by kernel_rfl) (by kernel_rfl) (by kernel_rfl) (fun _ _ _ h => h) (Or.inl ⟨by rfl, ?_⟩) (by assumption) ?_
  rotate_left
  · intro W0 hSw; (try dsimp only at hSw); go_simp <;> with_reducible rfl
  try simp only [Act.put, List.setIfInBounds_toArray, List.set_cons_zero, List.set_cons_succ]
  refine wpAnyH_take (i := 11) (v := ?_) rfl (by kernel_rfl) (by kernel_rfl) (by kernel_rfl) (fun _ _ _ h => h) (Or.inl ⟨by rfl, ?_⟩) (by assumption) ?_
  rotate_left
  · intro W0 hSw; (try dsimp only at hSw); go_simp <;> with_reducible rfl
  try simp only [Act.put, List.setIfInBounds_toArray, List.set_cons_zero, List.set_cons_succ]
  refine wpAnyH_ready (rs := [5]) (by kernel_rfl) (by simp) ?_
  refine AllReadyH.cons rfl (fun K hK => ?_) AllReadyH.nil
  go_simp
  refine ((yy cD) W.drew).mono ?_
  rintro e V1 ⟨rfl, hx⟩
  have HV1 : Hid (Below W.heap.size W V1) := yz ((Below.refl W.heap.size W).drew.trans hx)
  clear hx
  refine hK.out _ _ (yy HKS _ (yy HV1)) (fun hHeld1 => ?_)
  clear hK K hHeld
  refine wpAnyH_take (i := 6) (v := ?_) rfl (by kernel_rfl) (by kernel_rfl) (by kernel_rfl) (fun _ _ _ h => h) (Or.inl ⟨by rfl, ?_⟩) (by assumption) ?_
  rotate_left
  · intro W0 hSw; (try dsimp only at hSw); go_simp <;> with_reducible rfl
  try simp only [Act.put, List.setIfInBounds_toArray, List.set_cons_zero, List.set_cons_succ]
  refine wpAnyH_ready (rs := [12]) (by kernel_rfl) (by simp) ?_
  refine AllReadyH.cons rfl (fun K hK => ?_) AllReadyH.nil
  go_simp
  refine ((yy cX) V1).mono ?_
  rintro e V2 ⟨rfl, hx⟩
  have HV2 := yz (below_call (yy HV1) hx)
  clear hx
  refine hK.out _ _ (yy HKS _ (yy HV2)) (fun hHeld => ?_)
  clear hK K hHeld1
  refine wpAnyH_take (i := 13) (v := ?_) rfl (by kernel_rfl) (by kernel_rfl) (by kernel_rfl) (fun _ _ _ h => h) (Or.inl ⟨by rfl, ?_⟩) (by assumption) ?_
  rotate_left
  · intro W0 hSw; (try dsimp only at hSw); go_simp <;> with_reducible rfl
  try simp only [Act.put, List.setIfInBounds_toArray, List.set_cons_zero, List.set_cons_succ]
  refine wpAnyH_ready (rs := [14]) (by kernel_rfl) (by simp) ?_
  refine AllReadyH.cons rfl (fun K hK => ?_) AllReadyH.nil
  go_simp
  refine hK.out _ _ (yy HKS _ (yy HV2)) (fun hHeld1 => ?_)
  clear hK K hHeld
  refine wpAnyH_done (by kernel_rfl) ?_ _
  clear hHeld1
  go_wp2_with fail
  go_ret
  rw [yy HSB]
  exact ⟨rfl, ⟨_, _, (yy HD0).kept (yy HV2)⟩, grown_below (below_call (yy HZ) (yy HV2))⟩
end Go.Proofs.YtofpjlhoppofdaaGreatDoor
namespace Go.Proofs.YtofpjlhoppofdaaGreatDoor
open Go.Shelf Go.RowKit Go.Sort Go.Lib
def laysM145_ren : Go.Shelf.Ren := ⟨fun | 145 => 22 | 220 => 46 | 219 => 79 | 217 => 119 | 225 => 120 | 224 => 121 | 267 => 122 | 266 => 147 | 314 => 148 | n => n, fun | 9 => 9 | 4 => 4 | 59 => 61 | 3 => 3 | 5 => 5 | 46 => 168 | 146 => 188 | 51 => 187 | n => n, fun | 1 => 0 | n => n⟩
theorem laysM145 : Go.Proofs.LaysM.n145 Tryz.prog laysM145_ren := {
  mixed := by kernel_rfl
  f145 := Tryz.func22.trans (congrArg some (by kernel_rfl))
  f217 := Tryz.func119.trans (congrArg some (by kernel_rfl))
  f219 := Tryz.func79.trans (congrArg some (by kernel_rfl))
  f220 := Tryz.func46.trans (congrArg some (by kernel_rfl))
  f224 := Tryz.func121.trans (congrArg some (by kernel_rfl))
  f225 := Tryz.func120.trans (congrArg some (by kernel_rfl))
  f266 := Tryz.func147.trans (congrArg some (by kernel_rfl))
  f267 := Tryz.func122.trans (congrArg some (by kernel_rfl))
  f314 := Tryz.func148.trans (congrArg some (by kernel_rfl))
  t3 := Tryz.underlying3
  a3 := Tryz.isAgg3
  z3 := Tryz.sizeOf3
  v3 := Tryz.zeroValue3
  t4 := Tryz.underlying4
  a4 := Tryz.isAgg4
  z4 := Tryz.sizeOf4
  v4 := Tryz.zeroValue4
  t5 := Tryz.underlying5
  a5 := Tryz.isAgg5
  z5 := Tryz.sizeOf5
  v5 := Tryz.zeroValue5
  t9 := Tryz.underlying9
  a9 := Tryz.isAgg9
  z9 := Tryz.sizeOf9
  v9 := Tryz.zeroValue9
  t46 := Tryz.underlying168
  a46 := Tryz.isAgg168
  z46 := Tryz.sizeOf168
  v46 := Tryz.zeroValue168
  t51 := Tryz.underlying187
  a51 := Tryz.isAgg187
  z51 := Tryz.sizeOf187
  v51 := Tryz.zeroValue187
  t59 := Tryz.underlying61
  a59 := Tryz.isAgg61
  z59 := Tryz.sizeOf61
  v59 := Tryz.zeroValue61
  t146 := Tryz.underlying188
  a146 := Tryz.isAgg188
  z146 := Tryz.sizeOf188
  v146 := Tryz.zeroValue188
  g1 := by kernel_rfl
  i3 := by kernel_rfl
  i4 := by kernel_rfl
  i5 := by kernel_rfl
  i9 := by kernel_rfl
  i46 := by kernel_rfl
  i51 := by kernel_rfl
  i59 := by kernel_rfl
  i146 := by kernel_rfl
  m1 := by kernel_rfl
  s1_3 := fun w h => Go.Proofs.cell_of_shapedOpen_int (zero := #[.int .i64 0]) (t := 3) h (of_decide_eq_true (by kernel_rfl)) (by kernel_rfl) rfl (by kernel_rfl) (by kernel_rfl) Tryz.underlying3 }
def laysM146_ren : Go.Shelf.Ren := ⟨fun | 146 => 47 | 221 => 80 | 268 => 123 | 138 => 124 | 143 => 125 | 195 => 149 | 197 => 150 | 218 => 151 | 219 => 79 | 260 => 176 | 217 => 119 | 225 => 120 | 224 => 121 | 267 => 122 | 266 => 147 | 314 => 148 | n => n, fun | 9 => 9 | 31 => 27 | 3 => 3 | 4 => 4 | 0 => 0 | 105 => 191 | 21 => 21 | 5 => 5 | 46 => 168 | 119 => 246 | 139 => 249 | 138 => 248 | 146 => 188 | 51 => 187 | n => n, fun | 1 => 0 | 3 => 3 | 4 => 4 | n => n⟩
theorem laysM146 : Go.Proofs.LaysM.n146 Tryz.prog laysM146_ren := {
  mixed := by kernel_rfl
  f138 := Tryz.func124.trans (congrArg some (by kernel_rfl))
  f143 := Tryz.func125.trans (congrArg some (by kernel_rfl))
  f146 := Tryz.func47.trans (congrArg some (by kernel_rfl))
  f195 := Tryz.func149.trans (congrArg some (by kernel_rfl))
  f197 := Tryz.func150.trans (congrArg some (by kernel_rfl))
  f217 := Tryz.func119.trans (congrArg some (by kernel_rfl))
  f218 := Tryz.func151.trans (congrArg some (by kernel_rfl))
  f219 := Tryz.func79.trans (congrArg some (by kernel_rfl))
  f221 := Tryz.func80.trans (congrArg some (by kernel_rfl))
  f224 := Tryz.func121.trans (congrArg some (by kernel_rfl))
  f225 := Tryz.func120.trans (congrArg some (by kernel_rfl))
  f260 := Tryz.func176.trans (congrArg some (by kernel_rfl))
  f266 := Tryz.func147.trans (congrArg some (by kernel_rfl))
  f267 := Tryz.func122.trans (congrArg some (by kernel_rfl))
  f268 := Tryz.func123.trans (congrArg some (by kernel_rfl))
  f314 := Tryz.func148.trans (congrArg some (by kernel_rfl))
  t0 := Tryz.underlying0
  a0 := Tryz.isAgg0
  z0 := Tryz.sizeOf0
  v0 := Tryz.zeroValue0
  t3 := Tryz.underlying3
  a3 := Tryz.isAgg3
  z3 := Tryz.sizeOf3
  v3 := Tryz.zeroValue3
  t4 := Tryz.underlying4
  a4 := Tryz.isAgg4
  z4 := Tryz.sizeOf4
  v4 := Tryz.zeroValue4
  t5 := Tryz.underlying5
  a5 := Tryz.isAgg5
  z5 := Tryz.sizeOf5
  v5 := Tryz.zeroValue5
  t9 := Tryz.underlying9
  a9 := Tryz.isAgg9
  z9 := Tryz.sizeOf9
  v9 := Tryz.zeroValue9
  t21 := Tryz.underlying21
  a21 := Tryz.isAgg21
  z21 := Tryz.sizeOf21
  v21 := Tryz.zeroValue21
  t31 := Tryz.underlying27
  a31 := Tryz.isAgg27
  z31 := Tryz.sizeOf27
  v31 := Tryz.zeroValue27
  t46 := Tryz.underlying168
  a46 := Tryz.isAgg168
  z46 := Tryz.sizeOf168
  v46 := Tryz.zeroValue168
  t51 := Tryz.underlying187
  a51 := Tryz.isAgg187
  z51 := Tryz.sizeOf187
  v51 := Tryz.zeroValue187
  t105 := Tryz.underlying191
  a105 := Tryz.isAgg191
  z105 := Tryz.sizeOf191
  v105 := Tryz.zeroValue191
  t119 := Tryz.underlying246
  a119 := Tryz.isAgg246
  z119 := Tryz.sizeOf246
  t138 := Tryz.underlying248
  a138 := Tryz.isAgg248
  z138 := Tryz.sizeOf248
  v138 := Tryz.zeroValue248
  t139 := Tryz.underlying249
  a139 := Tryz.isAgg249
  z139 := Tryz.sizeOf249
  v139 := Tryz.zeroValue249
  t146 := Tryz.underlying188
  a146 := Tryz.isAgg188
  z146 := Tryz.sizeOf188
  v146 := Tryz.zeroValue188
  g1 := by kernel_rfl
  g3 := by kernel_rfl
  g4 := by kernel_rfl
  i0 := by kernel_rfl
  i3 := by kernel_rfl
  i4 := by kernel_rfl
  i5 := by kernel_rfl
  i9 := by kernel_rfl
  i21 := by kernel_rfl
  i31 := by kernel_rfl
  i46 := by kernel_rfl
  i51 := by kernel_rfl
  i105 := by kernel_rfl
  i138 := by kernel_rfl
  i139 := by kernel_rfl
  i146 := by kernel_rfl
  m1 := by kernel_rfl
  s1_3 := fun w h => Go.Proofs.cell_of_shapedOpen_int (zero := #[.int .i64 0]) (t := 3) h (of_decide_eq_true (by kernel_rfl)) (by kernel_rfl) rfl (by kernel_rfl) (by kernel_rfl) Tryz.underlying3
  m3 := by kernel_rfl
  m4 := by kernel_rfl }
end Go.Proofs.YtofpjlhoppofdaaGreatDoor
namespace Go.Proofs.YtofpjlhoppofdaaGreatDoor
open Go.RowKit Go.Sort
set_option linter.unusedVariables false
def sBlind : ByteArray := ⟨#[98, 108, 105, 110, 100]⟩
def sDrift : ByteArray := ⟨#[100, 114, 105, 102, 116]⟩
def sIds : ByteArray := ⟨#[105, 100, 115]⟩
def sMove : ByteArray := ⟨#[109, 111, 118, 101]⟩
def sReset : ByteArray := ⟨#[114, 101, 115, 101, 116]⟩
def sSee : ByteArray := ⟨#[115, 101, 101]⟩
def sState : ByteArray := ⟨#[115, 116, 97, 116, 101]⟩
def fnV (f : Nat) : Value := .func (.func f) #[] #[]
def fwO : Obj := .cells #[.string sBlind, fnV 24, fnV 25, .string sDrift, fnV 26, fnV 27, .string sIds, fnV 28, fnV 29, .string sMove, fnV 26, fnV 30, .string sReset, fnV 24, fnV 31, .string sSee, fnV 28, fnV 32, .string sState, fnV 24, fnV 33] 40
set_option maxHeartbeats 2000000 in
set_option maxRecDepth 100000 in
theorem firstWords_any (w : World) : Calls Tryz.prog 15 #[] w fun e w' => e = .returned (.slice (some ⟨w.heap.size, 0, none⟩) 7 7) ∧ w' = w.alloc fwO := by
  go_enter Tryz.func15, Tryz.ntmps15
  go_wp2
  go_ret
  exact ⟨rfl, rfl⟩
theorem own_keptD {w w' : World} {B n m : Nat} {t : TypeId} {v : Value} {xs : List Value} (h : w.ownsRow B t m v n xs) (hB : Below w.heap.size w w') : w'.ownsRow B t m v n xs := by
  obtain ⟨h1, h2⟩ := h
  refine ⟨h1, ?_⟩
  rcases h2 with h2 | ⟨g, c', cur, e, hg, hh, r⟩
  · exact .inl h2
  · exact .inr ⟨g, c', cur, e, hg, by rw [hB.block g (Array.getElem?_eq_some_iff.1 hh).1]; exact hh, r⟩
def fwL : List Value := [.string sBlind, fnV 24, fnV 25, .string sDrift, fnV 26, fnV 27, .string sIds, fnV 28, fnV 29, .string sMove, fnV 26, fnV 30, .string sReset, fnV 24, fnV 31, .string sSee, fnV 28, fnV 32, .string sState, fnV 24, fnV 33]
def fwF (j : Nat) : Value := fwL.getD j (.string ⟨#[]⟩)
theorem own_lowD {w : World} {B B' n m : Nat} {t : TypeId} {v : Value} {xs : List Value} (h : w.ownsRow B t m v n xs) (hb : B' ≤ B) : w.ownsRow B' t m v n xs := by
  obtain ⟨h1, h2⟩ := h
  refine ⟨h1, ?_⟩
  rcases h2 with h2 | ⟨g, c', cur, e, hg, r⟩
  · exact .inl h2
  · exact .inr ⟨g, c', cur, e, by omega, r⟩
theorem fwRow (w : World) : RowV (w.alloc fwO) 40 w.heap.size 21 fwF := by
  refine ⟨fwL.toArray, heap_alloc_new w fwO, fun j hj => ?_⟩
  unfold fwF
  rw [List.getElem?_toArray, List.getD_eq_getElem?_getD, List.getElem?_eq_getElem (show j < fwL.length from hj)]
  rfl
end Go.Proofs.YtofpjlhoppofdaaGreatDoor
