/- Several texts in one: TsD, PartT, TurnS, LooseT, TShelf, TurnT, TurnR, StrS, DkA. -/
import Derived.Laws.RangeString
import Derived.Laws.RangeAny
import Derived.Lib.OthersKept
import Derived.Shelf.Strings.Builder1
import Derived.Shelf.Strings.Builder2
import Derived.Shelf.Strings.OnBuilder
import Derived.Shelf.Strconv.Itoa0
import Derived.Shelf.Strconv.Itoa1
import Derived.Shelf.LaysM
import Derived.Shelf.Strconv.Itoa2
import Derived.Shelf.Strconv.Itoa3
import Derived.Shelf.Strconv.Itoa4
import Derived.Shelf.Strings.Search1
import Derived.Shelf.Strings.Search2
import Derived.Shelf.Strings.Search3
import Derived.Shelf.Strings.Cut
import Derived.Shelf.Strings.Count
import Derived.Shelf.Strings.Shaped
import Derived.Shelf.Strings.Split
import Derived.Shelf.Strings.SplitShaped
import Derived.Shelf.Unicode.Decode
import Derived.Shelf.Strings.RuneCount
import Derived.Shelf.Strings.Explode
import Derived.Shelf.Unicode.DecodeSlow
import Derived.Test.YtlleafjdgblhcaaGreatDoorChecked
import Derived.Lib.SmallJoins
import Derived.Lib.AppendIntMem
import Derived.Deep.RegionWith
import Derived.Lib.QuietBelow
import Derived.Deep.QuietTactic
import Derived.BigQuiet
import Derived.Laws.AppendOwn
import Derived.Laws.EntriesVeiled
import Derived.Test.YtlleafjdgblhcaaGreatDoorQDeskRunOwn10
import Derived.Test.YtlleafjdgblhcaaGreatDoorQDeskRunOwn22
import Derived.Test.YtlleafjdgblhcaaGreatDoorQDeskRunOwn6
import Derived.Test.YtlleafjdgblhcaaGreatDoorQDeskRunOwn4
import Derived.Test.YtlleafjdgblhcaaGreatDoorQDeskRunOwn3
import Derived.Test.YtlleafjdgblhcaaGreatDoorQDeskRunOwn5
import Derived.Test.YtlleafjdgblhcaaGreatDoorQDeskRunOwn7
import Derived.Test.YtlleafjdgblhcaaGreatDoorQDeskRunOwn8
namespace Go.Proofs.YtlleafjdgblhcaaGreatDoor
set_option linter.unusedVariables false
set_option linter.unusedSimpArgs false
set_option maxRecDepth 100000
set_option maxHeartbeats 8000000
section
open Go.RowKit Go.Sort
def tA (L : List T4) (i : Nat) : T4 := L.getD i (0, 0, 0, 0)
theorem Bs : ∀ (S : List T4) (k : Nat) (b : T4), S[k]? = some b → ∀ j u, (rT b)[j]? = some u → (dC S)[k * 4 + j]? = some u := by
 intro S
 induction S with
 | nil => intro k b h; simp at h
 | cons x S ih =>
  intro k b h j u hu
  have e : dC (x :: S) = rT x ++ dC S := by unfold dC; simp
  have hj : j < 4 := (List.getElem?_eq_some_iff.1 hu).1
  rw [e]
  cases k with
  | zero =>
   simp at h
   subst h
   rw [List.getElem?_append_left (by show _ < 4; omega)]
   simpa using hu
  | succ k =>
   rw [List.getElem?_append_right (by show 4 ≤ _; omega)]
   rw [show (k + 1) * 4 + j - (rT x).length = k * 4 + j by show _ - 4 = _; omega]
   exact ih k b (by simpa using h) j u hu
def jU (w : World) (g : Nat) (L : List T4) : Prop := g < w.heap.size ∧ ∀ k, k < L.length → w.cell? ⟨g, k * 4, none⟩ = some (.int .i64 (tA L k).1) ∧ w.cell? ⟨g, k * 4 + 1, none⟩ = some (.int .i64 (tA L k).2.1) ∧ w.cell? ⟨g, k * 4 + 2, none⟩ = some (.int .i64 (tA L k).2.2.1) ∧ w.cell? ⟨g, k * 4 + 3, none⟩ = some (.int .i64 (tA L k).2.2.2)
theorem jU.kept {w w' : World} {g : Nat} {L : List T4} (h : jU w g L) (hB : Below w.heap.size w w') : jU w' g L := by
 refine ⟨Nat.lt_of_lt_of_le h.1 hB.size, fun k hk => ?_⟩
 obtain ⟨h0, h1, h2, h3⟩ := h.2 k hk
 exact ⟨by rw [hB.cell (p := ⟨g, k * 4, none⟩) h.1]; exact h0, by rw [hB.cell (p := ⟨g, k * 4 + 1, none⟩) h.1]; exact h1, by rw [hB.cell (p := ⟨g, k * 4 + 2, none⟩) h.1]; exact h2, by rw [hB.cell (p := ⟨g, k * 4 + 3, none⟩) h.1]; exact h3⟩
theorem sj {w : World} {B : Nat} {v : Value} {L : List T4} (h : w.ownsRow B 32 4 v L.length (dC L)) (h0 : 0 < L.length) : ∃ g c, v = .slice (some ⟨g, 0, none⟩) L.length c ∧ B ≤ g ∧ jU w g L := by
 rcases h.2 with ⟨h1, h0'⟩ | ⟨g, cap, cur, hv, hb, hg, hnc, hcm, hcs, htake⟩
 ·omega
 ·refine ⟨g, cap, hv, hb, (Array.getElem?_eq_some_iff.1 hg).1, fun k hk => ?_⟩
  have hk' : L[k]? = some (tA L k) := by unfold tA; rw [List.getD, List.getElem?_eq_getElem hk]; rfl
  have cl : ∀ j u, (rT (tA L k))[j]? = some u → w.cell? ⟨g, k * 4 + j, none⟩ = some u := by
   intro j u hu
   have hj : j < 4 := (List.getElem?_eq_some_iff.1 hu).1
   have e := Bs L k _ hk' j u hu
   rw [cell_of_row w g _ cur _ _ hg]
   rw [← htake, List.getElem?_take, if_pos (by omega)] at e
   simpa using e
  exact ⟨cl 0 _ rfl, cl 1 _ rfl, cl 2 _ rfl, cl 3 _ rfl⟩
end
section
open Go.RowKit
theorem Bn (x : Nat) (h1 : 48 ≤ x) (h2 : x ≤ 57) : IntKind.u8.wrap ((x : Int) - 48) = (x : Int) - 48 := by
 simp only [IntKind.wrap, IntKind.signed, IntKind.bits]
 simp
 omega
theorem pH (S : ByteArray) (w : World) (h1 : S.size ≠ 1) (h2 : S.size ≠ 2) :
  Calls Tryz.prog 59 #[.string S] w fun e w' => e = .returned (.int .i64 9) ∧ w' = w := by
 have e1 : ((S.size : Int) == 1) = false := by simp; omega
 have e2 : ((S.size : Int) == 2) = false := by simp; omega
 go_enter Tryz.func59, Tryz.ntmps59
 go_wp2_with fail
 go_ret
 exact ⟨rfl, rfl⟩
theorem BV (S : ByteArray) (w : World) (n : Nat) (h1 : S.size = 1) (hn : (S[0]'(by omega)).toNat = n) :
  Calls Tryz.prog 59 #[.string S] w fun e w' => e = .returned (.int .i64 (if 48 ≤ n ∧ n ≤ 57 then (n : Int) - 48 else 9)) ∧ w' = w := by
 by_cases c1 : 48 ≤ n
 ·by_cases c2 : n ≤ 57
  ·rw [if_pos ⟨c1, c2⟩]
   have hw := Bn n c1 c2
   have hw2 : wrap64 ((n : Int) - 48) = (n : Int) - 48 := aq (by omega) (by omega)
   have d1 : (48 : Int) ≤ (n : Int) := by omega
   have d2 : (n : Int) ≤ 57 := by omega
   go_enter Tryz.func59, Tryz.ntmps59
   go_wp2_with fail
   go_ret
   exact ⟨rfl, rfl⟩
  ·rw [if_neg (by omega)]
   have d1 : (48 : Int) ≤ (n : Int) := by omega
   have d2 : ¬ (n : Int) ≤ 57 := by omega
   go_enter Tryz.func59, Tryz.ntmps59
   go_wp2_with fail
   go_ret
   exact ⟨rfl, rfl⟩
 ·rw [if_neg (by omega)]
  have d1 : ¬ (48 : Int) ≤ (n : Int) := by omega
  go_enter Tryz.func59, Tryz.ntmps59
  go_wp2_with fail
  go_ret
  exact ⟨rfl, rfl⟩
theorem BA (S : ByteArray) (w : World) (m n : Nat) (h1 : S.size = 2) (hm : (S[0]'(by omega)).toNat = m) (hn : (S[1]'(by omega)).toNat = n) :
  Calls Tryz.prog 59 #[.string S] w fun e w' => e = .returned (.int .i64 (if m = 45 ∧ 48 ≤ n ∧ n ≤ 57 then -((n : Int) - 48) else 9)) ∧ w' = w := by
 by_cases c0 : m = 45
 ·by_cases c1 : 48 ≤ n
  ·by_cases c2 : n ≤ 57
   ·rw [if_pos ⟨c0, c1, c2⟩]
    have hw := Bn n c1 c2
    have hw2 : wrap64 ((n : Int) - 48) = (n : Int) - 48 := aq (by omega) (by omega)
    have hw3 : wrap64 (-((n : Int) - 48)) = -((n : Int) - 48) := aq (by omega) (by omega)
    have d0 : ((m : Int) == 45) = true := by simp; omega
    have d1 : (48 : Int) ≤ (n : Int) := by omega
    have d2 : (n : Int) ≤ 57 := by omega
    go_enter Tryz.func59, Tryz.ntmps59
    go_wp2_with fail
    go_ret
    exact ⟨rfl, rfl⟩
   ·rw [if_neg (by omega)]
    have d0 : ((m : Int) == 45) = true := by simp; omega
    have d1 : (48 : Int) ≤ (n : Int) := by omega
    have d2 : ¬ (n : Int) ≤ 57 := by omega
    go_enter Tryz.func59, Tryz.ntmps59
    go_wp2_with fail
    go_ret
    exact ⟨rfl, rfl⟩
  ·rw [if_neg (by omega)]
   have d0 : ((m : Int) == 45) = true := by simp; omega
   have d1 : ¬ (48 : Int) ≤ (n : Int) := by omega
   go_enter Tryz.func59, Tryz.ntmps59
   go_wp2_with fail
   go_ret
   exact ⟨rfl, rfl⟩
 ·rw [if_neg (by omega)]
  have d0 : ((m : Int) == 45) = false := by simp; omega
  go_enter Tryz.func59, Tryz.ntmps59
  go_wp2_with fail
  go_ret
  exact ⟨rfl, rfl⟩
theorem iF (l : List UInt8) (w : World) :
  Calls Tryz.prog 59 #[ij l] w fun e w' => e = .returned (.int .i64 (cj l)) ∧ w' = w := by
 match l with
 | [] => exact pH ⟨#[]⟩ w (by decide) (by decide)
 | [x] => exact BV ⟨#[x]⟩ w x.toNat rfl rfl
 | [x, y] => exact BA ⟨#[x, y]⟩ w x.toNat y.toNat rfl rfl rfl
 | x :: y :: z :: r =>
  have hs : (⟨(x :: y :: z :: r).toArray⟩ : ByteArray).size = r.length + 3 := by show (x :: y :: z :: r).toArray.size = _; simp
  exact pH ⟨(x :: y :: z :: r).toArray⟩ w (by omega) (by omega)
end
section
open Go.RowKit Go.Sort
theorem vT (w : World) (k : UInt8) : (convert 41 9 (.slice (some ⟨w.heap.size, 0, none⟩) 1 1)).run Tryz.prog (w.alloc (.cells #[.int .u8 (k.toNat : Int)] 5)) = .ok (.string ⟨#[k]⟩) (w.alloc (.cells #[.int .u8 (k.toNat : Int)] 5)) :=
 kA w 5 #[.int .u8 (k.toNat : Int)] ⟨#[k]⟩ (by simp [Lib.byteCells]) 1
theorem BK (w : World) :
  Calls Tryz.prog 25 #[.int .i64 0] w fun e w' => e = .returned (.string ⟨#[48]⟩) ∧ Below w.heap.size w w' := by
 go_enter Tryz.func25, Tryz.ntmps25
 go_wp2_with fail
 go_ret
 exact ⟨rfl, Below.refl _ _⟩
theorem BQ (w : World) :
  Calls Tryz.prog 25 #[.int .i64 1] w fun e w' => e = .returned (.string ⟨#[49]⟩) ∧ Below w.heap.size w w' := by
 go_enter Tryz.func25, Tryz.ntmps25
 go_wp2_with fail
 go_loopw [0, 4] (fun u s wr => (u = .int .i64 1 ∧ s = .string ⟨#[]⟩ ∧ wr = w) ∨ (u = .int .i64 0 ∧ s = .string ⟨#[49]⟩ ∧ Hid (Below w.heap.size w wr))) (fun u _ _ => (intOf u).toNat)
 case atStart => exact .inl ⟨rfl, rfl, rfl⟩
 case round =>
  rcases hrel with ⟨rfl, rfl, rfl⟩ | ⟨rfl, rfl, HB⟩
  ·have hcv : (convert 41 9 (.slice (some ⟨wr.heap.size, 0, none⟩) 1 1)).run Tryz.prog (wr.alloc (.cells #[.int .u8 49] 5)) = .ok (.string ⟨#[49]⟩) (wr.alloc (.cells #[.int .u8 49] 5)) := vT wr 49
   go_wp2
   go_roundw
   case rel => exact .inr ⟨rfl, rfl, yz (an _ _)⟩
   case measure => simp [intOf]
  ·go_wp2
   go_ret
   exact ⟨rfl, yy HB⟩
theorem Cu (w : World) :
  Calls Tryz.prog 25 #[.int .i64 2] w fun e w' => e = .returned (.string ⟨#[50]⟩) ∧ Below w.heap.size w w' := by
 go_enter Tryz.func25, Tryz.ntmps25
 go_wp2_with fail
 go_loopw [0, 4] (fun u s wr => (u = .int .i64 2 ∧ s = .string ⟨#[]⟩ ∧ wr = w) ∨ (u = .int .i64 0 ∧ s = .string ⟨#[50]⟩ ∧ Hid (Below w.heap.size w wr))) (fun u _ _ => (intOf u).toNat)
 case atStart => exact .inl ⟨rfl, rfl, rfl⟩
 case round =>
  rcases hrel with ⟨rfl, rfl, rfl⟩ | ⟨rfl, rfl, HB⟩
  ·have hcv : (convert 41 9 (.slice (some ⟨wr.heap.size, 0, none⟩) 1 1)).run Tryz.prog (wr.alloc (.cells #[.int .u8 50] 5)) = .ok (.string ⟨#[50]⟩) (wr.alloc (.cells #[.int .u8 50] 5)) := vT wr 50
   go_wp2
   go_roundw
   case rel => exact .inr ⟨rfl, rfl, yz (an _ _)⟩
   case measure => simp [intOf]
  ·go_wp2
   go_ret
   exact ⟨rfl, yy HB⟩
theorem Cn (w : World) :
  Calls Tryz.prog 25 #[.int .i64 3] w fun e w' => e = .returned (.string ⟨#[51]⟩) ∧ Below w.heap.size w w' := by
 go_enter Tryz.func25, Tryz.ntmps25
 go_wp2_with fail
 go_loopw [0, 4] (fun u s wr => (u = .int .i64 3 ∧ s = .string ⟨#[]⟩ ∧ wr = w) ∨ (u = .int .i64 0 ∧ s = .string ⟨#[51]⟩ ∧ Hid (Below w.heap.size w wr))) (fun u _ _ => (intOf u).toNat)
 case atStart => exact .inl ⟨rfl, rfl, rfl⟩
 case round =>
  rcases hrel with ⟨rfl, rfl, rfl⟩ | ⟨rfl, rfl, HB⟩
  ·have hcv : (convert 41 9 (.slice (some ⟨wr.heap.size, 0, none⟩) 1 1)).run Tryz.prog (wr.alloc (.cells #[.int .u8 51] 5)) = .ok (.string ⟨#[51]⟩) (wr.alloc (.cells #[.int .u8 51] 5)) := vT wr 51
   go_wp2
   go_roundw
   case rel => exact .inr ⟨rfl, rfl, yz (an _ _)⟩
   case measure => simp [intOf]
  ·go_wp2
   go_ret
   exact ⟨rfl, yy HB⟩
theorem AL (w : World) :
  Calls Tryz.prog 25 #[.int .i64 4] w fun e w' => e = .returned (.string ⟨#[52]⟩) ∧ Below w.heap.size w w' := by
 go_enter Tryz.func25, Tryz.ntmps25
 go_wp2_with fail
 go_loopw [0, 4] (fun u s wr => (u = .int .i64 4 ∧ s = .string ⟨#[]⟩ ∧ wr = w) ∨ (u = .int .i64 0 ∧ s = .string ⟨#[52]⟩ ∧ Hid (Below w.heap.size w wr))) (fun u _ _ => (intOf u).toNat)
 case atStart => exact .inl ⟨rfl, rfl, rfl⟩
 case round =>
  rcases hrel with ⟨rfl, rfl, rfl⟩ | ⟨rfl, rfl, HB⟩
  ·have hcv : (convert 41 9 (.slice (some ⟨wr.heap.size, 0, none⟩) 1 1)).run Tryz.prog (wr.alloc (.cells #[.int .u8 52] 5)) = .ok (.string ⟨#[52]⟩) (wr.alloc (.cells #[.int .u8 52] 5)) := vT wr 52
   go_wp2
   go_roundw
   case rel => exact .inr ⟨rfl, rfl, yz (an _ _)⟩
   case measure => simp [intOf]
  ·go_wp2
   go_ret
   exact ⟨rfl, yy HB⟩
theorem BE (w : World) :
  Calls Tryz.prog 25 #[.int .i64 5] w fun e w' => e = .returned (.string ⟨#[53]⟩) ∧ Below w.heap.size w w' := by
 go_enter Tryz.func25, Tryz.ntmps25
 go_wp2_with fail
 go_loopw [0, 4] (fun u s wr => (u = .int .i64 5 ∧ s = .string ⟨#[]⟩ ∧ wr = w) ∨ (u = .int .i64 0 ∧ s = .string ⟨#[53]⟩ ∧ Hid (Below w.heap.size w wr))) (fun u _ _ => (intOf u).toNat)
 case atStart => exact .inl ⟨rfl, rfl, rfl⟩
 case round =>
  rcases hrel with ⟨rfl, rfl, rfl⟩ | ⟨rfl, rfl, HB⟩
  ·have hcv : (convert 41 9 (.slice (some ⟨wr.heap.size, 0, none⟩) 1 1)).run Tryz.prog (wr.alloc (.cells #[.int .u8 53] 5)) = .ok (.string ⟨#[53]⟩) (wr.alloc (.cells #[.int .u8 53] 5)) := vT wr 53
   go_wp2
   go_roundw
   case rel => exact .inr ⟨rfl, rfl, yz (an _ _)⟩
   case measure => simp [intOf]
  ·go_wp2
   go_ret
   exact ⟨rfl, yy HB⟩
theorem oU (n : Int) (w : World) (h0 : 0 ≤ n) (h5 : n ≤ 5) :
  Calls Tryz.prog 25 #[.int .i64 n] w fun e w' => e = .returned (.string ⟨#[d8 n]⟩) ∧ Below w.heap.size w w' := by
 have h : n = 0 ∨ n = 1 ∨ n = 2 ∨ n = 3 ∨ n = 4 ∨ n = 5 := by omega
 rcases h with rfl | rfl | rfl | rfl | rfl | rfl
 ·exact BK w
 ·exact BQ w
 ·exact Cu w
 ·exact Cn w
 ·exact AL w
 ·exact BE w
theorem jk (n : Int) (w : World) (h : -5 ≤ n ∧ n ≤ 5) :
  Calls Tryz.prog 49 #[.int .i64 n] w fun e w' => e = .returned (.string ⟨(dig n).toArray⟩) ∧ Below w.heap.size w w' := by
 by_cases hn : n < 0
 ·have hw : wrap64 (-n) = -n := aq (by omega) (by omega)
  have HD : Hid ((dig n).toArray = #[45, d8 (-n)]) := yz (by unfold dig; rw [if_pos hn])
  go_enter Tryz.func49, Tryz.ntmps49
  go_wp2_with fail
  refine (oU (-n) _ (by omega) (by omega)).mono ?_
  rintro e w1 ⟨rfl, hx⟩
  go_wp2_with fail
  go_ret
  exact ⟨by rw [yy HD, ← Ch 45 [d8 (-n)]]; rfl, hx⟩
 ·have HD : Hid ((dig n).toArray = #[d8 n]) := yz (by unfold dig; rw [if_neg hn])
  go_enter Tryz.func49, Tryz.ntmps49
  go_wp2_with fail
  refine (oU n _ (by omega) (by omega)).mono ?_
  rintro e w1 ⟨rfl, hx⟩
  go_wp2_with fail
  go_ret
  exact ⟨by rw [yy HD]; rfl, hx⟩
theorem mG (a b c d : Int) (w : World) :
  Calls Tryz.prog 26 #[.agg #[.int .i64 a, .int .i64 b, .int .i64 c, .int .i64 d]] w fun e w' => e = .returned (.string (dc a b c d)) ∧ Below w.heap.size w w' := by
 go_enter Tryz.func26, Tryz.ntmps26
 go_wp2_with fail
 refine (bf a b c d _).mono ?_
 rintro e w1 ⟨rfl, hx⟩
 have va : aJ w1 w.heap.size a b c d := (aH w a b c d _).kept (by simp) hx
 have hB : Below w.heap.size w w1 := ak (an _ _) hx
 clear hx
 cases hr : aA a b c d
 ·have HR := yz (ue hr)
  go_wp2_with fail
  go_ret
  exact ⟨by rw [yy HR]; rfl, hB⟩
 ·have HR := yz (oR hr)
  have HI := yz (bR.1 (aZ.1 hr).1)
  clear hr
  have hva := va
  obtain ⟨c0, c1, c2, c3⟩ := va
  have k0 := cell_regrown c0
  have k1 := cell_regrown c1
  have k2 := cell_regrown c2
  have k3 := cell_regrown c3
  have ca := yz (fun W => jk a W (yy HI).1)
  have cb := yz (fun W => jk b W (yy HI).2.1)
  have cc := yz (fun W => jk c W (yy HI).2.2.1)
  have cd := yz (fun W => jk d W (yy HI).2.2.2)
  have HT : Hid ((((((⟨(dig a).toArray⟩ ++ ⟨#[44]⟩) ++ ⟨(dig b).toArray⟩) ++ ⟨#[44]⟩) ++ ⟨(dig c).toArray⟩) ++ ⟨#[44]⟩) ++ ⟨(dig d).toArray⟩ = (⟨(fc a b c d).toArray⟩ : ByteArray)) := yz (by apply ByteArray.ext; simp [fc])
  have l1 := ip a
  have l2 := ip b
  have l3 := ip c
  have l4 := ip d
  have e1 : (⟨(dig a).toArray⟩ : ByteArray).size = (dig a).length := rfl
  have e2 : (⟨(dig b).toArray⟩ : ByteArray).size = (dig b).length := rfl
  have e3 : (⟨(dig c).toArray⟩ : ByteArray).size = (dig c).length := rfl
  have e4 : (⟨(dig d).toArray⟩ : ByteArray).size = (dig d).length := rfl
  have e5 : (⟨#[44]⟩ : ByteArray).size = 1 := rfl
  generalize (⟨(dig a).toArray⟩ : ByteArray) = sa at *
  generalize (⟨(dig b).toArray⟩ : ByteArray) = sb at *
  generalize (⟨(dig c).toArray⟩ : ByteArray) = sc at *
  generalize (⟨(dig d).toArray⟩ : ByteArray) = sd at *
  have hk : sa.size ≤ 2 ∧ sb.size ≤ 2 ∧ sc.size ≤ 2 ∧ sd.size ≤ 2 := by omega
  clear l1 l2 l3 l4 e1 e2 e3 e4
  have z1 : ¬ 9223372036854775807 < sa.size + 1 := by omega
  have z2 : ¬ 9223372036854775807 < sa.size + 1 + sb.size := by omega
  have z3 : ¬ 9223372036854775807 < sa.size + 1 + sb.size + 1 := by omega
  have z4 : ¬ 9223372036854775807 < sa.size + 1 + sb.size + 1 + sc.size := by omega
  have z5 : ¬ 9223372036854775807 < sa.size + 1 + sb.size + 1 + sc.size + 1 := by omega
  have z6 : ¬ 9223372036854775807 < sa.size + 1 + sb.size + 1 + sc.size + 1 + sd.size := by omega
  have HU : Hid (dc a b c d = sa ++ (⟨#[44]⟩ : ByteArray) ++ sb ++ (⟨#[44]⟩ : ByteArray) ++ sc ++ (⟨#[44]⟩ : ByteArray) ++ sd) := yz (by rw [yy HR, ← yy HT])
  clear hk e5 HT HR
  go_wp2_with fail
  refine wp_region_quiet_below (by kernel_rfl) (by kernel_rfl) ?_
  repeat (quiet_step (first | (with_reducible exact Calls.regrown_of (yy ca _)) | (with_reducible exact Calls.regrown_of (yy cb _)) | (with_reducible exact Calls.regrown_of (yy cc _)) | (with_reducible exact Calls.regrown_of (yy cd _))))
  refine wpQuiet_nil ?_
  intro _ hw'
  obtain ⟨⟨dq, osq⟩, hw''⟩ := hw'
  subst hw''
  clear c0 c1 c2 c3 k0 k1 k2 k3 ca cb cc cd z1 z2 z3 z4 z5 z6
  go_wp2
  go_ret
  exact ⟨by rw [yy HU]; rfl, ak hB (below_regrown w1 dq osq)⟩
end
section
open Go.RowKit
theorem aJ.block {w w' : World} {b : Nat} {p q r s : Int} (h : aJ w b p q r s) (e : w'.heap[b]? = w.heap[b]?) : aJ w' b p q r s := by
 obtain ⟨h0, h1, h2, h3⟩ := h
 exact ⟨by rw [World.cell?_of_block (a := ⟨b, 0, none⟩) e]; exact h0, by rw [World.cell?_of_block (a := ⟨b, 1, none⟩) e]; exact h1, by rw [World.cell?_of_block (a := ⟨b, 2, none⟩) e]; exact h2, by rw [World.cell?_of_block (a := ⟨b, 3, none⟩) e]; exact h3⟩
theorem eP.block {w w' : World} {b : Nat} (h : eP w b) (e : w'.heap[b]? = w.heap[b]?) : eP w' b := by
 obtain ⟨h0, h1, h2, h3⟩ := h
 exact ⟨by rw [World.frozen?_of_block (a := ⟨b, 0, none⟩) e]; exact h0, by rw [World.frozen?_of_block (a := ⟨b, 1, none⟩) e]; exact h1, by rw [World.frozen?_of_block (a := ⟨b, 2, none⟩) e]; exact h2, by rw [World.frozen?_of_block (a := ⟨b, 3, none⟩) e]; exact h3⟩
def nk (w wr : World) (s : ByteArray) (br bp bi : Nat) (t : LSt) (pos : Nat) : Prop :=
 aJ wr bp t.a t.b t.c t.d ∧ eP wr bp ∧ aJ wr br 0 0 0 0 ∧ eP wr br ∧ wr.heap[bi]? = some (.stringIter s pos) ∧ Below w.heap.size w wr
theorem nk.next {w wr : World} {s : ByteArray} {br bp bi : Nat} {t : LSt} {pos : Nat} (h : nk w wr s br bp bi t pos) (h1 : bp ≠ bi) (h2 : br ≠ bi) (h3 : w.heap.size ≤ bi) (p : Nat) : nk w (wr.iterAt bi s p) s br bp bi t p := by
 obtain ⟨i1, i2, i3, i4, i5, i6⟩ := h
 exact ⟨i1.block (Lib.iterAt_other _ _ _ _ _ h1), i2.block (Lib.iterAt_other _ _ _ _ _ h1), i3.block (Lib.iterAt_other _ _ _ _ _ h2), i4.block (Lib.iterAt_other _ _ _ _ _ h2), Lib.iterAt_heap _ _ _ _ _ i5, Lib.below_iterAt i6 h3 _ _⟩
theorem nk.cell {w wr : World} {s : ByteArray} {br bp bi : Nat} {t : LSt} {pos : Nat} (h : nk w wr s br bp bi t pos) (hp : t.pl ≤ 3) : wr.cell? ⟨bp, t.pl, none⟩ = some (.int .i64 t.part) ∧ wr.frozen? ⟨bp, t.pl, none⟩ = false := by
 obtain ⟨⟨c0, c1, c2, c3⟩, ⟨f0, f1, f2, f3⟩, _⟩ := h
 unfold LSt.part
 rcases (show t.pl = 0 ∨ t.pl = 1 ∨ t.pl = 2 ∨ t.pl = 3 by omega) with e | e | e | e <;> rw [e]
 ·exact ⟨c0, f0⟩
 ·exact ⟨c1, f1⟩
 ·exact ⟨c2, f2⟩
 ·exact ⟨c3, f3⟩
theorem nk.put {w wr : World} {s : ByteArray} {br bp bi : Nat} {t : LSt} {pos : Nat} (h : nk w wr s br bp bi t pos) (hp : t.pl ≤ 3) (h1 : br ≠ bp) (h2 : bi ≠ bp) (h3 : w.heap.size ≤ bp) (v : Int) : nk w (wr.setCell ⟨bp, t.pl, none⟩ (.int .i64 v)) s br bp bi (t.put v) pos := by
 obtain ⟨⟨c0, c1, c2, c3⟩, ⟨f0, f1, f2, f3⟩, i3, i4, i5, i6⟩ := h
 refine ⟨?_, ?_, i3.block (Below.heap_setCell _ _ _ _ h1), i4.block (Below.heap_setCell _ _ _ _ h1), (Below.heap_setCell _ _ _ _ h2).trans i5, i6.setCell h3 _⟩
 ·unfold LSt.put
  rcases (show t.pl = 0 ∨ t.pl = 1 ∨ t.pl = 2 ∨ t.pl = 3 by omega) with e | e | e | e <;> rw [e] <;> (refine ⟨?_, ?_, ?_, ?_⟩ <;> simp [go_sem, c0, c1, c2, c3])
 ·refine ⟨?_, ?_, ?_, ?_⟩ <;> simp [go_sem, f0, f1, f2, f3]
theorem Ec (t : LSt) (v : Int) : (t.put v).pl = t.pl ∧ (t.put v).sg = t.sg := by
 unfold LSt.put
 split
 ·exact ⟨rfl, rfl⟩
 ·split
  ·exact ⟨rfl, rfl⟩
  ·split <;> exact ⟨rfl, rfl⟩
theorem wE (t : LSt) (v : Int) : (t.put v).part = v := by
 unfold LSt.put LSt.part
 by_cases h0 : t.pl = 0
 ·simp [h0]
 ·by_cases h1 : t.pl = 1
  ·simp [h1]
  ·by_cases h2 : t.pl = 2
   ·simp [h2]
   ·simp [h0, h1, h2]
theorem Dq {t : LSt} {v : Int} (h : okS t) (hv : -5 ≤ v ∧ v ≤ 5) : okS (t.put v) := by
 obtain ⟨h0, h1, h2, h3, h4, h5⟩ := h
 unfold LSt.put
 split
 ·exact ⟨h0, h1, hv, h3, h4, h5⟩
 ·split
  ·exact ⟨h0, h1, h2, hv, h4, h5⟩
  ·split
   ·exact ⟨h0, h1, h2, h3, hv, h5⟩
   ·exact ⟨h0, h1, h2, h3, h4, hv⟩
theorem xe {s : ByteArray} {pos : Nat} {t u : LSt} (h : en s pos = some t) (hp : pos < s.size) (hs : eQ t s[pos].toNat = some u) : en s (pos + 1) = some u := by
 show (en s pos).bind _ = _
 rw [h, kq hp]
 exact hs
theorem xF {s : ByteArray} {pos : Nat} {t : LSt} (h : en s pos = some t) (hp : pos < s.size) (hs : eQ t s[pos].toNat = none) : aE s = ⟨0, 0, 0, 0, 0, 0⟩ := by
 have : en s (pos + 1) = none := by
  show (en s pos).bind _ = _
  rw [h, kq hp]
  exact hs
 unfold aE
 rw [uR this (by omega)]
 rfl
theorem xK {t : LSt} (h : okS t) (hp : t.pl < 3) : eQ t 44 = some { t with pl := t.pl + 1, sg := 1 } ∧ okS { t with pl := t.pl + 1, sg := 1 } := by
 have ho : okS { t with pl := t.pl + 1, sg := 1 } := by
  obtain ⟨h0, h1, h2⟩ := h
  exact ⟨by show t.pl + 1 ≤ 3; omega, .inl rfl, h2⟩
 refine ⟨?_, ho⟩
 unfold eQ rG
 rw [if_pos ⟨rfl, hp⟩]
 show (if _ then _ else _) = _
 rw [if_pos (iU ho)]
theorem xw {t : LSt} (h : okS t) : eQ t 45 = some { t with sg := -1 } ∧ okS { t with sg := -1 } := by
 have ho : okS { t with sg := -1 } := by
  obtain ⟨h0, h1, h2⟩ := h
  exact ⟨h0, .inr rfl, h2⟩
 refine ⟨?_, ho⟩
 unfold eQ rG
 rw [if_neg (fun e => absurd e.1 (by decide)), if_pos rfl]
 show (if _ then _ else _) = _
 rw [if_pos (iU ho)]
def ig (t : LSt) (x : Nat) : Int := 10 * t.part + t.sg * ((x : Int) - 48)
theorem CF {t : LSt} {x : Nat} (h : okS t) (h1 : 48 ≤ x) (h2 : x ≤ 57) : -59 ≤ ig t x ∧ ig t x ≤ 59 := by
 have hp := iU h
 unfold ig
 rcases h.2.1 with e | e <;> rw [e] <;> omega
theorem xx {t : LSt} {x : Nat} (h : okS t) (h1 : 48 ≤ x) (h2 : x ≤ 57) (hv : -5 ≤ ig t x ∧ ig t x ≤ 5) : eQ t x = some (t.put (ig t x)) ∧ okS (t.put (ig t x)) := by
 refine ⟨?_, Dq h hv⟩
 unfold eQ rG
 rw [if_neg (fun e => by omega), if_neg (by omega), if_pos ⟨h1, h2⟩]
 show (if _ then _ else _) = _
 rw [if_pos (by rw [wE]; exact hv)]
 rfl
theorem AM {t : LSt} {x : Nat} (h1 : 48 ≤ x) (h2 : x ≤ 57) (hv : ¬ (-5 ≤ ig t x ∧ ig t x ≤ 5)) : eQ t x = none := by
 unfold eQ rG
 rw [if_neg (fun e => by omega), if_neg (by omega), if_pos ⟨h1, h2⟩]
 show (if _ then _ else _) = _
 rw [if_neg (by rw [wE]; exact hv)]
theorem sF {t : LSt} {x : Nat} (h1 : ¬ (x = 44 ∧ t.pl < 3)) (h2 : x ≠ 45) (h3 : ¬ (48 ≤ x ∧ x ≤ 57)) : eQ t x = none := by
 unfold eQ rG
 rw [if_neg h1, if_neg h2, if_neg h3]
 rfl
theorem rl (s : ByteArray) (w : World) (hs : s.size ≤ 8000) :
  Calls Tryz.prog 123 #[.string s] w fun e w' => e = .returned (.agg #[.int .i64 (aE s).a, .int .i64 (aE s).b, .int .i64 (aE s).c, .int .i64 (aE s).d]) ∧ Below w.heap.size w w' := by
 go_enter Tryz.func123, Tryz.ntmps123
 go_wp2_with fail
 have H0 : Hid (nk w (((w.alloc (.cells #[.int .i64 0, .int .i64 0, .int .i64 0, .int .i64 0] 32)).alloc (.cells #[.int .i64 0, .int .i64 0, .int .i64 0, .int .i64 0] 186)).iter s 0) s w.heap.size (w.heap.size + 1) (w.heap.size + 1 + 1) st0 0) := yz (by
  refine ⟨?_, ?_, ?_, ?_, ?_, ?_⟩
  ·exact (show aJ _ (w.heap.size + 1) 0 0 0 0 by simpa using aH (w.alloc _) 0 0 0 0 _).alloc _
  ·exact (show eP _ (w.heap.size + 1) by simpa using mT (w.alloc _) 0 0 0 0 _).kept (by simp) (an _ _)
  ·exact ((aH w 0 0 0 0 _).alloc _).alloc _
  ·exact ((mT w 0 0 0 0 _).kept (by simp) (an _ _)).kept (by simp; omega) (an _ _)
  ·have := World.iter_heap ((w.alloc (.cells #[.int .i64 0, .int .i64 0, .int .i64 0, .int .i64 0] 32)).alloc (.cells #[.int .i64 0, .int .i64 0, .int .i64 0, .int .i64 0] 186)) s 0
   simpa using this
  ·exact dW _ _ _ _)
 generalize ((w.alloc (.cells #[.int .i64 0, .int .i64 0, .int .i64 0, .int .i64 0] 32)).alloc (.cells #[.int .i64 0, .int .i64 0, .int .i64 0, .int .i64 0] 186)).iter s 0 = w0 at H0 ⊢
 have g1 : w.heap.size ≠ w.heap.size + 1 := by omega
 have g2 : w.heap.size + 1 ≠ w.heap.size + 1 + 1 := by omega
 have g3 : w.heap.size ≠ w.heap.size + 1 + 1 := by omega
 have g4 : w.heap.size ≤ w.heap.size + 1 := by omega
 have g5 : w.heap.size ≤ w.heap.size + 1 + 1 := by omega
 have g6 : w.heap.size ≤ w.heap.size := Nat.le_refl _
 generalize w.heap.size + 1 + 1 = bi at H0 g2 g3 g5 ⊢
 generalize w.heap.size + 1 = bp at H0 g1 g2 g4 ⊢
 have HG := yz (And.intro g1 (And.intro g2 (And.intro g3 (And.intro g4 g5))))
 clear g1 g2 g3 g4 g5 g6
 go_loopw [4, 5] (fun u v wr => ∃ (t : LSt) (pos : Nat), u = .int .i64 (t.pl : Int) ∧ v = .int .i64 t.sg ∧ Hid (en s pos = some t) ∧ Hid (okS t) ∧ Hid (pos ≤ s.size) ∧ Hid (nk w wr s w.heap.size bp bi t pos)) (fun _ _ wr => s.size - wr.iterPos bi)
 case atStart => exact ⟨st0, 0, rfl, rfl, yz rfl, yz ⟨by decide, .inl rfl, by decide, by decide, by decide, by decide⟩, yz (Nat.zero_le _), H0⟩
 case round =>
  clear H0
  obtain ⟨t, pos, rfl, rfl, HL, HO, HP, HI⟩ := hrel
  have hit : wr.iterPos bi = pos := by have := (yy HI).2.2.2.2.1; simp [World.iterPos, this]
  by_cases hp : pos < s.size
  ·obtain ⟨W1, hW⟩ : ∃ W, wr.iterAt bi s (pos + (Utf8.decode s pos).2) = W := ⟨_, rfl⟩
   have hnx : ∀ ty, (Instr.next (.pointer (some ⟨bi, 0, none⟩)) true ty).run Tryz.prog wr = .ok (.tuple #[.bool true, .int .i64 pos, .int .i32 (Utf8.decode s pos).1]) W1 := fun ty => by rw [← hW]; exact Lib.run_next_any_at wr bi s pos ty (yy HI).2.2.2.2.1 hp
   have HI1 : Hid (nk w W1 s w.heap.size bp bi t (pos + (Utf8.decode s pos).2)) := yz (by rw [← hW]; exact (yy HI).next (yy HG).2.1 (yy HG).2.2.1 (yy HG).2.2.2.2 _)
   have HD : Hid ((s[pos].toNat < 128 ∧ Utf8.decode s pos = (s[pos].toNat, 1)) ∨ (128 ≤ s[pos].toNat ∧ 128 ≤ (Utf8.decode s pos).1)) := yz (by
    by_cases h : s[pos].toNat < 128
    ·exact .inl ⟨h, decode_ascii s pos hp h⟩
    ·exact .inr ⟨by omega, (decode_high s pos hp (by omega)).1⟩)
   have HS : Hid (∀ u, eQ t s[pos].toNat = some u → en s (pos + 1) = some u) := yz (fun u hu => xe (yy HL) hp hu)
   have HX : Hid (eQ t s[pos].toNat = none → aE s = ⟨0, 0, 0, 0, 0, 0⟩) := yz (fun hu => xF (yy HL) hp hu)
   have hpl : (t.pl : Int) ≤ 3 := by have := (yy HO).1; omega
   clear hW HI HL
   obtain ⟨r, hr⟩ : ∃ r, (Utf8.decode s pos).1 = r := ⟨_, rfl⟩
   obtain ⟨x, hx⟩ : ∃ x, s[pos].toNat = x := ⟨_, rfl⟩
   obtain ⟨q, hq⟩ : ∃ q, pos + (Utf8.decode s pos).2 = q := ⟨_, rfl⟩
   rw [hr] at hnx
   rw [hq] at HI1
   rw [hx] at HS HX
   have HE : Hid ((x < 128 ∧ r = x ∧ q = pos + 1) ∨ (128 ≤ x ∧ 128 ≤ r)) := yz (by
    rcases yy HD with ⟨h1, h2⟩ | ⟨h1, h2⟩
    ·left
     rw [h2] at hr hq
     exact ⟨by omega, by rw [← hr, ← hx], by rw [← hq]⟩
    ·right
     exact ⟨by omega, by omega⟩)
   have HQ : Hid (pos + 1 ≤ s.size) := yz hp
   clear hr hx hq HD hp
   by_cases c1 : r = 44 ∧ t.pl < 3
   ·obtain ⟨rfl, c2⟩ := c1
    obtain ⟨rfl, rfl⟩ : x = 44 ∧ q = pos + 1 := by rcases yy HE with h | h <;> omega
    have hst := xK (yy HO) c2
    have HN := yz (yy HS _ hst.1)
    have HO2 := yz hst.2
    have HI2 : Hid (nk w W1 s w.heap.size bp bi { t with pl := t.pl + 1, sg := 1 } (pos + 1)) := HI1
    have hcell := ((yy HI2).cell (yy HO2).1).1
    have hpr := iU hst.2
    have hca : ((t.pl + 1 : Nat) : Int) = (t.pl : Int) + 1 := by omega
    have d1 : (t.pl : Int) < 3 := by omega
    have d2 : (t.pl : Int) + 1 < 4 := by omega
    generalize LSt.part { t with pl := t.pl + 1, sg := 1 } = v at hcell hpr
    have hv1 : ¬ v < -5 := by omega
    have hv2 : ¬ 5 < v := by omega
    clear hst hpr HS HX HE
    go_wp2_with fail
    have hi2 : W1.iterPos bi = pos + 1 := by have := (yy HI2).2.2.2.2.1; simp [World.iterPos, this]
    have hqs := yy HQ
    exact ⟨⟨{ t with pl := t.pl + 1, sg := 1 }, pos + 1, by rw [← hca], rfl, HN, HO2, HQ, HI2⟩, by omega⟩
   ·by_cases c2 : r = 45
    ·subst c2
     obtain ⟨rfl, rfl⟩ : x = 45 ∧ q = pos + 1 := by rcases yy HE with h | h <;> omega
     have hst := xw (yy HO)
     have HN := yz (yy HS _ hst.1)
     have HO2 := yz hst.2
     have HI2 : Hid (nk w W1 s w.heap.size bp bi { t with sg := -1 } (pos + 1)) := HI1
     have hcell := ((yy HI2).cell (yy HO2).1).1
     have hpr := iU hst.2
     have d2 : (t.pl : Int) < 4 := by omega
     generalize LSt.part { t with sg := -1 } = v at hcell hpr
     have hv1 : ¬ v < -5 := by omega
     have hv2 : ¬ 5 < v := by omega
     clear hst hpr HS HX HE
     go_wp2_with fail
     have hi2 : W1.iterPos bi = pos + 1 := by have := (yy HI2).2.2.2.2.1; simp [World.iterPos, this]
     have hqs := yy HQ
     exact ⟨⟨{ t with sg := -1 }, pos + 1, rfl, rfl, HN, HO2, HQ, HI2⟩, by omega⟩
    ·by_cases c3 : 48 ≤ r ∧ r ≤ 57
     ·obtain ⟨hxr, rfl⟩ : x = r ∧ q = pos + 1 := by rcases yy HE with h | h <;> omega
      subst hxr
      have hcell := (yy HI1).cell (yy HO).1
      have hsg := (yy HO).2.1
      have hpb := iU (yy HO)
      have hdv := CF (yy HO) c3.1 c3.2
      have d2 : (t.pl : Int) < 4 := by omega
      have e1 : (((x : Nat) : Int) == 44) = false := by simp; omega
      have e2 : (((x : Nat) : Int) == 45) = false := by simp; omega
      have e3 : (48 : Int) ≤ (x : Int) := by omega
      have e4 : (x : Int) ≤ 57 := by omega
      have w1 : wrap32 ((x : Int) - 48) = (x : Int) - 48 := by unfold wrap32; omega
      have w2 : wrap64 ((x : Int) - 48) = (x : Int) - 48 := aq (by omega) (by omega)
      have w3 : wrap64 (10 * t.part) = 10 * t.part := aq (by omega) (by omega)
      have w4 : wrap64 (t.sg * ((x : Int) - 48)) = t.sg * ((x : Int) - 48) := by rcases hsg with e | e <;> rw [e] <;> exact aq (by omega) (by omega)
      have w5 : wrap64 (10 * t.part + t.sg * ((x : Int) - 48)) = ig t x := by unfold ig at hdv ⊢; exact aq (by omega) (by omega)
      obtain ⟨hc, hf⟩ := hcell
      by_cases c4 : -5 ≤ ig t x ∧ ig t x ≤ 5
      ·have hst := xx (yy HO) c3.1 c3.2 c4
       have HN := yz (yy HS _ hst.1)
       have HO2 := yz hst.2
       have HI2 := yz ((yy HI1).put (yy HO).1 (yy HG).1 (Ne.symm (yy HG).2.1) (yy HG).2.2.2.1 (ig t x))
       have hpp := Ec t (ig t x)
       have hv1 : ¬ ig t x < -5 := by omega
       have hv2 : ¬ 5 < ig t x := by omega
       clear hst HS HX HE hsg hpb hdv c1 c2 c3 c4
       go_wp2_with fail
       have hi2 : (W1.setCell ⟨bp, t.pl, none⟩ (.int .i64 (ig t x))).iterPos bi = pos + 1 := by have := (yy HI2).2.2.2.2.1; simp [World.iterPos, this]
       have hqs := yy HQ
       exact ⟨⟨t.put (ig t x), pos + 1, by rw [hpp.1], by rw [hpp.2], HN, HO2, HQ, HI2⟩, by omega⟩
      ·have HZ := yz (yy HX (AM c3.1 c3.2 c4))
       have hvv : ig t x < -5 ∨ (¬ ig t x < -5 ∧ 5 < ig t x) := by omega
       clear HS HX HE hsg hpb hdv c1 c2 c3 c4
       obtain ⟨cr0, cr1, cr2, cr3⟩ := (yy HI1).2.2.1
       obtain ⟨fr0, fr1, fr2, fr3⟩ := (yy HI1).2.2.2.1
       have n1 : w.heap.size ≠ bp := (yy HG).1
       have n2 : bp ≠ w.heap.size := Ne.symm n1
       have HB := yz ((yy HI1).2.2.2.2.2.setCell (p := ⟨bp, t.pl, none⟩) (yy HG).2.2.2.1 (.int .i64 (ig t x)))
       rcases hvv with hv | ⟨hv, hv2⟩
       ·go_wp2_with fail
        exact bodyPost_ret (v := .agg #[.int .i64 0, .int .i64 0, .int .i64 0, .int .i64 0]) (by simp [results, Tryz.results123, go_sem, cr0, cr1, cr2, cr3]) rfl ⟨by rw [yy HZ], eJ (yy HB) (Nat.le_refl _) _ _ _ _⟩
       ·go_wp2_with fail
        exact bodyPost_ret (v := .agg #[.int .i64 0, .int .i64 0, .int .i64 0, .int .i64 0]) (by simp [results, Tryz.results123, go_sem, cr0, cr1, cr2, cr3]) rfl ⟨by rw [yy HZ], eJ (yy HB) (Nat.le_refl _) _ _ _ _⟩
     ·have HZ : Hid (aE s = ⟨0, 0, 0, 0, 0, 0⟩) := yz (yy HX (by
       rcases yy HE with h | h
       ·obtain ⟨_, rfl, _⟩ := h
        exact sF c1 c2 c3
       ·exact sF (by omega) (by omega) (by omega)))
      obtain ⟨cr0, cr1, cr2, cr3⟩ := (yy HI1).2.2.1
      obtain ⟨fr0, fr1, fr2, fr3⟩ := (yy HI1).2.2.2.1
      have HB := yz (yy HI1).2.2.2.2.2
      have e2 : (((r : Nat) : Int) == 45) = false := by simp; omega
      by_cases c5 : r = 44
      ·subst c5
       have d1 : ¬ (t.pl : Int) < 3 := by omega
       clear HS HX HE c1 c2 c3
       go_wp2_with fail
       exact bodyPost_ret (v := .agg #[.int .i64 0, .int .i64 0, .int .i64 0, .int .i64 0]) (by simp [results, Tryz.results123, go_sem, cr0, cr1, cr2, cr3]) rfl ⟨by rw [yy HZ], eJ (yy HB) (Nat.le_refl _) _ _ _ _⟩
      ·have e1 : (((r : Nat) : Int) == 44) = false := by simp; omega
       have e3 : ¬ (48 : Int) ≤ (r : Int) ∨ ((48 : Int) ≤ (r : Int) ∧ ¬ (r : Int) ≤ 57) := by omega
       clear HS HX HE c1 c2 c3 c5
       rcases e3 with e3 | ⟨e3, e4⟩
       ·go_wp2_with fail
        exact bodyPost_ret (v := .agg #[.int .i64 0, .int .i64 0, .int .i64 0, .int .i64 0]) (by simp [results, Tryz.results123, go_sem, cr0, cr1, cr2, cr3]) rfl ⟨by rw [yy HZ], eJ (yy HB) (Nat.le_refl _) _ _ _ _⟩
       ·go_wp2_with fail
        exact bodyPost_ret (v := .agg #[.int .i64 0, .int .i64 0, .int .i64 0, .int .i64 0]) (by simp [results, Tryz.results123, go_sem, cr0, cr1, cr2, cr3]) rfl ⟨by rw [yy HZ], eJ (yy HB) (Nat.le_refl _) _ _ _ _⟩
  ·have hps : pos = s.size := by have := yy HP; omega
   subst hps
   have hnx : ∀ ty, (Instr.next (.pointer (some ⟨bi, 0, none⟩)) true ty).run Tryz.prog wr = .ok (.tuple #[.bool false]) wr := fun ty => Lib.run_next_end_at wr bi s s.size ty (yy HI).2.2.2.2.1 (by omega)
   have HZ : Hid (aE s = t) := yz (by unfold aE; rw [yy HL]; rfl)
   obtain ⟨ca0, ca1, ca2, ca3⟩ := (yy HI).1
   obtain ⟨cr0, cr1, cr2, cr3⟩ := (yy HI).2.2.1
   obtain ⟨fr0, fr1, fr2, fr3⟩ := (yy HI).2.2.2.1
   have HB := yz (yy HI).2.2.2.2.2
   clear HI HL HO HP hit hp
   go_wp2_with fail
   exact bodyPost_ret (v := .agg #[.int .i64 t.a, .int .i64 t.b, .int .i64 t.c, .int .i64 t.d]) (by simp [results, Tryz.results123, go_sem, cr0, cr1, cr2, cr3]) rfl ⟨by rw [yy HZ], eJ (yy HB) (Nat.le_refl _) _ _ _ _⟩
end
section
open Go.Shelf Go.RowKit Go.Sort Go.Lib
def oj : Go.Shelf.Ren := ⟨fun | 156 => 104 | 165 => 136 | 166 => 137 | 169 => 138 | 240 => 156 | 241 => 157 | 276 => 174 | 277 => 175 | n => n, fun | 31 => 27 | 9 => 9 | 3 => 3 | 4 => 4 | 0 => 0 | 20 => 20 | 72 => 179 | 76 => 181 | 70 => 177 | 37 => 41 | 75 => 149 | 127 => 205 | 164 => 238 | 5 => 5 | 80 => 85 | n => n, fun | n => n⟩
theorem yH : Go.Proofs.Lays.n156 Tryz.prog oj := {
 mixed := by kernel_rfl
 f156 := Tryz.func104.trans (congrArg some (by kernel_rfl))
 f165 := Tryz.func136.trans (congrArg some (by kernel_rfl))
 f166 := Tryz.func137.trans (congrArg some (by kernel_rfl))
 f169 := Tryz.func138.trans (congrArg some (by kernel_rfl))
 f240 := Tryz.func156.trans (congrArg some (by kernel_rfl))
 f241 := Tryz.func157.trans (congrArg some (by kernel_rfl))
 f276 := Tryz.func174.trans (congrArg some (by kernel_rfl))
 f277 := Tryz.func175.trans (congrArg some (by kernel_rfl))
 t0 := Tryz.underlying0
 a0 := Tryz.isAgg0
 z0 := Tryz.sizeOf0
 v0 := Tryz.zeroValue0
 t3 := Tryz.underlying3
 a3 := Tryz.isAgg3
 z3 := Tryz.sizeOf3
 v3 := Tryz.zeroValue3
 t4 := Tryz.underlying4
 a4 := Tryz.isAgg4
 z4 := Tryz.sizeOf4
 v4 := Tryz.zeroValue4
 t9 := Tryz.underlying9
 a9 := Tryz.isAgg9
 z9 := Tryz.sizeOf9
 v9 := Tryz.zeroValue9
 t20 := Tryz.underlying20
 a20 := Tryz.isAgg20
 z20 := Tryz.sizeOf20
 v20 := Tryz.zeroValue20
 t31 := Tryz.underlying27
 a31 := Tryz.isAgg27
 z31 := Tryz.sizeOf27
 v31 := Tryz.zeroValue27
 t37 := Tryz.underlying41
 a37 := Tryz.isAgg41
 z37 := Tryz.sizeOf41
 v37 := Tryz.zeroValue41
 t70 := Tryz.underlying177
 a70 := Tryz.isAgg177
 z70 := Tryz.sizeOf177
 v70 := Tryz.zeroValue177
 t72 := Tryz.underlying179
 a72 := Tryz.isAgg179
 z72 := Tryz.sizeOf179
 v72 := Tryz.zeroValue179
 t75 := Tryz.underlying149
 a75 := Tryz.isAgg149
 z75 := Tryz.sizeOf149
 v75 := Tryz.zeroValue149
 t76 := Tryz.underlying181
 a76 := Tryz.isAgg181
 z76 := Tryz.sizeOf181
 v76 := Tryz.zeroValue181
 t127 := Tryz.underlying205
 a127 := Tryz.isAgg205
 z127 := Tryz.sizeOf205
 v127 := Tryz.zeroValue205
 t164 := Tryz.underlying238
 a164 := Tryz.isAgg238
 z164 := Tryz.sizeOf238
 v164 := Tryz.zeroValue238 }
theorem iG : Builder.Extra Tryz.prog oj := {
 sizeBuilder := by kernel_rfl
 liesBuilder := by kernel_rfl
 t5 := Tryz.underlying5
 a5 := Tryz.isAgg5
 z5 := Tryz.sizeOf5
 v5 := Tryz.zeroValue5
 infoByte := by kernel_rfl
 cellsByte := by kernel_rfl
 sizeByte := by kernel_rfl
 neB5 := by decide }
theorem strings_Join_none (a : Option Addr) (c : Nat) (sep : ByteArray) (w : World) :
  Calls Tryz.prog 104 #[.slice a 0 c, .string sep] w fun e w' => e = .returned (.string ⟨#[]⟩) ∧ w' = w := Any.strings_Join_none yH iG a c sep w
theorem strings_Join (bk o c : Nat) (xs : List ByteArray) (sep : ByteArray) (w : World) (hcells : ∀ (j : Nat) x, xs[j]? = some x → w.cell? ⟨bk, o + j, none⟩ = some (.string x)) (hbk : bk < w.heap.size) (hN : xs.length ≤ 140737488355328) (hcap : xs.length ≤ c) (hlen : (Lib.join (xs.map (·.data.toList)) sep.data.toList).length ≤ 140737488355328) :
  Calls Tryz.prog 104 #[.slice (some ⟨bk, o, none⟩) xs.length c, .string sep] w fun e w' => e = .returned (.string ⟨(Lib.join (xs.map (·.data.toList)) sep.data.toList).toArray⟩) ∧ Below w.heap.size w w' := Any.strings_Join yH iG bk o c xs sep w hcells hbk hN hcap hlen
def ui : Go.Shelf.Ren := ⟨fun | 173 => 135 | 246 => 155 | 283 => 170 | 284 => 171 | 285 => 172 | 286 => 173 | 129 => 184 | 317 => 183 | 318 => 185 | 319 => 186 | 320 => 187 | 337 => 195 | 338 => 196 | n => n, fun | 2 => 2 | 3 => 3 | 9 => 9 | 4 => 4 | 171 => 232 | 0 => 0 | 53 => 233 | 37 => 41 | 5 => 5 | 173 => 236 | 212 => 247 | 51 => 158 | 20 => 20 | 213 => 248 | 46 => 139 | 232 => 256 | 233 => 257 | n => n, fun | 17 => 4 | 18 => 5 | 19 => 6 | n => n⟩
theorem BX : Go.Proofs.LaysM.n173 Tryz.prog ui := {
 mixed := by kernel_rfl
 f129 := Tryz.func184.trans (congrArg some (by kernel_rfl))
 f173 := Tryz.func135.trans (congrArg some (by kernel_rfl))
 f246 := Tryz.func155.trans (congrArg some (by kernel_rfl))
 f283 := Tryz.func170.trans (congrArg some (by kernel_rfl))
 f284 := Tryz.func171.trans (congrArg some (by kernel_rfl))
 f285 := Tryz.func172.trans (congrArg some (by kernel_rfl))
 f286 := Tryz.func173.trans (congrArg some (by kernel_rfl))
 f317 := Tryz.func183.trans (congrArg some (by kernel_rfl))
 f318 := Tryz.func185.trans (congrArg some (by kernel_rfl))
 f319 := Tryz.func186.trans (congrArg some (by kernel_rfl))
 f320 := Tryz.func187.trans (congrArg some (by kernel_rfl))
 f337 := Tryz.func195.trans (congrArg some (by kernel_rfl))
 f338 := Tryz.func196.trans (congrArg some (by kernel_rfl))
 t0 := Tryz.underlying0
 a0 := Tryz.isAgg0
 z0 := Tryz.sizeOf0
 v0 := Tryz.zeroValue0
 t2 := Tryz.underlying2
 a2 := Tryz.isAgg2
 z2 := Tryz.sizeOf2
 v2 := Tryz.zeroValue2
 t3 := Tryz.underlying3
 a3 := Tryz.isAgg3
 z3 := Tryz.sizeOf3
 v3 := Tryz.zeroValue3
 t4 := Tryz.underlying4
 a4 := Tryz.isAgg4
 z4 := Tryz.sizeOf4
 v4 := Tryz.zeroValue4
 t5 := Tryz.underlying5
 a5 := Tryz.isAgg5
 z5 := Tryz.sizeOf5
 v5 := Tryz.zeroValue5
 t9 := Tryz.underlying9
 a9 := Tryz.isAgg9
 z9 := Tryz.sizeOf9
 v9 := Tryz.zeroValue9
 t20 := Tryz.underlying20
 a20 := Tryz.isAgg20
 z20 := Tryz.sizeOf20
 v20 := Tryz.zeroValue20
 t37 := Tryz.underlying41
 a37 := Tryz.isAgg41
 z37 := Tryz.sizeOf41
 v37 := Tryz.zeroValue41
 t46 := Tryz.underlying139
 a46 := Tryz.isAgg139
 z46 := Tryz.sizeOf139
 v46 := Tryz.zeroValue139
 t51 := Tryz.underlying158
 a51 := Tryz.isAgg158
 z51 := Tryz.sizeOf158
 v51 := Tryz.zeroValue158
 t53 := Tryz.underlying233
 a53 := Tryz.isAgg233
 z53 := Tryz.sizeOf233
 v53 := Tryz.zeroValue233
 t171 := Tryz.underlying232
 a171 := Tryz.isAgg232
 z171 := Tryz.sizeOf232
 v171 := Tryz.zeroValue232
 t173 := Tryz.underlying236
 a173 := Tryz.isAgg236
 z173 := Tryz.sizeOf236
 v173 := Tryz.zeroValue236
 t212 := Tryz.underlying247
 a212 := Tryz.isAgg247
 z212 := Tryz.sizeOf247
 v212 := Tryz.zeroValue247
 t213 := Tryz.underlying248
 a213 := Tryz.isAgg248
 z213 := Tryz.sizeOf248
 t232 := Tryz.underlying256
 a232 := Tryz.isAgg256
 z232 := Tryz.sizeOf256
 v232 := Tryz.zeroValue256
 t233 := Tryz.underlying257
 a233 := Tryz.isAgg257
 z233 := Tryz.sizeOf257
 v233 := Tryz.zeroValue257
 g17 := by kernel_rfl
 g18 := by kernel_rfl
 g19 := by kernel_rfl
 i0 := by kernel_rfl
 i2 := by kernel_rfl
 i3 := by kernel_rfl
 i4 := by kernel_rfl
 i5 := by kernel_rfl
 i9 := by kernel_rfl
 i20 := by kernel_rfl
 i37 := by kernel_rfl
 i46 := by kernel_rfl
 i51 := by kernel_rfl
 i53 := by kernel_rfl
 i171 := by kernel_rfl
 i173 := by kernel_rfl
 i212 := by kernel_rfl
 i232 := by kernel_rfl
 i233 := by kernel_rfl
 m17 := by kernel_rfl
 m18 := by kernel_rfl
 m19 := by kernel_rfl }
theorem strconv_FormatInt_10 (n : Int) (h0 : -9223372036854775808 ≤ n) (h1 : n ≤ 9223372036854775807) (w : World) (htab : Lib.TabIs Tryz.prog w "internal/strconv.uint64pow10" .u64 Lib.pow10Tab) :
  Calls Tryz.prog 135 #[.int .i64 n, .int .i64 10] w fun e w' => e = .returned (.string ⟨(Lib.itoa n).toArray⟩) ∧ ∃ k os, w' = grow (w.drewN k) os := Any.strconv_FormatInt_10 BX n h0 h1 w htab
end
section
open Go.RowKit Go.Joins
open Go.Sort (grow)
def bG (n : Int) : ByteArray := ⟨(Lib.itoa n).toArray⟩
def bd (w : World) (b : Nat) (s0 s1 s2 s3 : ByteArray) : Prop := w.cell? ⟨b, 0, none⟩ = some (.string s0) ∧ w.cell? ⟨b, 1, none⟩ = some (.string s1) ∧ w.cell? ⟨b, 2, none⟩ = some (.string s2) ∧ w.cell? ⟨b, 3, none⟩ = some (.string s3)
theorem bd.lt {w : World} {b : Nat} {s0 s1 s2 s3 : ByteArray} (h : bd w b s0 s1 s2 s3) : b < w.heap.size := World.block_lt_of_cell? w _ h.1
theorem bd.kept {w w' : World} {b : Nat} {s0 s1 s2 s3 : ByteArray} (h : bd w b s0 s1 s2 s3) (hB : Below w.heap.size w w') : bd w' b s0 s1 s2 s3 := by
 have hb := h.lt
 obtain ⟨h0, h1, h2, h3⟩ := h
 exact ⟨by rw [hB.cell (p := ⟨b, 0, none⟩) hb]; exact h0, by rw [hB.cell (p := ⟨b, 1, none⟩) hb]; exact h1, by rw [hB.cell (p := ⟨b, 2, none⟩) hb]; exact h2, by rw [hB.cell (p := ⟨b, 3, none⟩) hb]; exact h3⟩
theorem Aa (w : World) (s0 s1 s2 s3 : ByteArray) (t : TypeId) : bd (w.alloc (.cells #[.string s0, .string s1, .string s2, .string s3] t)) w.heap.size s0 s1 s2 s3 := by
 refine ⟨?_, ?_, ?_, ?_⟩ <;> simp
theorem zi (w : World) (s0 s1 s2 s3 : ByteArray) (t : TypeId) : eP (w.alloc (.cells #[.string s0, .string s1, .string s2, .string s3] t)) w.heap.size := by
 refine ⟨?_, ?_, ?_, ?_⟩ <;> simp
theorem eP.set {w : World} {b : Nat} (h : eP w b) (p : Addr) (v : Value) : eP (w.setCell p v) b := by
 obtain ⟨h0, h1, h2, h3⟩ := h
 refine ⟨?_, ?_, ?_, ?_⟩ <;> simp [go_sem, h0, h1, h2, h3]
def Tab (w : World) : Prop := Lib.TabIs Tryz.prog w "internal/strconv.uint64pow10" .u64 Lib.pow10Tab
theorem si : Tryz.prog.globalNamed "internal/strconv.uint64pow10" = some 4 := by kernel_rfl
theorem Tab.kept {w w' : World} (h : Tab w) (hB : Below w.heap.size w w') : Tab w' := tab_stays si h hB (Nat.le_refl _)
theorem qc (w : World) (k : Nat) (os : Array Obj) : RowKit.Below w.heap.size w (grow (w.drewN k) os) := Lib.below_grow _ w (Nat.le_refl _) k os
theorem jy (n : Int) (w : World) (h : -1000 ≤ n ∧ n ≤ 1000) (ht : Tab w) :
  Calls Tryz.prog 135 #[.int .i64 n, .int .i64 10] w fun e w' => e = .returned (.string (bG n)) ∧ Below w.heap.size w w' :=
 (strconv_FormatInt_10 n (by omega) (by omega) w ht).mono fun e w' ⟨he, k, os, hw⟩ => ⟨he, by subst hw; exact qc _ _ _⟩
def uC (a b c d : Int) (w : World) (bk : Nat) : Nat → Prop
 | 0 => bd w bk ⟨#[]⟩ ⟨#[]⟩ ⟨#[]⟩ ⟨#[]⟩
 | 1 => bd w bk (bG a) ⟨#[]⟩ ⟨#[]⟩ ⟨#[]⟩
 | 2 => bd w bk (bG a) (bG b) ⟨#[]⟩ ⟨#[]⟩
 | 3 => bd w bk (bG a) (bG b) (bG c) ⟨#[]⟩
 | _ => bd w bk (bG a) (bG b) (bG c) (bG d)
theorem mN (a b c d : Int) (w : World) (ht : Tab w) :
  Calls Tryz.prog 107 #[.agg #[.int .i64 a, .int .i64 b, .int .i64 c, .int .i64 d]] w fun e w' => e = .returned (.string (dc a b c d)) ∧ Below w.heap.size w w' := by
 have i0 : ∀ w : World, (Instr.index 186 (.agg #[.int .i64 a, .int .i64 b, .int .i64 c, .int .i64 d]) (.int .i64 0)).run Tryz.prog w = .ok (.int .i64 a) w := fun _ => by kernel_rfl
 have i1 : ∀ w : World, (Instr.index 186 (.agg #[.int .i64 a, .int .i64 b, .int .i64 c, .int .i64 d]) (.int .i64 1)).run Tryz.prog w = .ok (.int .i64 b) w := fun _ => by kernel_rfl
 have i2 : ∀ w : World, (Instr.index 186 (.agg #[.int .i64 a, .int .i64 b, .int .i64 c, .int .i64 d]) (.int .i64 2)).run Tryz.prog w = .ok (.int .i64 c) w := fun _ => by kernel_rfl
 have i3 : ∀ w : World, (Instr.index 186 (.agg #[.int .i64 a, .int .i64 b, .int .i64 c, .int .i64 d]) (.int .i64 3)).run Tryz.prog w = .ok (.int .i64 d) w := fun _ => by kernel_rfl
 have HT := yz ht
 clear ht
 go_enter Tryz.func107, Tryz.ntmps107
 go_wp2_with fail
 refine (bj a b c d _).mono ?_
 rintro e w1 ⟨rfl, hx⟩
 have va : aJ w1 w.heap.size a b c d := (aH w a b c d _).kept (by simp) hx
 have hB : Below w.heap.size w w1 := ak (an _ _) hx
 clear hx
 cases hr : aA a b c d
 ·have HR : Hid (dc a b c d = ⟨#[]⟩) := yz (ue hr)
  go_wp2_with fail
  go_ret
  exact ⟨by rw [yy HR]; rfl, hB⟩
 ·have HR := yz (oR hr)
  have HJ := yz (Ad (aZ.1 hr).1)
  have HI := yz (bR.1 (qE (aZ.1 hr).1 (show (5 : Int) ≤ 1000 by omega)))
  have va2 := va.alloc (.cells #[.string ⟨#[]⟩, .string ⟨#[]⟩, .string ⟨#[]⟩, .string ⟨#[]⟩] 185)
  have hwn := Aa w1 ⟨#[]⟩ ⟨#[]⟩ ⟨#[]⟩ ⟨#[]⟩ 185
  have hfn := zi w1 ⟨#[]⟩ ⟨#[]⟩ ⟨#[]⟩ ⟨#[]⟩ 185
  have hB1 := hB.alloc hB.size (.cells #[.string ⟨#[]⟩, .string ⟨#[]⟩, .string ⟨#[]⟩, .string ⟨#[]⟩] 185)
  have hle : w.heap.size ≤ w1.heap.size := hB.size
  obtain ⟨c0, c1, c2, c3⟩ := va2
  clear va hr hB
  go_wp2_with fail
  refine (lE a b c d _).mono ?_
  rintro e w2 ⟨rfl, hx⟩
  replace hfn := hfn.kept hwn.lt hx
  replace hwn := hwn.kept hx
  replace hB1 := ak hB1 hx
  clear hx c0 c1 c2 c3
  generalize w1.heap.size = bk at hwn hfn hle ⊢
  have HW := yz hwn
  have HF := yz hfn
  have HB := yz hB1
  clear hwn hfn hB1
  go_wp2_with fail
  go_loopw [11] (fun i wr => ∃ k : Nat, k ≤ 4 ∧ i = .int .i64 k ∧ Hid (uC a b c d wr bk k) ∧ Hid (eP wr bk) ∧ Hid (Below w.heap.size w wr)) (fun i _ => 4 - (intOf i).toNat)
  case atStart => exact ⟨0, by omega, rfl, HW, HF, HB⟩
  case round =>
   clear HW HF HB
   obtain ⟨k, hk, rfl, HW, HF, HB⟩ := hrel
   have hk5 : k = 0 ∨ k = 1 ∨ k = 2 ∨ k = 3 ∨ k = 4 := by omega
   rcases hk5 with rfl | rfl | rfl | rfl | rfl
   ·go_wp2_with fail
    refine (jy a _ (yy HI).1 ((yy HT).kept (yy HB))).mono ?_
    rintro e w3 ⟨rfl, hx⟩
    have hw : bd w3 bk ⟨#[]⟩ ⟨#[]⟩ ⟨#[]⟩ ⟨#[]⟩ := (show bd _ bk ⟨#[]⟩ ⟨#[]⟩ ⟨#[]⟩ ⟨#[]⟩ from yy HW).kept hx
    have hf : eP w3 bk := (yy HF).kept (bd.lt (show bd _ bk ⟨#[]⟩ ⟨#[]⟩ ⟨#[]⟩ ⟨#[]⟩ from yy HW)) hx
    have hb : Below w.heap.size w w3 := ak (yy HB) hx
    clear hx HW HF HB
    have hw2 := hw
    have hf2 := hf
    obtain ⟨g0, g1, g2, g3⟩ := hw2
    obtain ⟨f0, f1, f2, f3⟩ := hf2
    have HB := yz hb
    have HH := yz hw
    have HF := yz hf
    clear hb hw hf
    go_wp2_with fail
    go_roundw
    case rel => exact ⟨1, by omega, rfl, yz (by simp [uC, bd, go_sem, g0, g1, g2, g3]), yz ((yy HF).set _ _), yz ((yy HB).setCell hle _)⟩
    case measure => simp [intOf]
   ·go_wp2_with fail
    refine (jy b _ (yy HI).2.1 ((yy HT).kept (yy HB))).mono ?_
    rintro e w3 ⟨rfl, hx⟩
    have hw : bd w3 bk (bG a) ⟨#[]⟩ ⟨#[]⟩ ⟨#[]⟩ := (show bd _ bk (bG a) ⟨#[]⟩ ⟨#[]⟩ ⟨#[]⟩ from yy HW).kept hx
    have hf : eP w3 bk := (yy HF).kept (bd.lt (show bd _ bk (bG a) ⟨#[]⟩ ⟨#[]⟩ ⟨#[]⟩ from yy HW)) hx
    have hb : Below w.heap.size w w3 := ak (yy HB) hx
    clear hx HW HF HB
    have hw2 := hw
    have hf2 := hf
    obtain ⟨g0, g1, g2, g3⟩ := hw2
    obtain ⟨f0, f1, f2, f3⟩ := hf2
    have HB := yz hb
    have HH := yz hw
    have HF := yz hf
    clear hb hw hf
    go_wp2_with fail
    go_roundw
    case rel => exact ⟨2, by omega, rfl, yz (by simp [uC, bd, go_sem, g0, g1, g2, g3]), yz ((yy HF).set _ _), yz ((yy HB).setCell hle _)⟩
    case measure => simp [intOf]
   ·go_wp2_with fail
    refine (jy c _ (yy HI).2.2.1 ((yy HT).kept (yy HB))).mono ?_
    rintro e w3 ⟨rfl, hx⟩
    have hw : bd w3 bk (bG a) (bG b) ⟨#[]⟩ ⟨#[]⟩ := (show bd _ bk (bG a) (bG b) ⟨#[]⟩ ⟨#[]⟩ from yy HW).kept hx
    have hf : eP w3 bk := (yy HF).kept (bd.lt (show bd _ bk (bG a) (bG b) ⟨#[]⟩ ⟨#[]⟩ from yy HW)) hx
    have hb : Below w.heap.size w w3 := ak (yy HB) hx
    clear hx HW HF HB
    have hw2 := hw
    have hf2 := hf
    obtain ⟨g0, g1, g2, g3⟩ := hw2
    obtain ⟨f0, f1, f2, f3⟩ := hf2
    have HB := yz hb
    have HH := yz hw
    have HF := yz hf
    clear hb hw hf
    go_wp2_with fail
    go_roundw
    case rel => exact ⟨3, by omega, rfl, yz (by simp [uC, bd, go_sem, g0, g1, g2, g3]), yz ((yy HF).set _ _), yz ((yy HB).setCell hle _)⟩
    case measure => simp [intOf]
   ·go_wp2_with fail
    refine (jy d _ (yy HI).2.2.2 ((yy HT).kept (yy HB))).mono ?_
    rintro e w3 ⟨rfl, hx⟩
    have hw : bd w3 bk (bG a) (bG b) (bG c) ⟨#[]⟩ := (show bd _ bk (bG a) (bG b) (bG c) ⟨#[]⟩ from yy HW).kept hx
    have hf : eP w3 bk := (yy HF).kept (bd.lt (show bd _ bk (bG a) (bG b) (bG c) ⟨#[]⟩ from yy HW)) hx
    have hb : Below w.heap.size w w3 := ak (yy HB) hx
    clear hx HW HF HB
    have hw2 := hw
    have hf2 := hf
    obtain ⟨g0, g1, g2, g3⟩ := hw2
    obtain ⟨f0, f1, f2, f3⟩ := hf2
    have HB := yz hb
    have HH := yz hw
    have HF := yz hf
    clear hb hw hf
    go_wp2_with fail
    go_roundw
    case rel => exact ⟨4, by omega, rfl, yz (by simp [uC, bd, go_sem, g0, g1, g2, g3]), yz ((yy HF).set _ _), yz ((yy HB).setCell hle _)⟩
    case measure => simp [intOf]
   ·have hw : bd wr bk (bG a) (bG b) (bG c) (bG d) := yy HW
    have hb := yy HB
    have HL : Hid ((Lib.join ([bG a, bG b, bG c, bG d].map (·.data.toList)) (⟨#[44]⟩ : ByteArray).data.toList) = fc a b c d) := yz (by rw [← yy HJ]; simp [bG])
    have hcells : ∀ (j : Nat) x, [bG a, bG b, bG c, bG d][j]? = some x → wr.cell? ⟨bk, 0 + j, none⟩ = some (.string x) := by
     intro j x hx
     have hj : j < 4 := by
      rcases Nat.lt_or_ge j 4 with h | h
      ·exact h
      ·rw [List.getElem?_eq_none (by simpa using h)] at hx; cases hx
     match j, hj with
     | 0, _ => cases hx; exact hw.1
     | 1, _ => cases hx; exact hw.2.1
     | 2, _ => cases hx; exact hw.2.2.1
     | 3, _ => cases hx; exact hw.2.2.2
    have HC := yz hcells
    have HK := yz hw.lt
    have HB := yz hb
    clear hw hb HW HF hcells
    go_wp2_with fail
    refine (strings_Join bk 0 4 [bG a, bG b, bG c, bG d] ⟨#[44]⟩ wr (yy HC) (yy HK) (by simp) (by simp) (by rw [yy HL]; have := BU a b c d; omega)).mono ?_
    rw [yy HL]
    rintro e w3 ⟨rfl, hx⟩
    have HB2 := yz (ak (yy HB) hx)
    clear hx HC HK HL HB
    go_wp2_with fail
    go_ret
    exact ⟨by rw [yy HR]; rfl, yy HB2⟩
end
section
open Go.RowKit
theorem yo {a b : ByteArray} (h : a = b) : (a.toList == b.toList) = true := by subst h; simp
theorem yE {a b : ByteArray} (h : a ≠ b) : (a.toList == b.toList) = false := by
 rw [ByteArray.toList_eq, ByteArray.toList_eq]
 simp
 intro e
 exact h (ByteArray.ext e)
theorem rI {s : ByteArray} (h : 8000 < s.size) : Value.agg #[.int .i64 (dL s (aE s).a), .int .i64 (dL s (aE s).b), .int .i64 (dL s (aE s).c), .int .i64 (dL s (aE s).d), .int .i64 (dR s)] = Value.agg #[.int .i64 0, .int .i64 0, .int .i64 0, .int .i64 0, .int .i64 2] := by
 unfold dL dR
 rw [if_neg (by omega), if_neg (by omega), if_neg (by omega), if_neg (by omega), if_neg (by omega)]
theorem vQ {s : ByteArray} (h : s.size ≤ 8000) (hr : fW s = false) : Value.agg #[.int .i64 (dL s (aE s).a), .int .i64 (dL s (aE s).b), .int .i64 (dL s (aE s).c), .int .i64 (dL s (aE s).d), .int .i64 (dR s)] = Value.agg #[.int .i64 0, .int .i64 0, .int .i64 0, .int .i64 0, .int .i64 3] := by
 unfold dL dR
 rw [hr, if_neg (by simp), if_neg (by simp), if_neg (by simp), if_neg (by simp), if_pos h]
 rfl
theorem yp {s : ByteArray} (h : s.size ≤ 8000) (hr : fW s = true) : Value.agg #[.int .i64 (dL s (aE s).a), .int .i64 (dL s (aE s).b), .int .i64 (dL s (aE s).c), .int .i64 (dL s (aE s).d), .int .i64 (dR s)] = Value.agg #[.int .i64 (aE s).a, .int .i64 (aE s).b, .int .i64 (aE s).c, .int .i64 (aE s).d, .int .i64 0] := by
 unfold dL dR
 rw [hr, if_pos ⟨h, rfl⟩, if_pos ⟨h, rfl⟩, if_pos ⟨h, rfl⟩, if_pos ⟨h, rfl⟩, if_pos h]
 rfl
theorem tF (s : ByteArray) (w : World) (hs : s.size ≤ 9223372036854775807) (ht : Tab w) :
  Calls Tryz.prog 96 #[.string s] w fun e w' => e = .returned (.agg #[.int .i64 (dL s (aE s).a), .int .i64 (dL s (aE s).b), .int .i64 (dL s (aE s).c), .int .i64 (dL s (aE s).d), .int .i64 (dR s)]) ∧ Below w.heap.size w w' := by
 have HT := yz ht
 clear ht
 by_cases h8 : 8000 < s.size
 ·have HR := yz (rI h8)
  go_enter Tryz.func96, Tryz.ntmps96
  go_wp2_with fail
  exact bodyPost_ret (v := .agg #[.int .i64 0, .int .i64 0, .int .i64 0, .int .i64 0, .int .i64 2]) (by simp [results, Tryz.results96, go_sem]) rfl ⟨by rw [yy HR], an _ _⟩
 ·have h8' : s.size ≤ 8000 := by omega
  have h8i : ¬ (8000 : Int) < (s.size : Int) := by omega
  have HB8 := yz h8'
  have HBad := yz (fun h => vQ h8' h)
  have HOk := yz (fun h => yp h8' h)
  have HRR : Hid (fW s = (aA (aE s).a (aE s).b (aE s).c (aE s).d && decide (dc (aE s).a (aE s).b (aE s).c (aE s).d = s))) := yz rfl
  have HL := yz (fun W => rl s W h8')
  generalize aE s = t at HBad HOk HRR HL ⊢
  generalize t.a = a at HBad HOk HRR HL ⊢
  generalize t.b = b at HBad HOk HRR HL ⊢
  generalize t.c = c at HBad HOk HRR HL ⊢
  generalize t.d = d at HBad HOk HRR HL ⊢
  clear h8 h8'
  go_enter Tryz.func96, Tryz.ntmps96
  go_wp2_with fail
  refine (yy HL _).mono ?_
  rintro e w1 ⟨rfl, hx⟩
  have hxs := (ec w 0 0 0 0 0 94)
  have hfs := (fs w 0 0 0 0 0 94)
  have vr := (hxs.kept hx).alloc (.cells #[.int .i64 a, .int .i64 b, .int .i64 c, .int .i64 d] 32)
  have fr := (hfs.kept hxs.lt hx).kept (hxs.kept hx).lt (an w1 (.cells #[.int .i64 a, .int .i64 b, .int .i64 c, .int .i64 d] 32))
  have vt := aH w1 a b c d 32
  have hB := (ak (an w _) hx).alloc (ak (an w _) hx).size (.cells #[.int .i64 a, .int .i64 b, .int .i64 c, .int .i64 d] 32)
  clear hx hxs hfs HL
  go_wp2_with fail
  refine (bj a b c d _).mono ?_
  rintro e w2 ⟨rfl, hx⟩
  have hlt := vr.lt
  replace vr := vr.kept hx
  replace fr := fr.kept hlt hx
  replace vt := vt.kept vt.lt hx
  replace hB := ak hB hx
  clear hx hlt
  cases hr : aA a b c d
  ·have HF := yz (yy HBad (by rw [yy HRR, hr]; rfl))
   obtain ⟨cr0, cr1, cr2, cr3, cr4⟩ := vr
   obtain ⟨fr0, fr1, fr2, fr3, fr4⟩ := fr
   clear HBad HOk HRR hr
   go_wp2_with fail
   exact bodyPost_ret (v := .agg #[.int .i64 0, .int .i64 0, .int .i64 0, .int .i64 0, .int .i64 3]) (by simp [results, Tryz.results96, go_sem, cr0, cr1, cr2, cr3, cr4]) rfl ⟨by rw [yy HF], aW hB (Nat.le_refl _) _ _ _ _ _⟩
  ·have vt' := vt
   obtain ⟨ct0, ct1, ct2, ct3⟩ := vt
   go_wp2_with fail
   refine (mN a b c d _ ((yy HT).kept hB)).mono ?_
   rintro e w3 ⟨rfl, hx⟩
   have hlt := vr.lt
   replace vr := vr.kept hx
   replace fr := fr.kept hlt hx
   have vt := vt'.kept vt'.lt hx
   replace hB := ak hB hx
   clear hx hlt ct0 ct1 ct2 ct3 vt'
   obtain ⟨cr0, cr1, cr2, cr3, cr4⟩ := vr
   obtain ⟨fr0, fr1, fr2, fr3, fr4⟩ := fr
   obtain ⟨ct0, ct1, ct2, ct3⟩ := vt
   by_cases htx : dc a b c d = s
   ·have HF := yz (yy HOk (by rw [yy HRR, hr, decide_eq_true htx]; rfl))
    have hne := yo htx
    clear HBad HOk HRR hr htx
    go_wp2_with fail
    exact bodyPost_ret (v := .agg #[.int .i64 a, .int .i64 b, .int .i64 c, .int .i64 d, .int .i64 0]) (by simp [results, Tryz.results96, go_sem, cr0, cr1, cr2, cr3, cr4]) rfl ⟨by rw [yy HF], aW hB (Nat.le_refl _) _ _ _ _ _⟩
   ·have HF := yz (yy HBad (by rw [yy HRR, hr, decide_eq_false htx]; rfl))
    have hne := yE htx
    clear HBad HOk HRR hr htx
    go_wp2_with fail
    exact bodyPost_ret (v := .agg #[.int .i64 0, .int .i64 0, .int .i64 0, .int .i64 0, .int .i64 3]) (by simp [results, Tryz.results96, go_sem, cr0, cr1, cr2, cr3, cr4]) rfl ⟨by rw [yy HF], aW hB (Nat.le_refl _) _ _ _ _ _⟩
end
section
open Go.RowKit Go.Sort
def Bc : ByteArray := ⟨#[98, 108, 105, 110, 100]⟩
def BZ : ByteArray := ⟨#[100, 114, 105, 102, 116]⟩
def sIds : ByteArray := ⟨#[105, 100, 115]⟩
def DN : ByteArray := ⟨#[109, 111, 118, 101]⟩
def Bd : ByteArray := ⟨#[114, 101, 115, 101, 116]⟩
def sSee : ByteArray := ⟨#[115, 101, 101]⟩
def BS : ByteArray := ⟨#[115, 116, 97, 116, 101]⟩
def fnV (f : Nat) : Value := .func (.func f) #[] #[]
def fwO : Obj := .cells #[.string Bc, fnV 71, fnV 72, .string BZ, fnV 73, fnV 74, .string sIds, fnV 75, fnV 76, .string DN, fnV 73, fnV 77, .string Bd, fnV 71, fnV 78, .string sSee, fnV 75, fnV 79, .string BS, fnV 71, fnV 80] 111
theorem qz (w : World) : Calls Tryz.prog 52 #[] w fun e w' => e = .returned (.slice (some ⟨w.heap.size, 0, none⟩) 7 7) ∧ w' = w.alloc fwO := by
 go_enter Tryz.func52, Tryz.ntmps52
 go_wp2
 go_ret
 exact ⟨rfl, rfl⟩
theorem ze {w w' : World} {B n m : Nat} {t : TypeId} {v : Value} {xs : List Value} (h : w.ownsRow B t m v n xs) (hB : Below w.heap.size w w') : w'.ownsRow B t m v n xs := by
 obtain ⟨h1, h2⟩ := h
 refine ⟨h1, ?_⟩
 rcases h2 with h2 | ⟨g, c', cur, e, hg, hh, r⟩
 ·exact .inl h2
 ·exact .inr ⟨g, c', cur, e, hg, by rw [hB.block g (Array.getElem?_eq_some_iff.1 hh).1]; exact hh, r⟩
def fwL : List Value := [.string Bc, fnV 71, fnV 72, .string BZ, fnV 73, fnV 74, .string sIds, fnV 75, fnV 76, .string DN, fnV 73, fnV 77, .string Bd, fnV 71, fnV 78, .string sSee, fnV 75, fnV 79, .string BS, fnV 71, fnV 80]
def fwF (j : Nat) : Value := fwL.getD j (.string ⟨#[]⟩)
theorem BJ {w : World} {B B' n m : Nat} {t : TypeId} {v : Value} {xs : List Value} (h : w.ownsRow B t m v n xs) (hb : B' ≤ B) : w.ownsRow B' t m v n xs := by
 obtain ⟨h1, h2⟩ := h
 refine ⟨h1, ?_⟩
 rcases h2 with h2 | ⟨g, c', cur, e, hg, r⟩
 ·exact .inl h2
 ·exact .inr ⟨g, c', cur, e, by omega, r⟩
theorem EE (w : World) : cH (w.alloc fwO) 111 w.heap.size 21 fwF := by
 refine ⟨fwL.toArray, heap_alloc_new w fwO, fun j hj => ?_⟩
 unfold fwF
 rw [List.getElem?_toArray, List.getD_eq_getElem?_getD, List.getElem?_eq_getElem (show j < fwL.length from hj)]
 rfl
end
end Go.Proofs.YtlleafjdgblhcaaGreatDoor
