/- Several texts in one: ModK, DsD. -/
import Derived.Test.YtlleafjdgblhcaaGreatDoorQDeskRunOwn9
import Derived.Test.YtlleafjdgblhcaaGreatDoorQDeskRunOwn26
import Derived.Test.YtlleafjdgblhcaaGreatDoorQDeskRunOwn24
import Derived.Test.YtlleafjdgblhcaaGreatDoorQDeskRunOwn23
namespace Go.Proofs.YtlleafjdgblhcaaGreatDoor
set_option linter.unusedVariables false
set_option linter.unusedSimpArgs false
set_option maxRecDepth 100000
set_option maxHeartbeats 8000000
section
open Go.RowKit Go.Sort
theorem ro (L : List St) (lim mode A B C D coast fr : Int) (ad : Option Addr) (c : Nat) (p : Addr) (w : World) (hn : L.length ≤ 1048576) (hcap : L.length ≤ c) (hc9 : c ≤ 9223372036854775807) (hE : bu p w) (hS : aR w ad L L.length) :
  Calls Tryz.prog 106 #[.agg #[.slice ad L.length c, .int .i64 lim, .int .i64 mode, .int .i64 A, .int .i64 B, .int .i64 C, .int .i64 D, .int .i64 coast, .int .i64 fr]] w fun e w' => ol w' w.heap.size (dT ⟨L, lim, mode, A, B, C, D, coast, fr⟩) (gh ⟨L, lim, mode, A, B, C, D, coast, fr⟩) e ∧ Below w.heap.size w w' := by
 have B0 := aO w (.cells #[.slice ad L.length c, .int .i64 lim, .int .i64 mode, .int .i64 A, .int .i64 B, .int .i64 C, .int .i64 D, .int .i64 coast, .int .i64 fr] 34) (.cells #[.slice none 0 0, .int .i64 0, .int .i64 0, .int .i64 0, .int .i64 0, .int .i64 0, .int .i64 0, .int .i64 0, .int .i64 0, .int .i64 0] 36)
 have T0 := (dy w (.slice ad L.length c) lim mode A B C D coast fr 34).kept (an _ (.cells #[.slice none 0 0, .int .i64 0, .int .i64 0, .int .i64 0, .int .i64 0, .int .i64 0, .int .i64 0, .int .i64 0, .int .i64 0, .int .i64 0] 36))
 have R0 := (by simpa using kJ (w.alloc (.cells #[.slice ad L.length c, .int .i64 lim, .int .i64 mode, .int .i64 A, .int .i64 B, .int .i64 C, .int .i64 D, .int .i64 coast, .int .i64 fr] 34)) (.slice none 0 0) 0 0 0 0 0 0 0 0 0 36 : TkO ((w.alloc (.cells #[.slice ad L.length c, .int .i64 lim, .int .i64 mode, .int .i64 A, .int .i64 B, .int .i64 C, .int .i64 D, .int .i64 coast, .int .i64 fr] 34)).alloc (.cells #[.slice none 0 0, .int .i64 0, .int .i64 0, .int .i64 0, .int .i64 0, .int .i64 0, .int .i64 0, .int .i64 0, .int .i64 0, .int .i64 0] 36)) (w.heap.size + 1) (.slice none 0 0) 0 0 0 0 0 0 0 0 0)
 have G0 := (by simpa using du (w.alloc (.cells #[.slice ad L.length c, .int .i64 lim, .int .i64 mode, .int .i64 A, .int .i64 B, .int .i64 C, .int .i64 D, .int .i64 coast, .int .i64 fr] 34)) #[.slice none 0 0, .int .i64 0, .int .i64 0, .int .i64 0, .int .i64 0, .int .i64 0, .int .i64 0, .int .i64 0, .int .i64 0, .int .i64 0] 36 : fF ((w.alloc (.cells #[.slice ad L.length c, .int .i64 lim, .int .i64 mode, .int .i64 A, .int .i64 B, .int .i64 C, .int .i64 D, .int .i64 coast, .int .i64 fr] 34)).alloc (.cells #[.slice none 0 0, .int .i64 0, .int .i64 0, .int .i64 0, .int .i64 0, .int .i64 0, .int .i64 0, .int .i64 0, .int .i64 0, .int .i64 0] 36)) (w.heap.size + 1))
 have hsz : w.heap.size + 2 ≤ ((w.alloc (.cells #[.slice ad L.length c, .int .i64 lim, .int .i64 mode, .int .i64 A, .int .i64 B, .int .i64 C, .int .i64 D, .int .i64 coast, .int .i64 fr] 34)).alloc (.cells #[.slice none 0 0, .int .i64 0, .int .i64 0, .int .i64 0, .int .i64 0, .int .i64 0, .int .i64 0, .int .i64 0, .int .i64 0, .int .i64 0] 36)).heap.size := by simp
 have S0 := hS.kept B0
 have cR := yz (gk L lim mode A B C D coast fr ad c p _ hn hcap hc9 S0 (hE.kept B0))
 have cC := yz (fun W h => jr L lim mode A B C D coast fr ad c W hn h)
 have HB := yz B0
 have HT := yz T0
 have HR := yz R0
 have HG := yz G0
 have HS := yz S0
 clear B0 T0 R0 G0 S0 hS
 go_enter Tryz.func106, Tryz.ntmps106
 go_wp2_with fail
 generalize (w.alloc (.cells #[.slice ad L.length c, .int .i64 lim, .int .i64 mode, .int .i64 A, .int .i64 B, .int .i64 C, .int .i64 D, .int .i64 coast, .int .i64 fr] 34)).alloc (.cells #[.slice none 0 0, .int .i64 0, .int .i64 0, .int .i64 0, .int .i64 0, .int .i64 0, .int .i64 0, .int .i64 0, .int .i64 0, .int .i64 0] 36) = W at *
 refine (yy cR).mono ?_
 rintro e w1 ⟨rfl, hx⟩
 have B1 := yz (ak (yy HB) hx)
 have T1 := yz ((yy HT).kept hx)
 have R1 := yz ((yy HR).kept hx)
 have G1 := yz ((yy HG).kept (yy HR).lt hx)
 have S1 := yz ((yy HS).kept hx)
 have hsz1 : w.heap.size + 2 ≤ w1.heap.size := Nat.le_trans hsz hx.size
 clear hx HB HT HR HG HS hsz cR
 cases hk : aD ⟨L, lim, mode, A, B, C, D, coast, fr⟩
 ·have HO1 : Hid (dT ⟨L, lim, mode, A, B, C, D, coast, fr⟩ = eY) := yz (by unfold dT; rw [hk]; rfl)
  have HO2 : Hid (gh ⟨L, lim, mode, A, B, C, D, coast, fr⟩ = 1) := yz (by unfold gh; rw [hk]; rfl)
  have B2 := B1
  have R2 := R1
  have G2 := G1
  clear B1 R1 G1
  obtain ⟨⟨r0, r1, r2, r3, r4, r5, r6, r7, r8⟩, r9⟩ := yy R2
  have g0 := yy G2 0
  have g1 := yy G2 1
  have g2 := yy G2 2
  have g3 := yy G2 3
  have g4 := yy G2 4
  have g5 := yy G2 5
  have g6 := yy G2 6
  have g7 := yy G2 7
  have g8 := yy G2 8
  have g9 := yy G2 9
  go_wp2_with fail
  clear r0 r1 r2 r3 r4 r5 r6 r7 r8 r9 g0 g1 g2 g3 g4 g5 g6 g7 g8 g9
  refine bodyPost_ret (v := .agg #[.slice none 0 0, .int .i64 0, .int .i64 0, .int .i64 0, .int .i64 0, .int .i64 0, .int .i64 0, .int .i64 0, .int .i64 0, .int .i64 1]) ?_ rfl ⟨?_, ?_⟩
  ·refine pj _ _ (w.heap.size + 1) _ 0 0 0 0 0 0 0 0 1 rfl ?_
   exact bA (yy R2) _ _ _ _ _ _ _ _ _ _
  ·rw [yy HO1, yy HO2]
   exact bU _ _ _
  ·iterate 10 (refine aC ?_ (show w.heap.size ≤ w.heap.size + 1 by omega) _ _)
   exact yy B2
 ·have HO1 : Hid (dT ⟨L, lim, mode, A, B, C, D, coast, fr⟩ = ⟨L, lim, 0, 0, 0, 0, 0, 0, fr⟩) := yz (by unfold dT; rw [hk]; rfl)
  have HO2 : Hid (gh ⟨L, lim, mode, A, B, C, D, coast, fr⟩ = 0) := yz (by unfold gh; rw [hk]; rfl)
  clear hk
  obtain ⟨s0, s1, s2, s3, s4, s5, s6, s7, s8⟩ := yy T1
  go_wp2_with fail
  clear s0 s1 s2 s3 s4 s5 s6 s7 s8
  refine (yy cC _ (yy S1)).mono ?_
  rintro e w2 ⟨a, cap, rfl, hC, hx⟩
  have B2 := yz (ak (yy B1) hx)
  have R2 := yz ((yy R1).kept hx)
  have G2 := yz ((yy G1).kept (yy R1).lt hx)
  have C2 := yz (hC.low (B' := w.heap.size + 2) (by omega))
  clear hx hC B1 R1 G1 T1 S1 cC
  go_wp2_with fail
  refine (kH lim mode A B C D coast fr a L.length cap _).mono ?_
  rintro e w2b ⟨rfl, hx⟩
  have B2b := yz (ak (yy B2) hx)
  have R2b := yz ((yy R2).kept hx)
  have G2b := yz ((yy G2).kept (yy R2).lt hx)
  have C2b := yz ((yy C2).kept hx)
  clear hx B2 R2 G2 C2
  go_wp2_with fail
  refine (mI lim 0 0 0 0 0 0 fr a L.length cap _).mono ?_
  rintro e w3 ⟨rfl, hx⟩
  have B3 := yz (ak (yy B2b) hx)
  have R3 := yz ((yy R2b).kept hx)
  have G3 := yz ((yy G2b).kept (yy R2b).lt hx)
  have C3 := yz ((yy C2b).kept hx)
  clear hx B2b R2b G2b C2b
  obtain ⟨⟨r0, r1, r2, r3, r4, r5, r6, r7, r8⟩, r9⟩ := yy R3
  have g0 := yy G3 0
  have g1 := yy G3 1
  have g2 := yy G3 2
  have g3 := yy G3 3
  have g4 := yy G3 4
  have g5 := yy G3 5
  have g6 := yy G3 6
  have g7 := yy G3 7
  have g8 := yy G3 8
  have g9 := yy G3 9
  go_wp2_with fail
  clear r0 r1 r2 r3 r4 r5 r6 r7 r8 r9 g0 g1 g2 g3 g4 g5 g6 g7 g8 g9
  refine bodyPost_ret (v := .agg #[.slice a L.length cap, .int .i64 lim, .int .i64 0, .int .i64 0, .int .i64 0, .int .i64 0, .int .i64 0, .int .i64 0, .int .i64 fr, .int .i64 0]) ?_ rfl ⟨?_, ?_⟩
  ·refine pj _ _ (w.heap.size + 1) _ lim 0 0 0 0 0 0 fr 0 rfl ?_
   exact bA (yy R3) _ _ _ _ _ _ _ _ _ _
  ·rw [yy HO1, yy HO2]
   refine ⟨a, cap, rfl, ?_⟩
   refine az.low (B := w.heap.size + 2) ?_ (by omega)
   iterate 10 (refine az.far ?_ (show w.heap.size + 1 < w.heap.size + 2 by omega) _ _)
   exact yy C3
  ·iterate 10 (refine aC ?_ (show w.heap.size ≤ w.heap.size + 1 by omega) _ _)
   exact yy B3
end
section
open Go.RowKit
def rp (w : World) : Prop := ∃ m : Int, w.cell? ⟨0, 0, none⟩ = some (.int .i64 m)
theorem rp.kept {w w' : World} (h : rp w) (hB : Below w.heap.size w w') : rp w' := by
 obtain ⟨m, hm⟩ := h
 exact ⟨m, eD hm hB⟩
theorem qt (s : ByteArray) (c : UInt8) : Lib.splitB ⟨#[c]⟩ 0 (Lib.countB s ⟨#[c]⟩) s = (pcs c s.data.toList).map (fun l => (⟨l.toArray⟩ : ByteArray)) := by
 have h := Lib.splitB_data ⟨#[c]⟩ 0 (Lib.countB s ⟨#[c]⟩) s
 have e : Lib.splitK (⟨#[c]⟩ : ByteArray).data.toList 0 (Lib.countB s ⟨#[c]⟩) s.data.toList = pcs c s.data.toList := sl c s.data.toList.length s.data.toList (Nat.le_refl _)
 rw [e] at h
 rw [← h, List.map_map]
 conv => lhs; rw [← List.map_id (Lib.splitB ⟨#[c]⟩ 0 (Lib.countB s ⟨#[c]⟩) s)]
 apply List.map_congr_left
 intro x _
 apply ByteArray.ext
 simp
theorem Ab (s : ByteArray) (c : UInt8) (w : World) (hs : s.size ≤ 8000) (hm : rp w) :
  Calls Tryz.prog 51 #[.string s, .string ⟨#[c]⟩] w fun e w' => e = .returned (.slice (some ⟨w.heap.size, 0, none⟩) (pcs c s.data.toList).length (pcs c s.data.toList).length) ∧ w' = w.alloc (.cells ((pcs c s.data.toList).map bW).toArray 9) := by
 obtain ⟨m, hm⟩ := hm
 refine (Any.strings_Split { AU with } (by kernel_rfl) s ⟨#[c]⟩ m w (by omega) hm (by show 1 ≤ 1; omega)).mono ?_
 rintro e w' ⟨rfl, rfl⟩
 have hl : (Lib.splitB ⟨#[c]⟩ 0 (Lib.countB s ⟨#[c]⟩) s).length = Lib.countB s ⟨#[c]⟩ + 1 := Lib.splitB_all ⟨#[c]⟩ (by show 1 ≤ 1; omega) 0 _ s rfl
 rw [qt, List.length_map] at hl
 rw [← hl, qt, List.map_map]
 exact ⟨rfl, rfl⟩
theorem Da (s : ByteArray) (c : UInt8) (w : World) (hs : s.size ≤ 8000) (hm : rp w) :
  Calls Tryz.prog 27 #[.string s, .string ⟨#[c]⟩] w fun e w' => e = .returned (.tuple #[bW (Lib.cut s.data.toList [c]).1, bW (Lib.cut s.data.toList [c]).2.1, .bool (Lib.cut s.data.toList [c]).2.2]) ∧ Below w.heap.size w w' := by
 obtain ⟨m, hm⟩ := hm
 refine (Any.strings_Cut { vN with } s ⟨#[c]⟩ m w (by omega) hm).mono ?_
 rintro e w' ⟨rfl, n, rfl⟩
 exact ⟨rfl, rfl, rfl, rfl, Nat.le_refl _, fun _ _ => rfl⟩
def qj (w : World) (a : Option Addr) (R : List (List UInt8)) : Prop := R = [] ∨ ∃ g o, a = some ⟨g, o, none⟩ ∧ g < w.heap.size ∧ ∀ (j : Nat) x, R[j]? = some x → w.cell? ⟨g, o + j, none⟩ = some (bW x)
def gj (o : Option Ln) (e : Ending) : Prop := (∃ l, o = some l ∧ e = .returned (.tuple #[.agg #[bW l.t, .int .i64 l.n], .bool true])) ∨ (o = none ∧ ∃ t n, e = .returned (.tuple #[.agg #[.string t, .int .i64 n], .bool false]))
theorem gV (t : ByteArray) (n : Int) : gj none (.returned (.tuple #[.agg #[.string t, .int .i64 n], .bool false])) := .inr ⟨rfl, t, n, rfl⟩
theorem km (l : Ln) : gj (some l) (.returned (.tuple #[.agg #[bW l.t, .int .i64 l.n], .bool true])) := .inl ⟨l, rfl, rfl⟩
theorem gA (k : Nat) (R : List (List UInt8)) (a : Option Addr) (c : Nat) (w : World) :
  Calls Tryz.prog 71 #[.slice a R.length c] w fun e w' => gj (gw k R) e ∧ Below w.heap.size w w' := by
 cases R with
 | nil =>
  go_enter Tryz.func71, Tryz.ntmps71
  go_wp2
  exact bodyPost_ret (v := .tuple #[.agg #[.string ⟨#[]⟩, .int .i64 0], .bool true]) (by simp [results, Tryz.results71, go_sem]) rfl ⟨km ⟨k, [], 0⟩, an _ _⟩
 | cons x xs =>
  obtain ⟨m, hm⟩ : ∃ m, (x :: xs).length = m := ⟨_, rfl⟩
  have hm1 : 1 ≤ m := by rw [← hm]; simp
  have hb : ((m : Int) == 0) = false := by simpa using (show (m : Int) ≠ 0 by omega)
  have HT : Hid (gw k (x :: xs) = none) := yz rfl
  rw [hm]
  clear hm
  go_enter Tryz.func71, Tryz.ntmps71
  go_wp2
  exact bodyPost_ret (v := .tuple #[.agg #[.string ⟨#[]⟩, .int .i64 0], .bool false]) (by simp [results, Tryz.results71, go_sem]) rfl ⟨by rw [yy HT]; exact gV _ _, an _ _⟩
theorem vY {w : World} {a : Option Addr} {y : List UInt8} (h : qj w a [y]) : ∃ g o, a = some ⟨g, o, none⟩ ∧ g < w.heap.size ∧ w.cell? ⟨g, o, none⟩ = some (bW y) := by
 rcases h with h | ⟨g, o, e, hg, hc⟩
 ·cases h
 ·exact ⟨g, o, e, hg, hc 0 y rfl⟩
theorem CA {R : List (List UInt8)} (h : R.length ≠ 1) (k : Nat) : hF k R = none ∧ iH k R = none := by
 match R, h with
 | [], _ => exact ⟨rfl, rfl⟩
 | x :: y :: r, _ => exact ⟨rfl, rfl⟩
theorem mA (k : Nat) (R : List (List UInt8)) (a : Option Addr) (c : Nat) (w : World) (hR : qj w a R) :
  Calls Tryz.prog 73 #[.slice a R.length c] w fun e w' => gj (hF k R) e ∧ Below w.heap.size w w' := by
 by_cases h1 : R.length = 1
 ·obtain ⟨y, rfl⟩ : ∃ y, R = [y] := by
   match R, h1 with
   | [y], _ => exact ⟨y, rfl⟩
  obtain ⟨g, o, rfl, hg, hc⟩ := vY hR
  have hc2 := eD hc (an w (.cells #[.string ⟨#[]⟩, .int .i64 0] 77))
  unfold bW at hc2
  obtain ⟨yb, hyb⟩ : ∃ yb : ByteArray, (⟨y.toArray⟩ : ByteArray) = yb := ⟨_, rfl⟩
  rw [hyb] at hc2
  have HY := yz hyb
  clear hyb hc hR h1
  have hB := yz (an w (.cells #[.string ⟨#[]⟩, .int .i64 0] 77))
  have R0 := yz (ap w [.string ⟨#[]⟩, .int .i64 0] 77)
  have r0 := (yy R0).cell 0 _ rfl
  have r1 := (yy R0).cell 1 _ rfl
  have f0 := (yy R0).free 0
  have f1 := (yy R0).free 1
  have hne : g ≠ w.heap.size := by omega
  by_cases hz : y = []
  ·have he : (yb.toList == []) = true := oO (l := []) (by rw [← yy HY, hz])
   have HT : Hid (hF k [y] = none) := yz (by show (if y = [] then none else some (⟨k, y, 0⟩ : Ln)) = none; rw [if_pos hz])
   go_enter Tryz.func73, Tryz.ntmps73
   go_upto_region 3 with fail
   generalize w.alloc (.cells #[.string ⟨#[]⟩, .int .i64 0] 77) = W1 at *
   go_region
   all_goals
    go_wp2
    refine bodyPost_ret (v := .tuple #[.agg #[.string yb, .int .i64 0], .bool false]) ?_ rfl ⟨by rw [yy HT]; exact gV _ _, ?_⟩
    ·simp [results, Tryz.results73, go_sem, r0, r1]
    ·refine Below.drew ?_
     iterate 2 (refine Below.setCell ?_ (Nat.le_refl w.heap.size) _)
     exact yy hB
  ·have he : (yb.toList == []) = false := fe (l := []) (fun e => hz (by rw [← yy HY] at e; have := congrArg (fun b : ByteArray => b.data.toList) e; simpa using this))
   have HT : Hid (gj (hF k [y]) (.returned (.tuple #[.agg #[.string yb, .int .i64 0], .bool true]))) := yz (by show gj (if y = [] then none else some (⟨k, y, 0⟩ : Ln)) _; rw [if_neg hz, ← yy HY]; exact km ⟨k, y, 0⟩)
   go_enter Tryz.func73, Tryz.ntmps73
   go_upto_region 3 with fail
   generalize w.alloc (.cells #[.string ⟨#[]⟩, .int .i64 0] 77) = W1 at *
   go_region
   all_goals
    go_wp2
    refine bodyPost_ret (v := .tuple #[.agg #[.string yb, .int .i64 0], .bool true]) ?_ rfl ⟨yy HT, ?_⟩
    ·simp [results, Tryz.results73, go_sem, r0, r1]
    ·refine Below.drew ?_
     iterate 2 (refine Below.setCell ?_ (Nat.le_refl w.heap.size) _)
     exact yy hB
 ·have HT := yz (CA h1 k).1
  obtain ⟨m, hm⟩ : ∃ m, R.length = m := ⟨_, rfl⟩
  rw [hm] at h1 ⊢
  have hb : ((m : Int) == 1) = false := by simpa using (show (m : Int) ≠ 1 by omega)
  clear hm hR
  go_enter Tryz.func73, Tryz.ntmps73
  go_wp2
  exact bodyPost_ret (v := .tuple #[.agg #[.string ⟨#[]⟩, .int .i64 0], .bool false]) (by simp [results, Tryz.results73, go_sem]) rfl ⟨by rw [yy HT]; exact gV _ _, an _ _⟩
theorem kt (k : Nat) (R : List (List UInt8)) (a : Option Addr) (c : Nat) (w : World) (hR : qj w a R) (hz : ∀ x ∈ R, x.length ≤ 8000) :
  Calls Tryz.prog 75 #[.slice a R.length c] w fun e w' => gj (iH k R) e ∧ Below w.heap.size w w' := by
 by_cases h1 : R.length = 1
 ·obtain ⟨y, rfl⟩ : ∃ y, R = [y] := by
   match R, h1 with
   | [y], _ => exact ⟨y, rfl⟩
  obtain ⟨g, o, rfl, hg, hc⟩ := vY hR
  have hyl := hz y (by simp)
  have hc2 := eD hc (an w (.cells #[.string ⟨#[]⟩, .int .i64 0] 77))
  unfold bW at hc2
  obtain ⟨yb, hyb⟩ : ∃ yb : ByteArray, (⟨y.toArray⟩ : ByteArray) = yb := ⟨_, rfl⟩
  rw [hyb] at hc2
  have hys : yb.size ≤ 8000 := by rw [← hyb]; show y.toArray.size ≤ 8000; simpa using hyl
  have cN := yz (fun W => qR yb W hys)
  rw [show yb.data.toList = y by rw [← hyb]] at cN
  clear hyb hc hR h1 hz
  have HT : Hid (iH k [y] = if fq y = true then some ⟨k, [], jg y⟩ else none) := yz rfl
  have hB := yz (an w (.cells #[.string ⟨#[]⟩, .int .i64 0] 77))
  have R0 := yz (ap w [.string ⟨#[]⟩, .int .i64 0] 77)
  generalize jg y = vy at *
  cases hq : fq y
  all_goals
   rw [hq] at cN HT
   go_enter Tryz.func75, Tryz.ntmps75
   go_wp2_with fail
   refine (yy cN _).mono ?_
   rintro e W3 ⟨rfl, hw3⟩
   rw [hw3]
   clear hw3 W3
   have r0 := (yy R0).cell 0 _ rfl
   have r1 := (yy R0).cell 1 _ rfl
   have f0 := (yy R0).free 0
   have f1 := (yy R0).free 1
   generalize w.alloc (.cells #[.string ⟨#[]⟩, .int .i64 0] 77) = W1 at *
   go_wp2
  ·refine bodyPost_ret (v := .tuple #[.agg #[.string ⟨#[]⟩, .int .i64 0], .bool false]) ?_ rfl ⟨by rw [yy HT]; exact gV _ _, ?_⟩
   ·simp [results, Tryz.results75, go_sem, r0, r1]
   ·iterate 2 (refine Below.setCell ?_ (Nat.le_refl w.heap.size) _)
    exact yy hB
  ·refine bodyPost_ret (v := .tuple #[.agg #[.string ⟨#[]⟩, .int .i64 vy], .bool true]) ?_ rfl ⟨by rw [yy HT, if_pos (by first | rfl | trivial)]; exact km ⟨k, [], vy⟩, ?_⟩
   ·simp [results, Tryz.results75, go_sem, r0, r1]
   ·iterate 2 (refine Below.setCell ?_ (Nat.le_refl w.heap.size) _)
    exact yy hB
 ·have HT := yz (CA h1 k).2
  obtain ⟨m, hm⟩ : ∃ m, R.length = m := ⟨_, rfl⟩
  rw [hm] at h1 ⊢
  have hb : ((m : Int) == 1) = false := by simpa using (show (m : Int) ≠ 1 by omega)
  clear hm hR hz
  go_enter Tryz.func75, Tryz.ntmps75
  go_wp2
  exact bodyPost_ret (v := .tuple #[.agg #[.string ⟨#[]⟩, .int .i64 0], .bool false]) (by simp [results, Tryz.results75, go_sem]) rfl ⟨by rw [yy HT]; exact gV _ _, an _ _⟩
end
end Go.Proofs.YtlleafjdgblhcaaGreatDoor
