/- Several texts in one: DsD, DsE. -/
import Derived.Deep.RegionHeld
import Derived.Test.YtofpjlhoppofdaaGreatDoorQDeskFaultOwn14
import Derived.Test.YtofpjlhoppofdaaGreatDoorQDeskFaultOwn13
namespace Go.Proofs.YtofpjlhoppofdaaGreatDoor
open Go.RowKit
set_option linter.unusedVariables false
set_option linter.unusedSimpArgs false
def MaxL (w : World) : Prop := ∃ m : Int, w.cell? ⟨0, 0, none⟩ = some (.int .i64 m)
theorem MaxL.kept {w w' : World} (h : MaxL w) (hB : Below w.heap.size w w') : MaxL w' := by
  obtain ⟨m, hm⟩ := h
  exact ⟨m, cellD hm hB⟩
theorem split_list (s : ByteArray) (c : UInt8) : Lib.splitB ⟨#[c]⟩ 0 (Lib.countB s ⟨#[c]⟩) s = (pcs c s.data.toList).map (fun l => (⟨l.toArray⟩ : ByteArray)) := by
  have h := Lib.splitB_data ⟨#[c]⟩ 0 (Lib.countB s ⟨#[c]⟩) s
  have e : Lib.splitK (⟨#[c]⟩ : ByteArray).data.toList 0 (Lib.countB s ⟨#[c]⟩) s.data.toList = pcs c s.data.toList := split_pcs c s.data.toList.length s.data.toList (Nat.le_refl _)
  rw [e] at h
  rw [← h, List.map_map]
  conv => lhs; rw [← List.map_id (Lib.splitB ⟨#[c]⟩ 0 (Lib.countB s ⟨#[c]⟩) s)]
  apply List.map_congr_left
  intro x _
  apply ByteArray.ext
  simp
theorem split_any (s : ByteArray) (c : UInt8) (w : World) (hs : s.size ≤ 8000) (hm : MaxL w) :
    Calls Tryz.prog 47 #[.string s, .string ⟨#[c]⟩] w fun e w' => e = .returned (.slice (some ⟨w.heap.size, 0, none⟩) (pcs c s.data.toList).length (pcs c s.data.toList).length) ∧ w' = w.alloc (.cells ((pcs c s.data.toList).map strB).toArray 9) := by
  obtain ⟨m, hm⟩ := hm
  refine (Any.strings_Split { laysM146 with } (by kernel_rfl) s ⟨#[c]⟩ m w (by omega) hm (by show 1 ≤ 1; omega)).mono ?_
  rintro e w' ⟨rfl, rfl⟩
  have hl : (Lib.splitB ⟨#[c]⟩ 0 (Lib.countB s ⟨#[c]⟩) s).length = Lib.countB s ⟨#[c]⟩ + 1 := Lib.splitB_all ⟨#[c]⟩ (by show 1 ≤ 1; omega) 0 _ s rfl
  rw [split_list, List.length_map] at hl
  rw [← hl, split_list, List.map_map]
  exact ⟨rfl, rfl⟩
theorem cut_any (s : ByteArray) (c : UInt8) (w : World) (hs : s.size ≤ 8000) (hm : MaxL w) :
    Calls Tryz.prog 22 #[.string s, .string ⟨#[c]⟩] w fun e w' => e = .returned (.tuple #[strB (Lib.cut s.data.toList [c]).1, strB (Lib.cut s.data.toList [c]).2.1, .bool (Lib.cut s.data.toList [c]).2.2]) ∧ Below w.heap.size w w' := by
  obtain ⟨m, hm⟩ := hm
  refine (Any.strings_Cut { laysM145 with } s ⟨#[c]⟩ m w (by omega) hm).mono ?_
  rintro e w' ⟨rfl, n, rfl⟩
  exact ⟨rfl, rfl, rfl, rfl, Nat.le_refl _, fun _ _ => rfl⟩
def RestAt (w : World) (a : Option Addr) (R : List (List UInt8)) : Prop := R = [] ∨ ∃ g o, a = some ⟨g, o, none⟩ ∧ g < w.heap.size ∧ ∀ (j : Nat) x, R[j]? = some x → w.cell? ⟨g, o + j, none⟩ = some (strB x)
def TakeEnd (o : Option Ln) (e : Ending) : Prop := (∃ l, o = some l ∧ e = .returned (.tuple #[.agg #[strB l.t, .int .i64 l.n], .bool true])) ∨ (o = none ∧ ∃ t n, e = .returned (.tuple #[.agg #[.string t, .int .i64 n], .bool false]))
theorem takeEnd_no (t : ByteArray) (n : Int) : TakeEnd none (.returned (.tuple #[.agg #[.string t, .int .i64 n], .bool false])) := .inr ⟨rfl, t, n, rfl⟩
theorem takeEnd_yes (l : Ln) : TakeEnd (some l) (.returned (.tuple #[.agg #[strB l.t, .int .i64 l.n], .bool true])) := .inl ⟨l, rfl, rfl⟩
set_option maxRecDepth 100000 in
theorem takeNothing_any (k : Nat) (R : List (List UInt8)) (a : Option Addr) (c : Nat) (w : World) :
    Calls Tryz.prog 24 #[.slice a R.length c] w fun e w' => TakeEnd (take0 k R) e ∧ Below w.heap.size w w' := by
  cases R with
  | nil =>
    go_enter Tryz.func24, Tryz.ntmps24
    go_wp2
    exact bodyPost_ret (v := .tuple #[.agg #[.string ⟨#[]⟩, .int .i64 0], .bool true]) (by simp [results, Tryz.results24, go_sem]) rfl ⟨takeEnd_yes ⟨k, [], 0⟩, below1 _ _⟩
  | cons x xs =>
    obtain ⟨m, hm⟩ : ∃ m, (x :: xs).length = m := ⟨_, rfl⟩
    have hm1 : 1 ≤ m := by rw [← hm]; simp
    have hb : ((m : Int) == 0) = false := by simpa using (show (m : Int) ≠ 0 by omega)
    have HT : Hid (take0 k (x :: xs) = none) := yz rfl
    rw [hm]
    clear hm
    go_enter Tryz.func24, Tryz.ntmps24
    go_wp2
    exact bodyPost_ret (v := .tuple #[.agg #[.string ⟨#[]⟩, .int .i64 0], .bool false]) (by simp [results, Tryz.results24, go_sem]) rfl ⟨by rw [yy HT]; exact takeEnd_no _ _, below1 _ _⟩
theorem rest_one {w : World} {a : Option Addr} {y : List UInt8} (h : RestAt w a [y]) : ∃ g o, a = some ⟨g, o, none⟩ ∧ g < w.heap.size ∧ w.cell? ⟨g, o, none⟩ = some (strB y) := by
  rcases h with h | ⟨g, o, e, hg, hc⟩
  · cases h
  · exact ⟨g, o, e, hg, hc 0 y rfl⟩
theorem one_or {R : List (List UInt8)} (h : R.length ≠ 1) (k : Nat) : takeT k R = none ∧ takeN k R = none := by
  match R, h with
  | [], _ => exact ⟨rfl, rfl⟩
  | x :: y :: r, _ => exact ⟨rfl, rfl⟩
set_option maxRecDepth 100000 in
set_option maxHeartbeats 1000000 in
theorem takeText_any (k : Nat) (R : List (List UInt8)) (a : Option Addr) (c : Nat) (w : World) (hR : RestAt w a R) :
    Calls Tryz.prog 26 #[.slice a R.length c] w fun e w' => TakeEnd (takeT k R) e ∧ Below w.heap.size w w' := by
  by_cases h1 : R.length = 1
  · obtain ⟨y, rfl⟩ : ∃ y, R = [y] := by
      match R, h1 with
      | [y], _ => exact ⟨y, rfl⟩
    obtain ⟨g, o, rfl, hg, hc⟩ := rest_one hR
    have hc2 := cellD hc (below1 w (.cells #[.string ⟨#[]⟩, .int .i64 0] 64))
    unfold strB at hc2
    obtain ⟨yb, hyb⟩ : ∃ yb : ByteArray, (⟨y.toArray⟩ : ByteArray) = yb := ⟨_, rfl⟩
    rw [hyb] at hc2
    have HY := yz hyb
    clear hyb hc hR h1
    have hB := yz (below1 w (.cells #[.string ⟨#[]⟩, .int .i64 0] 64))
    have R0 := yz (blk_new w [.string ⟨#[]⟩, .int .i64 0] 64)
    have r0 := (yy R0).cell 0 _ rfl
    have r1 := (yy R0).cell 1 _ rfl
    have f0 := (yy R0).free 0
    have f1 := (yy R0).free 1
    have hne : g ≠ w.heap.size := by omega
    by_cases hz : y = []
    · have he : (yb.toList == []) = true := strL_eq (l := []) (by rw [← yy HY, hz])
      have HT : Hid (takeT k [y] = none) := yz (by show (if y = [] then none else some (⟨k, y, 0⟩ : Ln)) = none; rw [if_pos hz])
      go_enter Tryz.func26, Tryz.ntmps26
      go_upto_region 3 with fail
      generalize w.alloc (.cells #[.string ⟨#[]⟩, .int .i64 0] 64) = W1 at *
      go_region
      all_goals
        go_wp2
        refine bodyPost_ret (v := .tuple #[.agg #[.string yb, .int .i64 0], .bool false]) ?_ rfl ⟨by rw [yy HT]; exact takeEnd_no _ _, ?_⟩
        · simp [results, Tryz.results26, go_sem, r0, r1]
        · refine Below.drew ?_
          iterate 2 (refine Below.setCell ?_ (Nat.le_refl w.heap.size) _)
          exact yy hB
    · have he : (yb.toList == []) = false := strL_ne (l := []) (fun e => hz (by rw [← yy HY] at e; have := congrArg (fun b : ByteArray => b.data.toList) e; simpa using this))
      have HT : Hid (TakeEnd (takeT k [y]) (.returned (.tuple #[.agg #[.string yb, .int .i64 0], .bool true]))) := yz (by show TakeEnd (if y = [] then none else some (⟨k, y, 0⟩ : Ln)) _; rw [if_neg hz, ← yy HY]; exact takeEnd_yes ⟨k, y, 0⟩)
      go_enter Tryz.func26, Tryz.ntmps26
      go_upto_region 3 with fail
      generalize w.alloc (.cells #[.string ⟨#[]⟩, .int .i64 0] 64) = W1 at *
      go_region
      all_goals
        go_wp2
        refine bodyPost_ret (v := .tuple #[.agg #[.string yb, .int .i64 0], .bool true]) ?_ rfl ⟨yy HT, ?_⟩
        · simp [results, Tryz.results26, go_sem, r0, r1]
        · refine Below.drew ?_
          iterate 2 (refine Below.setCell ?_ (Nat.le_refl w.heap.size) _)
          exact yy hB
  · have HT := yz (one_or h1 k).1
    obtain ⟨m, hm⟩ : ∃ m, R.length = m := ⟨_, rfl⟩
    rw [hm] at h1 ⊢
    have hb : ((m : Int) == 1) = false := by simpa using (show (m : Int) ≠ 1 by omega)
    clear hm hR
    go_enter Tryz.func26, Tryz.ntmps26
    go_wp2
    exact bodyPost_ret (v := .tuple #[.agg #[.string ⟨#[]⟩, .int .i64 0], .bool false]) (by simp [results, Tryz.results26, go_sem]) rfl ⟨by rw [yy HT]; exact takeEnd_no _ _, below1 _ _⟩
set_option maxRecDepth 100000 in
set_option maxHeartbeats 1000000 in
theorem takeNumber_any (k : Nat) (R : List (List UInt8)) (a : Option Addr) (c : Nat) (w : World) (hR : RestAt w a R) (hz : ∀ x ∈ R, x.length ≤ 8000) :
    Calls Tryz.prog 28 #[.slice a R.length c] w fun e w' => TakeEnd (takeN k R) e ∧ Below w.heap.size w w' := by
  by_cases h1 : R.length = 1
  · obtain ⟨y, rfl⟩ : ∃ y, R = [y] := by
      match R, h1 with
      | [y], _ => exact ⟨y, rfl⟩
    obtain ⟨g, o, rfl, hg, hc⟩ := rest_one hR
    have hyl := hz y (by simp)
    have hc2 := cellD hc (below1 w (.cells #[.string ⟨#[]⟩, .int .i64 0] 64))
    unfold strB at hc2
    obtain ⟨yb, hyb⟩ : ∃ yb : ByteArray, (⟨y.toArray⟩ : ByteArray) = yb := ⟨_, rfl⟩
    rw [hyb] at hc2
    have hys : yb.size ≤ 8000 := by rw [← hyb]; show y.toArray.size ≤ 8000; simpa using hyl
    have cN := yz (fun W => readCount_any yb W hys)
    rw [show yb.data.toList = y by rw [← hyb]] at cN
    clear hyb hc hR h1 hz
    have HT : Hid (takeN k [y] = if numOk y = true then some ⟨k, [], valD y⟩ else none) := yz rfl
    have hB := yz (below1 w (.cells #[.string ⟨#[]⟩, .int .i64 0] 64))
    have R0 := yz (blk_new w [.string ⟨#[]⟩, .int .i64 0] 64)
    generalize valD y = vy at *
    cases hq : numOk y
    all_goals
      rw [hq] at cN HT
      go_enter Tryz.func28, Tryz.ntmps28
      go_wp2_with fail
      refine (yy cN _).mono ?_
      rintro e W3 ⟨rfl, hw3⟩
      rw [hw3]
      clear hw3 W3
      have r0 := (yy R0).cell 0 _ rfl
      have r1 := (yy R0).cell 1 _ rfl
      have f0 := (yy R0).free 0
      have f1 := (yy R0).free 1
      generalize w.alloc (.cells #[.string ⟨#[]⟩, .int .i64 0] 64) = W1 at *
      go_wp2
    · refine bodyPost_ret (v := .tuple #[.agg #[.string ⟨#[]⟩, .int .i64 0], .bool false]) ?_ rfl ⟨by rw [yy HT]; exact takeEnd_no _ _, ?_⟩
      · simp [results, Tryz.results28, go_sem, r0, r1]
      · iterate 2 (refine Below.setCell ?_ (Nat.le_refl w.heap.size) _)
        exact yy hB
    · refine bodyPost_ret (v := .tuple #[.agg #[.string ⟨#[]⟩, .int .i64 vy], .bool true]) ?_ rfl ⟨by rw [yy HT, if_pos (by first | rfl | trivial)]; exact takeEnd_yes ⟨k, [], vy⟩, ?_⟩
      · simp [results, Tryz.results28, go_sem, r0, r1]
      · iterate 2 (refine Below.setCell ?_ (Nat.le_refl w.heap.size) _)
        exact yy hB
  · have HT := yz (one_or h1 k).2
    obtain ⟨m, hm⟩ : ∃ m, R.length = m := ⟨_, rfl⟩
    rw [hm] at h1 ⊢
    have hb : ((m : Int) == 1) = false := by simpa using (show (m : Int) ≠ 1 by omega)
    clear hm hR hz
    go_enter Tryz.func28, Tryz.ntmps28
    go_wp2
    exact bodyPost_ret (v := .tuple #[.agg #[.string ⟨#[]⟩, .int .i64 0], .bool false]) (by simp [results, Tryz.results28, go_sem]) rfl ⟨by rw [yy HT]; exact takeEnd_no _ _, below1 _ _⟩
def takeK (k : Nat) (R : List (List UInt8)) : Option Ln := match k with
  | 0 => take0 0 R
  | 1 => takeT 1 R
  | 2 => takeN 2 R
  | 3 => takeT 3 R
  | 4 => take0 4 R
  | 5 => takeN 5 R
  | _ => take0 6 R
def doesF : Nat → Nat
  | 0 => 25
  | 1 => 27
  | 2 => 29
  | 3 => 30
  | 4 => 31
  | 5 => 32
  | _ => 33
theorem seven {k : Nat} (h : k < 7) : k = 0 ∨ k = 1 ∨ k = 2 ∨ k = 3 ∨ k = 4 ∨ k = 5 ∨ k = 6 := by omega
theorem line_at {s p0 : List UInt8} {r : List (List UInt8)} {k : Nat} (hp : pcs 32 s = p0 :: r) (hk : k < 7) (h : p0 = wordK k) : lineP s = takeK k r := by
  rw [lineP_eq hp]
  subst h
  rcases seven hk with rfl | rfl | rfl | rfl | rfl | rfl | rfl <;> rfl
theorem line_no {s p0 : List UInt8} {r : List (List UInt8)} (hp : pcs 32 s = p0 :: r) (h : ∀ k, k < 7 → p0 ≠ wordK k) : lineP s = none := by
  rw [lineP_eq hp, if_neg (show p0 ≠ wBlind from h 0 (by omega)), if_neg (show p0 ≠ wDrift from h 1 (by omega)), if_neg (show p0 ≠ wIds from h 2 (by omega)), if_neg (show p0 ≠ wMove from h 3 (by omega)), if_neg (show p0 ≠ wReset from h 4 (by omega)), if_neg (show p0 ≠ wSee from h 5 (by omega)), if_neg (show p0 ≠ wState from h 6 (by omega))]
theorem fw_at3 (k : Nat) (hk : k < 7) : ∃ tf, fwF (k * 3) = strB (wordK k) ∧ fwF (k * 3 + 1) = fnV tf ∧ fwF (k * 3 + 2) = fnV (doesF k) ∧ (∀ (args : Array Value) (W : World), (callFunc tf args).run Tryz.prog W = .ok (.enter tf args) W) ∧ (∀ (W : World) (R : List (List UInt8)) (a : Option Addr) (c : Nat), RestAt W a R → (∀ x ∈ R, x.length ≤ 8000) → Calls Tryz.prog tf #[.slice a R.length c] W fun e w' => TakeEnd (takeK k R) e ∧ Below W.heap.size W w') := by
  rcases seven hk with rfl | rfl | rfl | rfl | rfl | rfl | rfl
  · exact ⟨24, rfl, rfl, rfl, fun _ _ => by kernel_rfl, fun W R a c _ _ => takeNothing_any 0 R a c W⟩
  · exact ⟨26, rfl, rfl, rfl, fun _ _ => by kernel_rfl, fun W R a c h _ => takeText_any 1 R a c W h⟩
  · exact ⟨28, rfl, rfl, rfl, fun _ _ => by kernel_rfl, fun W R a c h hz => takeNumber_any 2 R a c W h hz⟩
  · exact ⟨26, rfl, rfl, rfl, fun _ _ => by kernel_rfl, fun W R a c h _ => takeText_any 3 R a c W h⟩
  · exact ⟨24, rfl, rfl, rfl, fun _ _ => by kernel_rfl, fun W R a c _ _ => takeNothing_any 4 R a c W⟩
  · exact ⟨28, rfl, rfl, rfl, fun _ _ => by kernel_rfl, fun W R a c h hz => takeNumber_any 5 R a c W h hz⟩
  · exact ⟨24, rfl, rfl, rfl, fun _ _ => by kernel_rfl, fun W R a c _ _ => takeNothing_any 6 R a c W⟩
def RlEnd (s : ByteArray) (e : Ending) : Prop := (∃ l, lineP s.data.toList = some l ∧ l.k < 7 ∧ e = .returned (.tuple #[.agg #[fnV (doesF l.k), strB l.t, .int .i64 l.n], .bool true])) ∨ (lineP s.data.toList = none ∧ ∃ f t n, (f = .nilFunc ∨ ∃ x, f = fnV x) ∧ e = .returned (.tuple #[.agg #[f, .string t, .int .i64 n], .bool false]))
theorem take_k {k : Nat} {R : List (List UInt8)} {l : Ln} (hk : k < 7) (h : takeK k R = some l) : l.k = k := by
  have a0 : ∀ j, take0 j R = some l → l.k = j := fun j h => by
    match R, h with
    | [], h => cases h; rfl
  have aT : ∀ j, takeT j R = some l → l.k = j := fun j h => by
    match R, h with
    | [x], h =>
      have h' : (if x = [] then none else some (⟨j, x, 0⟩ : Ln)) = some l := h
      split at h'
      · cases h'
      · cases h'; rfl
  have aN : ∀ j, takeN j R = some l → l.k = j := fun j h => by
    match R, h with
    | [x], h =>
      have h' : (if numOk x = true then some (⟨j, [], valD x⟩ : Ln) else none) = some l := h
      split at h'
      · cases h'; rfl
      · cases h'
  rcases seven hk with rfl | rfl | rfl | rfl | rfl | rfl | rfl
  · exact a0 0 h
  · exact aT 1 h
  · exact aN 2 h
  · exact aT 3 h
  · exact a0 4 h
  · exact aN 5 h
  · exact a0 6 h
theorem take_rl {s : ByteArray} {k : Nat} {R : List (List UInt8)} {e : Ending} (hk : k < 7) (hl : lineP s.data.toList = takeK k R) (h : TakeEnd (takeK k R) e) : ∃ tb nb bb, e = .returned (.tuple #[.agg #[.string tb, .int .i64 nb], .bool bb]) ∧ RlEnd s (.returned (.tuple #[.agg #[fnV (doesF k), .string tb, .int .i64 nb], .bool bb])) := by
  rcases h with ⟨l, h1, rfl⟩ | ⟨h1, t, n, rfl⟩
  · exact ⟨_, _, _, rfl, .inl ⟨l, by rw [hl, h1], by rw [take_k hk h1]; exact hk, by rw [take_k hk h1]; rfl⟩⟩
  · exact ⟨_, _, _, rfl, .inr ⟨by rw [hl, h1], _, _, _, .inr ⟨_, rfl⟩, rfl⟩⟩
theorem row_cell (w : World) (D : List (List UInt8)) (j : Nat) (x : List UInt8) (h : D[j]? = some x) : (w.alloc (.cells (D.map strB).toArray 9)).cell? ⟨w.heap.size, j, none⟩ = some (strB x) := by
  rw [cell_of_row _ _ j _ _ _ (heap_alloc_new w _), List.getElem?_toArray, List.getElem?_map, h]
  rfl
theorem blk_offD {w : World} {b b' : Nat} {cs : List Value} {t : TypeId} (h : Blk w b cs t) (hne : b ≠ b') (o : Nat) (x : Value) : Blk (w.setCell ⟨b', o, none⟩ x) b cs t := by
  unfold Blk at h ⊢
  rw [Below.heap_setCell w ⟨b', o, none⟩ x b hne]
  exact h
def DZ : List Value := [.nilFunc, .string ⟨#[]⟩, .int .i64 0]
structure RlSt (w wr : World) (wb fb : Nat) (D : List (List UInt8)) : Prop where
  out : Blk wr w.heap.size DZ 66
  fw : RowV wr 40 fb 21 fwF
  wd : ∀ (j : Nat) x, D[j]? = some x → wr.cell? ⟨wb, j, none⟩ = some (strB x)
  bel : Below w.heap.size w wr
  lt1 : w.heap.size < wb
  lt2 : wb < fb
  lt3 : fb < wr.heap.size
theorem RlSt.kept {w w1 w2 : World} {wb fb : Nat} {D : List (List UInt8)} (h : RlSt w w1 wb fb D) (hx : Below w1.heap.size w1 w2) : RlSt w w2 wb fb D :=
  ⟨h.out.kept hx, h.fw.kept hx, fun j x e => cellD (h.wd j x e) hx, below_call h.bel hx, h.lt1, h.lt2, Nat.lt_of_lt_of_le h.lt3 hx.size⟩
theorem RlSt.off {w wa wr : World} {wb fb ob : Nat} {D : List (List UInt8)} (h : RlSt w wr wb fb D) (ho : wa.heap.size ≤ ob) (hfb : fb < wa.heap.size) (x y : Value) : RlSt w ((wr.setCell ⟨ob, 0, none⟩ x).setCell ⟨ob, 1, none⟩ y) wb fb D := by
  have h1 := h.lt1
  have h2 := h.lt2
  have hc : ∀ (b : Nat), b ≠ ob → ((wr.setCell ⟨ob, 0, none⟩ x).setCell ⟨ob, 1, none⟩ y).heap[b]? = wr.heap[b]? := fun b hb => by rw [Below.heap_setCell _ ⟨ob, 1, none⟩ y b hb, Below.heap_setCell wr ⟨ob, 0, none⟩ x b hb]
  refine ⟨(hc _ (by omega)).trans h.out, h.fw.same (hc _ (by omega)), fun j z e => ?_, (h.bel.setCell (by show w.heap.size ≤ ob; omega) x).setCell (by show w.heap.size ≤ ob; omega) y, h1, h2, by simpa [World.setCell] using h.lt3⟩
  have := h.wd j z e
  unfold World.cell? at this ⊢
  rw [show ((wr.setCell ⟨ob, 0, none⟩ x).setCell ⟨ob, 1, none⟩ y).heap[(⟨wb, j, none⟩ : Addr).block]? = wr.heap[(⟨wb, j, none⟩ : Addr).block]? from hc wb (by omega)]
  exact this
set_option maxHeartbeats 4000000 in
set_option maxRecDepth 100000 in
theorem readLine_any (s : ByteArray) (w : World) (hs : s.size ≤ 8000) (hm : MaxL w) :
    Calls Tryz.prog 23 #[.string s] w fun e w' => RlEnd s e ∧ Below w.heap.size w w' := by
  obtain ⟨p0, r, hp⟩ : ∃ p0 r, pcs 32 s.data.toList = p0 :: r := by
    cases h : pcs 32 s.data.toList with
    | nil => exact absurd h (pcs_ne _ _)
    | cons p0 r => exact ⟨p0, r, rfl⟩
  have HLA := yz (fun k hk h => line_at (k := k) hp hk h)
  have HLN := yz (fun h => line_no hp h)
  have HSZ := yz (pcs_size 32 s.data.toList)
  have HCT := pcs_count 32 s.data.toList
  have B0 := below1 w (.cells #[.nilFunc, .string ⟨#[]⟩, .int .i64 0] 66)
  have R0 := blk_new w DZ 66
  have cS := yz (split_any s 32 (w.alloc (.cells #[.nilFunc, .string ⟨#[]⟩, .int .i64 0] 66)) hs (hm.kept B0))
  rw [hp] at cS HSZ HCT
  have hl0 : (w.alloc (.cells #[.nilFunc, .string ⟨#[]⟩, .int .i64 0] 66)).heap.size = w.heap.size + 1 := by simp
  clear hm
  go_enter Tryz.func23, Tryz.ntmps23
  go_wp2_with fail
  refine (yy cS).mono ?_
  rintro e w1 ⟨rfl, rfl⟩
  have R0' : Blk (w.alloc (.cells #[.nilFunc, .string ⟨#[]⟩, .int .i64 0] 66)) w.heap.size DZ 66 := R0
  generalize w.alloc (.cells #[.nilFunc, .string ⟨#[]⟩, .int .i64 0] 66) = W0 at *
  have Z1 := below1 W0 (.cells (List.map strB (p0 :: r)).toArray 9)
  have R1 := R0'.kept Z1
  have B1 := below_call B0 Z1
  have C1 := row_cell W0 (p0 :: r)
  have hl1 : (W0.alloc (.cells (List.map strB (p0 :: r)).toArray 9)).heap.size = W0.heap.size + 1 := by simp
  generalize W0.alloc (.cells (List.map strB (p0 :: r)).toArray 9) = W1 at *
  generalize hwb : W0.heap.size = wb at *
  clear Z1 R0 R0' B0 cS hwb
  subst hl0
  obtain ⟨m, hmm⟩ : ∃ m, (p0 :: r).length = m := ⟨_, rfl⟩
  have HM := yz hmm
  rw [hmm] at HCT ⊢
  have hm1 : 1 ≤ m := by rw [← hmm]; simp
  have hm9 : m ≤ 8001 := by rw [len_size] at HCT; omega
  clear hmm HCT
  go_wp2_with fail
  refine (firstWords_any _).mono ?_
  rintro e w2 ⟨rfl, rfl⟩
  have HST : Hid (RlSt w (W1.alloc fwO) (w.heap.size + 1) W1.heap.size (p0 :: r)) := yz ⟨R1.kept (below1 W1 fwO), fwRow W1, fun j x e => cellD (C1 j x e) (below1 W1 fwO), below_call B1 (below1 W1 fwO), by omega, by omega, by simp⟩
  generalize W1.alloc fwO = W2 at *
  generalize W1.heap.size = fb at *
  clear R1 B1 C1 hl1
  go_wp2_with fail
  go_loopw [13] (fun i wr => ∃ k : Nat, k ≤ 7 ∧ i = .int .i64 k ∧ Hid (∀ j, j < k → p0 ≠ wordK j) ∧ Hid (RlSt w wr (w.heap.size + 1) fb (p0 :: r))) (fun i _ => 7 - (intOf i).toNat)
  case atStart => exact ⟨0, by omega, rfl, yz (fun j hj => absurd hj (Nat.not_lt_zero _)), HST⟩
  case round =>
    clear HST
    obtain ⟨k, hk, rfl, HF, HST⟩ := hrel
    by_cases hkn : k < 7
    · have hkn2 : (k : Int) < 7 := by omega
      obtain ⟨tf, e0, e1, e2, hcf, hT⟩ := fw_at3 k hkn
      have HT := yz hT
      clear hT
      have c0 := (yy HST).fw.cell (j := k * 3) (by omega)
      have c1 := (yy HST).fw.cell (j := k * 3 + 1) (by omega)
      have c2 := (yy HST).fw.cell (j := k * 3 + 2) (by omega)
      rw [e0] at c0
      rw [e1] at c1
      rw [e2] at c2
      have p1 := (yy HST).wd 0 p0 rfl
      unfold fnV at c1 c2
      unfold strB at c0 p1
      clear e0 e1 e2
      obtain ⟨kb, hkb⟩ : ∃ kb : ByteArray, (⟨(wordK k).toArray⟩ : ByteArray) = kb := ⟨_, rfl⟩
      obtain ⟨pb, hpb⟩ : ∃ pb : ByteArray, (⟨p0.toArray⟩ : ByteArray) = pb := ⟨_, rfl⟩
      rw [hkb] at c0
      rw [hpb] at p1
      have Z := below1 wr (.cells #[.string kb, .func (.func tf) #[] #[], .func (.func (doesF k)) #[] #[]] 40)
      have HST2 := yz ((yy HST).kept Z)
      have D2 := yz (blk_new wr [.string kb, .func (.func tf) #[] #[], .func (.func (doesF k)) #[] #[]] 40)
      have p2 := cellD p1 Z
      clear Z HST p1
      go_upto_region 5 with fail
      clear c0 c1 c2
      generalize wr.alloc (.cells #[.string kb, .func (.func tf) #[] #[], .func (.func (doesF k)) #[] #[]] 40) = W3 at *
      generalize wr.heap.size = db at *
      have d0 := (yy D2).cell 0 _ rfl
      have hm0 : (0 : Int) < (m : Int) := by omega
      by_cases hq : p0 = wordK k
      · have hb : (kb.toList == pb.toList) = true := by rw [← hkb, ← hpb, hq]; simp
        have d1 := (yy D2).cell 1 _ rfl
        have HLK := yz (yy HLA k hkn hq)
        go_quiet (fail)
        have Zq : Below W3.heap.size W3 (W3.drewN nq) := ⟨rfl, rfl, rfl, Nat.le_refl _, fun _ _ => rfl⟩
        have HST3 := yz ((yy HST2).kept Zq)
        have D3 := yz ((yy D2).kept Zq)
        clear HST2 p2 d0 d1 D2 Zq hb hkb hpb HF HLA HLN
        generalize W3.drewN nq = W4 at HST3 D3 ⊢
        have HRZ : Hid (∀ x ∈ r, x.length ≤ 8000) := yz (fun x hx => by have := yy HSZ x (List.mem_cons_of_mem _ hx); rw [len_size] at this; omega)
        obtain ⟨a5, hsl, HRA⟩ : ∃ a5 : Option Addr, (a5 = if m = 1 then some ⟨w.heap.size + 1, 0, none⟩ else some ⟨w.heap.size + 1, 1, none⟩) ∧ Hid (∀ W : World, Below W4.heap.size W4 W → RestAt W a5 r) := by
          by_cases h1 : m = 1
          · refine ⟨_, (if_pos h1).symm, yz (fun W hW => .inl ?_)⟩
            have := yy HM
            rw [h1] at this
            simpa using this
          · refine ⟨_, (if_neg h1).symm, yz (fun W hW => .inr ⟨_, _, rfl, ?_, fun j x e => ?_⟩)⟩
            · have := (yy HST3).lt2; have := (yy HST3).lt3; have := hW.size; omega
            · rw [show 1 + j = j + 1 by omega]
              exact cellD ((yy HST3).wd (j + 1) x e) hW
        have hrm : r.length = m - 1 := by have := yy HM; simp at this; omega
        have HRM := yz hrm
        go_upto_region 6 with fail
        go_cut [7, 8] (fun ov bv wx => ∃ (ob : Nat) (tb : ByteArray) (nb : Int) (bb : Bool), ov = .pointer (some ⟨ob, 0, none⟩) ∧ bv = .bool bb ∧ Hid (Blk wx ob [.string tb, .int .i64 nb] 64) ∧ Hid (RlEnd s (.returned (.tuple #[.agg #[fnV (doesF k), .string tb, .int .i64 nb], .bool bb]))) ∧ Hid (RlSt w wx (w.heap.size + 1) fb (p0 :: r)) ∧ Hid (Blk wx db [.string kb, .func (.func tf) #[] #[], .func (.func (doesF k)) #[] #[]] 40) ∧ w.heap.size < ob)
        case first =>
          have cT : Hid (∀ (W : World) (c : Nat), Below W4.heap.size W4 W → Calls Tryz.prog tf #[.slice a5 (m - 1) c] W fun e w' => TakeEnd (takeK k r) e ∧ Below W.heap.size W w') := yz (fun W c hW => by rw [← yy HRM]; exact yy HT W r a5 c (yy HRA W hW) (yy HRZ))
          have hd1 := (yy D3).cell 1 _ rfl
          clear HT HRA HRZ HRM hrm
          by_cases h1 : m = 1
          · rw [if_pos h1] at hsl
            subst h1 hsl
            refine wp_region_held_drew (S := (fun w' => w'.cell? ⟨db, 1, none⟩ = some (.func (.func tf) #[] #[]))) (by kernel_rfl) ?_ (fun hHeld => ?_)
            · exact hd1
            refine wpAnyH_take (i := 0) (v := ?_) rfl (by kernel_rfl) (by kernel_rfl) (by kernel_rfl) (fun _ _ _ h => h) (Or.inl ⟨by rfl, ?_⟩) (by assumption) ?_
            rotate_left
            · intro W0 hSw; (try dsimp only at hSw); go_simp <;> with_reducible rfl
            try simp only [Act.put, List.setIfInBounds_toArray, List.set_cons_zero, List.set_cons_succ]
            refine wpAnyH_take (i := 1) (v := ?_) rfl (by kernel_rfl) (by kernel_rfl) (by kernel_rfl) (fun _ _ _ h => h) (Or.inl ⟨by rfl, ?_⟩) (by assumption) ?_
            rotate_left
            · intro W0 hSw; (try dsimp only at hSw); go_simp <;> with_reducible rfl
            try simp only [Act.put, List.setIfInBounds_toArray, List.set_cons_zero, List.set_cons_succ]
            refine wpAnyH_take (i := 2) (v := ?_) rfl (by kernel_rfl) (by kernel_rfl) (by kernel_rfl) (fun _ _ _ h => h) (Or.inl ⟨by rfl, ?_⟩) (by assumption) ?_
            rotate_left
            · intro W0 hSw; (try dsimp only at hSw); go_simp <;> with_reducible rfl
            try simp only [Act.put, List.setIfInBounds_toArray, List.set_cons_zero, List.set_cons_succ]
            refine wpAnyH_take (i := 3) (v := ?_) rfl (by kernel_rfl) (by kernel_rfl) (by kernel_rfl) (fun _ _ _ h => h) (Or.inl ⟨by rfl, ?_⟩) (by assumption) ?_
            rotate_left
            · intro W0 hSw; (try dsimp only at hSw); go_simp <;> with_reducible rfl
            try simp only [Act.put, List.setIfInBounds_toArray, List.set_cons_zero, List.set_cons_succ]
            have HW := yz ((Below.refl W4.heap.size W4).drew)
            have HD := yz ((yy D3).drewn)
            generalize W4.drew = V at HW HD hHeld ⊢
            refine wpAnyH_ready (rs := [4, 8]) (by kernel_rfl) (by simp) ?_
            refine AllReadyH.cons rfl (fun K hK => ?_) (AllReadyH.cons rfl (fun K hK => ?_) AllReadyH.nil)
            · skip
              go_simp
              refine (yy cT _ _ (yy HW)).mono ?_
              rintro e V1 ⟨he, hx⟩
              obtain ⟨tb, nb, bb, rfl, hrl⟩ := take_rl hkn (yy HLK) he
              have HRL := yz hrl
              replace HW := yz (below_call (yy HW) hx)
              replace HD := yz ((yy HD).kept hx)
              clear hx he hrl
              refine hK.out _ _ ((yy HD).cell 1 _ rfl) (fun hHeld1 => ?_)
              clear hK K hHeld
              refine wpAnyH_take (i := 5) (v := ?_) rfl (by kernel_rfl) (by kernel_rfl) (by kernel_rfl) (fun _ _ _ h => h) (Or.inl ⟨by rfl, ?_⟩) (by assumption) ?_
              rotate_left
              · intro W0 hSw; (try dsimp only at hSw); go_simp <;> with_reducible rfl
              try simp only [Act.put, List.setIfInBounds_toArray, List.set_cons_zero, List.set_cons_succ]
              refine wpAnyH_take (i := 6) (v := ?_) rfl (by kernel_rfl) (by kernel_rfl) (by kernel_rfl) (fun _ _ _ h => h) (Or.inl ⟨by rfl, ?_⟩) (by assumption) ?_
              rotate_left
              · intro W0 hSw; (try dsimp only at hSw); go_simp <;> with_reducible rfl
              try simp only [Act.put, List.setIfInBounds_toArray, List.set_cons_zero, List.set_cons_succ]
              refine wpAnyH_take (i := 7) (v := ?_) rfl (by kernel_rfl) (by kernel_rfl) (by kernel_rfl) (fun _ _ _ h => h) (Or.inl ⟨by rfl, ?_⟩) (by assumption) ?_
              rotate_left
              · intro W0 hSw; (try dsimp only at hSw); go_simp <;> with_reducible rfl
              try simp only [Act.put, List.setIfInBounds_toArray, List.set_cons_zero, List.set_cons_succ]
              refine wpAnyH_ready (rs := [8]) (by kernel_rfl) (by simp) ?_
              refine AllReadyH.cons rfl (fun K hK => ?_) AllReadyH.nil
              go_simp
              have HP := yz (blk_new V1 [.string ⟨#[]⟩, .int .i64 0] 64)
              have hdb : db ≠ V1.heap.size := by have := (yy HD).lt; omega
              have hob2 : W4.heap.size ≤ V1.heap.size := (yy HW).size
              have Zp := below1 V1 (.cells #[.string ⟨#[]⟩, .int .i64 0] 64)
              replace HW := yz (below_call (yy HW) Zp)
              replace HD := yz ((yy HD).kept Zp)
              generalize V1.alloc (.cells #[.string ⟨#[]⟩, .int .i64 0] 64) = U1 at HP HW HD ⊢
              generalize V1.heap.size = ob at HP hdb hob2 ⊢
              clear Zp
              refine hK.out _ _ ((yy HD).cell 1 _ rfl) (fun hHeld2 => ?_)
              clear hK K hHeld1
              refine wpAnyH_ready (rs := [9]) (by kernel_rfl) (by simp) ?_
              refine AllReadyH.cons rfl (fun K hK => ?_) AllReadyH.nil
              have r0 := (yy HP).cell 0 _ rfl
              have r1 := (yy HP).cell 1 _ rfl
              have f0 := (yy HP).free 0
              have f1 := (yy HP).free 1
              go_simp
              clear r0 r1 f0 f1
              replace HD := yz (blk_offD (yy HD) hdb 0 (.string tb))
              replace HD := yz (blk_offD (yy HD) hdb 1 (.int .i64 nb))
              refine hK.out _ _ ((yy HD).cell 1 _ rfl) (fun hHeldE => ?_)
              clear hK K
              refine wpAnyH_ready (rs := [10]) (by kernel_rfl) (by simp) ?_
              refine AllReadyH.cons rfl (fun K hK => ?_) AllReadyH.nil
              go_simp
              refine hK.out _ _ ((yy HD).cell 1 _ rfl) (fun hHeldF => ?_)
              refine wpAnyH_done (by kernel_rfl) ?_ _
              clear hHeldE hHeldF
              go_wp2_with fail
              go_meet
              exact ⟨ob, tb, nb, bb, rfl, rfl, yz (((yy HP).set 0 _).set 1 _), HRL, yz (((yy HST3).kept (yy HW)).off hob2 (yy HST3).lt3 _ _), HD, by have := (yy HST3).lt1; have := (yy HST3).lt2; have := (yy HST3).lt3; omega⟩
            · skip
              go_simp
              have HP := yz (blk_new V [.string ⟨#[]⟩, .int .i64 0] 64)
              have hdb : db ≠ V.heap.size := by have := (yy HD).lt; omega
              have hob2 : W4.heap.size ≤ V.heap.size := (yy HW).size
              have Zp := below1 V (.cells #[.string ⟨#[]⟩, .int .i64 0] 64)
              replace HW := yz (below_call (yy HW) Zp)
              replace HD := yz ((yy HD).kept Zp)
              generalize V.alloc (.cells #[.string ⟨#[]⟩, .int .i64 0] 64) = U1 at HP HW HD ⊢
              generalize V.heap.size = ob at HP hdb hob2 ⊢
              clear Zp
              refine hK.out _ _ ((yy HD).cell 1 _ rfl) (fun hHeld1 => ?_)
              clear hK K hHeld
              refine wpAnyH_ready (rs := [4]) (by kernel_rfl) (by simp) ?_
              refine AllReadyH.cons rfl (fun K hK => ?_) AllReadyH.nil
              go_simp
              refine (yy cT _ _ (yy HW)).mono ?_
              rintro e V1 ⟨he, hx⟩
              obtain ⟨tb, nb, bb, rfl, hrl⟩ := take_rl hkn (yy HLK) he
              have HRL := yz hrl
              replace HW := yz (below_call (yy HW) hx)
              replace HD := yz ((yy HD).kept hx)
              replace HP := yz ((yy HP).kept hx)
              clear hx he hrl
              refine hK.out _ _ ((yy HD).cell 1 _ rfl) (fun hHeld2 => ?_)
              clear hK K hHeld1
              refine wpAnyH_take (i := 5) (v := ?_) rfl (by kernel_rfl) (by kernel_rfl) (by kernel_rfl) (fun _ _ _ h => h) (Or.inl ⟨by rfl, ?_⟩) (by assumption) ?_
              rotate_left
              · intro W0 hSw; (try dsimp only at hSw); go_simp <;> with_reducible rfl
              try simp only [Act.put, List.setIfInBounds_toArray, List.set_cons_zero, List.set_cons_succ]
              refine wpAnyH_take (i := 6) (v := ?_) rfl (by kernel_rfl) (by kernel_rfl) (by kernel_rfl) (fun _ _ _ h => h) (Or.inl ⟨by rfl, ?_⟩) (by assumption) ?_
              rotate_left
              · intro W0 hSw; (try dsimp only at hSw); go_simp <;> with_reducible rfl
              try simp only [Act.put, List.setIfInBounds_toArray, List.set_cons_zero, List.set_cons_succ]
              refine wpAnyH_take (i := 7) (v := ?_) rfl (by kernel_rfl) (by kernel_rfl) (by kernel_rfl) (fun _ _ _ h => h) (Or.inl ⟨by rfl, ?_⟩) (by assumption) ?_
              rotate_left
              · intro W0 hSw; (try dsimp only at hSw); go_simp <;> with_reducible rfl
              try simp only [Act.put, List.setIfInBounds_toArray, List.set_cons_zero, List.set_cons_succ]
              refine wpAnyH_ready (rs := [9]) (by kernel_rfl) (by simp) ?_
              refine AllReadyH.cons rfl (fun K hK => ?_) AllReadyH.nil
              have r0 := (yy HP).cell 0 _ rfl
              have r1 := (yy HP).cell 1 _ rfl
              have f0 := (yy HP).free 0
              have f1 := (yy HP).free 1
              go_simp
              clear r0 r1 f0 f1
              replace HD := yz (blk_offD (yy HD) hdb 0 (.string tb))
              replace HD := yz (blk_offD (yy HD) hdb 1 (.int .i64 nb))
              refine hK.out _ _ ((yy HD).cell 1 _ rfl) (fun hHeldE => ?_)
              clear hK K
              refine wpAnyH_ready (rs := [10]) (by kernel_rfl) (by simp) ?_
              refine AllReadyH.cons rfl (fun K hK => ?_) AllReadyH.nil
              go_simp
              refine hK.out _ _ ((yy HD).cell 1 _ rfl) (fun hHeldF => ?_)
              refine wpAnyH_done (by kernel_rfl) ?_ _
              clear hHeldE hHeldF
              go_wp2_with fail
              go_meet
              exact ⟨ob, tb, nb, bb, rfl, rfl, yz (((yy HP).set 0 _).set 1 _), HRL, yz (((yy HST3).kept (yy HW)).off hob2 (yy HST3).lt3 _ _), HD, by have := (yy HST3).lt1; have := (yy HST3).lt2; have := (yy HST3).lt3; omega⟩
          · rw [if_neg h1] at hsl
            subst hsl
            have h1' : (m : Int) ≠ 1 := by omega
            have h1'' : (1 : Int) ≤ (m : Int) := by omega
            refine wp_region_held_drew (S := (fun w' => w'.cell? ⟨db, 1, none⟩ = some (.func (.func tf) #[] #[]))) (by kernel_rfl) ?_ (fun hHeld => ?_)
            · exact hd1
            refine wpAnyH_take (i := 0) (v := ?_) rfl (by kernel_rfl) (by kernel_rfl) (by kernel_rfl) (fun _ _ _ h => h) (Or.inl ⟨by rfl, ?_⟩) (by assumption) ?_
            rotate_left
            · intro W0 hSw; (try dsimp only at hSw); go_simp <;> with_reducible rfl
            try simp only [Act.put, List.setIfInBounds_toArray, List.set_cons_zero, List.set_cons_succ]
            refine wpAnyH_take (i := 1) (v := ?_) rfl (by kernel_rfl) (by kernel_rfl) (by kernel_rfl) (fun _ _ _ h => h) (Or.inl ⟨by rfl, ?_⟩) (by assumption) ?_
            rotate_left
            · intro W0 hSw; (try dsimp only at hSw); go_simp <;> with_reducible rfl
            try simp only [Act.put, List.setIfInBounds_toArray, List.set_cons_zero, List.set_cons_succ]
            refine wpAnyH_take (i := 2) (v := ?_) rfl (by kernel_rfl) (by kernel_rfl) (by kernel_rfl) (fun _ _ _ h => h) (Or.inl ⟨by rfl, ?_⟩) (by assumption) ?_
            rotate_left
            · intro W0 hSw; (try dsimp only at hSw); go_simp <;> with_reducible rfl
            try simp only [Act.put, List.setIfInBounds_toArray, List.set_cons_zero, List.set_cons_succ]
            refine wpAnyH_take (i := 3) (v := ?_) rfl (by kernel_rfl) (by kernel_rfl) (by kernel_rfl) (fun _ _ _ h => h) (Or.inl ⟨by rfl, ?_⟩) (by assumption) ?_
            rotate_left
            · intro W0 hSw; (try dsimp only at hSw); go_simp <;> with_reducible rfl
            try simp only [Act.put, List.setIfInBounds_toArray, List.set_cons_zero, List.set_cons_succ]
            have HW := yz ((Below.refl W4.heap.size W4).drew)
            have HD := yz ((yy D3).drewn)
            generalize W4.drew = V at HW HD hHeld ⊢
            refine wpAnyH_ready (rs := [4, 8]) (by kernel_rfl) (by simp) ?_
            refine AllReadyH.cons rfl (fun K hK => ?_) (AllReadyH.cons rfl (fun K hK => ?_) AllReadyH.nil)
            · skip
              go_simp
              refine (yy cT _ _ (yy HW)).mono ?_
              rintro e V1 ⟨he, hx⟩
              obtain ⟨tb, nb, bb, rfl, hrl⟩ := take_rl hkn (yy HLK) he
              have HRL := yz hrl
              replace HW := yz (below_call (yy HW) hx)
              replace HD := yz ((yy HD).kept hx)
              clear hx he hrl
              refine hK.out _ _ ((yy HD).cell 1 _ rfl) (fun hHeld1 => ?_)
              clear hK K hHeld
              refine wpAnyH_take (i := 5) (v := ?_) rfl (by kernel_rfl) (by kernel_rfl) (by kernel_rfl) (fun _ _ _ h => h) (Or.inl ⟨by rfl, ?_⟩) (by assumption) ?_
              rotate_left
              · intro W0 hSw; (try dsimp only at hSw); go_simp <;> with_reducible rfl
              try simp only [Act.put, List.setIfInBounds_toArray, List.set_cons_zero, List.set_cons_succ]
              refine wpAnyH_take (i := 6) (v := ?_) rfl (by kernel_rfl) (by kernel_rfl) (by kernel_rfl) (fun _ _ _ h => h) (Or.inl ⟨by rfl, ?_⟩) (by assumption) ?_
              rotate_left
              · intro W0 hSw; (try dsimp only at hSw); go_simp <;> with_reducible rfl
              try simp only [Act.put, List.setIfInBounds_toArray, List.set_cons_zero, List.set_cons_succ]
              refine wpAnyH_take (i := 7) (v := ?_) rfl (by kernel_rfl) (by kernel_rfl) (by kernel_rfl) (fun _ _ _ h => h) (Or.inl ⟨by rfl, ?_⟩) (by assumption) ?_
              rotate_left
              · intro W0 hSw; (try dsimp only at hSw); go_simp <;> with_reducible rfl
              try simp only [Act.put, List.setIfInBounds_toArray, List.set_cons_zero, List.set_cons_succ]
              refine wpAnyH_ready (rs := [8]) (by kernel_rfl) (by simp) ?_
              refine AllReadyH.cons rfl (fun K hK => ?_) AllReadyH.nil
              go_simp
              have HP := yz (blk_new V1 [.string ⟨#[]⟩, .int .i64 0] 64)
              have hdb : db ≠ V1.heap.size := by have := (yy HD).lt; omega
              have hob2 : W4.heap.size ≤ V1.heap.size := (yy HW).size
              have Zp := below1 V1 (.cells #[.string ⟨#[]⟩, .int .i64 0] 64)
              replace HW := yz (below_call (yy HW) Zp)
              replace HD := yz ((yy HD).kept Zp)
              generalize V1.alloc (.cells #[.string ⟨#[]⟩, .int .i64 0] 64) = U1 at HP HW HD ⊢
              generalize V1.heap.size = ob at HP hdb hob2 ⊢
              clear Zp
              refine hK.out _ _ ((yy HD).cell 1 _ rfl) (fun hHeld2 => ?_)
              clear hK K hHeld1
              refine wpAnyH_ready (rs := [9]) (by kernel_rfl) (by simp) ?_
              refine AllReadyH.cons rfl (fun K hK => ?_) AllReadyH.nil
              have r0 := (yy HP).cell 0 _ rfl
              have r1 := (yy HP).cell 1 _ rfl
              have f0 := (yy HP).free 0
              have f1 := (yy HP).free 1
              go_simp
              clear r0 r1 f0 f1
              replace HD := yz (blk_offD (yy HD) hdb 0 (.string tb))
              replace HD := yz (blk_offD (yy HD) hdb 1 (.int .i64 nb))
              refine hK.out _ _ ((yy HD).cell 1 _ rfl) (fun hHeldE => ?_)
              clear hK K
              refine wpAnyH_ready (rs := [10]) (by kernel_rfl) (by simp) ?_
              refine AllReadyH.cons rfl (fun K hK => ?_) AllReadyH.nil
              go_simp
              refine hK.out _ _ ((yy HD).cell 1 _ rfl) (fun hHeldF => ?_)
              refine wpAnyH_done (by kernel_rfl) ?_ _
              clear hHeldE hHeldF
              go_wp2_with fail
              go_meet
              exact ⟨ob, tb, nb, bb, rfl, rfl, yz (((yy HP).set 0 _).set 1 _), HRL, yz (((yy HST3).kept (yy HW)).off hob2 (yy HST3).lt3 _ _), HD, by have := (yy HST3).lt1; have := (yy HST3).lt2; have := (yy HST3).lt3; omega⟩
            · skip
              go_simp
              have HP := yz (blk_new V [.string ⟨#[]⟩, .int .i64 0] 64)
              have hdb : db ≠ V.heap.size := by have := (yy HD).lt; omega
              have hob2 : W4.heap.size ≤ V.heap.size := (yy HW).size
              have Zp := below1 V (.cells #[.string ⟨#[]⟩, .int .i64 0] 64)
              replace HW := yz (below_call (yy HW) Zp)
              replace HD := yz ((yy HD).kept Zp)
              generalize V.alloc (.cells #[.string ⟨#[]⟩, .int .i64 0] 64) = U1 at HP HW HD ⊢
              generalize V.heap.size = ob at HP hdb hob2 ⊢
              clear Zp
              refine hK.out _ _ ((yy HD).cell 1 _ rfl) (fun hHeld1 => ?_)
              clear hK K hHeld
              refine wpAnyH_ready (rs := [4]) (by kernel_rfl) (by simp) ?_
              refine AllReadyH.cons rfl (fun K hK => ?_) AllReadyH.nil
              go_simp
              refine (yy cT _ _ (yy HW)).mono ?_
              rintro e V1 ⟨he, hx⟩
              obtain ⟨tb, nb, bb, rfl, hrl⟩ := take_rl hkn (yy HLK) he
              have HRL := yz hrl
              replace HW := yz (below_call (yy HW) hx)
              replace HD := yz ((yy HD).kept hx)
              replace HP := yz ((yy HP).kept hx)
              clear hx he hrl
              refine hK.out _ _ ((yy HD).cell 1 _ rfl) (fun hHeld2 => ?_)
              clear hK K hHeld1
              refine wpAnyH_take (i := 5) (v := ?_) rfl (by kernel_rfl) (by kernel_rfl) (by kernel_rfl) (fun _ _ _ h => h) (Or.inl ⟨by rfl, ?_⟩) (by assumption) ?_
              rotate_left
              · intro W0 hSw; (try dsimp only at hSw); go_simp <;> with_reducible rfl
              try simp only [Act.put, List.setIfInBounds_toArray, List.set_cons_zero, List.set_cons_succ]
              refine wpAnyH_take (i := 6) (v := ?_) rfl (by kernel_rfl) (by kernel_rfl) (by kernel_rfl) (fun _ _ _ h => h) (Or.inl ⟨by rfl, ?_⟩) (by assumption) ?_
              rotate_left
              · intro W0 hSw; (try dsimp only at hSw); go_simp <;> with_reducible rfl
              try simp only [Act.put, List.setIfInBounds_toArray, List.set_cons_zero, List.set_cons_succ]
              refine wpAnyH_take (i := 7) (v := ?_) rfl (by kernel_rfl) (by kernel_rfl) (by kernel_rfl) (fun _ _ _ h => h) (Or.inl ⟨by rfl, ?_⟩) (by assumption) ?_
              rotate_left
              · intro W0 hSw; (try dsimp only at hSw); go_simp <;> with_reducible rfl
              try simp only [Act.put, List.setIfInBounds_toArray, List.set_cons_zero, List.set_cons_succ]
              refine wpAnyH_ready (rs := [9]) (by kernel_rfl) (by simp) ?_
              refine AllReadyH.cons rfl (fun K hK => ?_) AllReadyH.nil
              have r0 := (yy HP).cell 0 _ rfl
              have r1 := (yy HP).cell 1 _ rfl
              have f0 := (yy HP).free 0
              have f1 := (yy HP).free 1
              go_simp
              clear r0 r1 f0 f1
              replace HD := yz (blk_offD (yy HD) hdb 0 (.string tb))
              replace HD := yz (blk_offD (yy HD) hdb 1 (.int .i64 nb))
              refine hK.out _ _ ((yy HD).cell 1 _ rfl) (fun hHeldE => ?_)
              clear hK K
              refine wpAnyH_ready (rs := [10]) (by kernel_rfl) (by simp) ?_
              refine AllReadyH.cons rfl (fun K hK => ?_) AllReadyH.nil
              go_simp
              refine hK.out _ _ ((yy HD).cell 1 _ rfl) (fun hHeldF => ?_)
              refine wpAnyH_done (by kernel_rfl) ?_ _
              clear hHeldE hHeldF
              go_wp2_with fail
              go_meet
              exact ⟨ob, tb, nb, bb, rfl, rfl, yz (((yy HP).set 0 _).set 1 _), HRL, yz (((yy HST3).kept (yy HW)).off hob2 (yy HST3).lt3 _ _), HD, by have := (yy HST3).lt1; have := (yy HST3).lt2; have := (yy HST3).lt3; omega⟩
        case rest =>
          obtain ⟨ob, tb, nb, bb, rfl, rfl, HOB, HRL, HST5, HD5, hob⟩ := hcut
          have q0 := (yy HOB).cell 0 _ rfl
          have q1 := (yy HOB).cell 1 _ rfl
          have d2 := (yy HD5).cell 2 _ rfl
          have r0 := (yy HST5).out.cell 0 _ rfl
          have r1 := (yy HST5).out.cell 1 _ rfl
          have r2 := (yy HST5).out.cell 2 _ rfl
          have f0 := (yy HST5).out.free 0
          have f1 := (yy HST5).out.free 1
          have f2 := (yy HST5).out.free 2
          go_wp2_with fail
          refine bodyPost_ret (v := .tuple #[.agg #[fnV (doesF k), .string tb, .int .i64 nb], .bool bb]) ?_ rfl ⟨yy HRL, ?_⟩
          · simp [results, Tryz.results23, go_sem, r0, r1, r2, fnV]
          · iterate 3 (refine Below.setCell ?_ (Nat.le_refl w.heap.size) _)
            exact (yy HST5).bel
      · have hb : (kb.toList == pb.toList) = false := strD_ne (by rw [← hkb, ← hpb]; exact fun e => hq (by have := congrArg (fun b : ByteArray => b.data.toList) e; simpa using this.symm))
        have HF2 : Hid (∀ j, j < k + 1 → p0 ≠ wordK j) := yz (fun j hj => by
          by_cases e : j = k
          · rw [e]; exact hq
          · exact yy HF j (by omega))
        go_quiet (fail)
        have HST3 := yz ((yy HST2).kept (⟨rfl, rfl, rfl, Nat.le_refl _, fun _ _ => rfl⟩ : Below W3.heap.size W3 (W3.drewN nq)))
        clear HST2 p2 d0 D2
        generalize W3.drewN nq = W4 at HST3 ⊢
        go_wp2_with fail
        go_roundw
        case rel => exact ⟨k + 1, by omega, by go_num, HF2, HST3⟩
        case measure => simp [intOf]; omega
    · have hke : k = 7 := by omega
      subst hke
      have HR : Hid (RlEnd s (.returned (.tuple #[.agg #[.nilFunc, .string ⟨#[]⟩, .int .i64 0], .bool false]))) := yz (.inr ⟨yy HLN (yy HF), _, _, _, .inl rfl, rfl⟩)
      have r0 := (yy HST).out.cell 0 _ rfl
      have r1 := (yy HST).out.cell 1 _ rfl
      have r2 := (yy HST).out.cell 2 _ rfl
      have f0 := (yy HST).out.free 0
      have f1 := (yy HST).out.free 1
      have f2 := (yy HST).out.free 2
      go_wp2
      refine bodyPost_ret (v := .tuple #[.agg #[.nilFunc, .string ⟨#[]⟩, .int .i64 0], .bool false]) ?_ rfl ⟨yy HR, ?_⟩
      · simp [results, Tryz.results23, go_sem, r0, r1, r2]
      · iterate 3 (refine Below.setCell ?_ (Nat.le_refl w.heap.size) _)
        exact (yy HST).bel
end Go.Proofs.YtofpjlhoppofdaaGreatDoor
