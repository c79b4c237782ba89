/- Several texts in one: DsC, DsK. -/
import Derived.BigRegion
import Derived.Deep.DeepCutAuto
import Derived.Test.YtofpjlhoppofdaaGreatDoorQDeskFaultOwn12
import Derived.Test.YtofpjlhoppofdaaGreatDoorQDeskFaultOwn5
import Derived.Test.YtofpjlhoppofdaaGreatDoorQDeskFaultOwn8
import Derived.Test.YtofpjlhoppofdaaGreatDoorQDeskFaultOwn11
namespace Go.Proofs.YtofpjlhoppofdaaGreatDoor
open Go.RowKit
set_option linter.unusedVariables false
set_option linter.unusedSimpArgs false
def wordK : Nat → List UInt8
  | 0 => wBlind
  | 1 => wDrift
  | 2 => wIds
  | 3 => wMove
  | 4 => wReset
  | 5 => wSee
  | _ => wState
theorem txt_cells {w : World} {B : Nat} {v : Value} {D : List (List UInt8)} (h : TxtRow w B v D) (hn : D ≠ []) : ∃ g cap, v = .slice (some ⟨g, 0, none⟩) D.length cap ∧ D.length ≤ cap ∧ cap ≤ maxLen ∧ B ≤ g ∧ g < w.heap.size ∧ ∀ (j : Nat) x, D[j]? = some x → w.cell? ⟨g, j, none⟩ = some (strB x) := by
  have hl : 0 < D.length := List.length_pos_iff.2 hn
  rcases h.2 with ⟨_, h0⟩ | ⟨g, cap, cur, hv, hb, hg, h1, h2, h3, h4⟩
  · omega
  · refine ⟨g, cap, hv, h1, h2, hb, (Array.getElem?_eq_some_iff.1 hg).1, fun j x hj => ?_⟩
    have hjl : j < D.length := (List.getElem?_eq_some_iff.1 hj).1
    rw [cell_of_row w g j cur _ _ hg]
    have e : (D.map strB)[j]? = some (strB x) := by rw [List.getElem?_map, hj]; rfl
    rw [← h4, List.getElem?_take, if_pos (by omega)] at e
    simpa using e
theorem cellD {w w' : World} {g j : Nat} {u : Value} (h : w.cell? ⟨g, j, none⟩ = some u) (hB : Below w.heap.size w w') : w'.cell? ⟨g, j, none⟩ = some u := by
  rw [hB.cell (p := ⟨g, j, none⟩) (World.block_lt_of_cell? w _ h)]; exact h
def LineEnd (s : ByteArray) (e : Ending) : Prop := (∃ l, lineP s.data.toList = some l ∧ e = .returned (.tuple #[.agg #[strB (wordK l.k), strB l.t, .int .i64 l.n], .bool true])) ∨ (lineP s.data.toList = none ∧ ∃ a b n, e = .returned (.tuple #[.agg #[.string a, .string b, .int .i64 n], .bool false]))
theorem lineEnd_no {s : ByteArray} (h : lineP s.data.toList = none) (a b : ByteArray) (n : Int) : LineEnd s (.returned (.tuple #[.agg #[.string a, .string b, .int .i64 n], .bool false])) := .inr ⟨h, a, b, n, rfl⟩
theorem lineEnd_yes {s : ByteArray} {l : Ln} (h : lineP s.data.toList = some l) : LineEnd s (.returned (.tuple #[.agg #[strB (wordK l.k), strB l.t, .int .i64 l.n], .bool true])) := .inl ⟨l, h, rfl⟩
theorem res_read (T : Array Value) (X : World) (b : Nat) (a t n : Value) (ok : Bool) (hT : T.getD 2 undef = .pointer (some ⟨b, 0, none⟩)) (hT3 : T.getD 3 undef = .bool ok) (h0 : X.cell? ⟨b, 0, none⟩ = some a) (h1 : X.cell? ⟨b, 1, none⟩ = some t) (h2 : X.cell? ⟨b, 2, none⟩ = some n) : (results Tryz.f20 T).run Tryz.prog X = .ok (.tuple #[.agg #[a, t, n], .bool ok]) X := by
  simp only [Array.getD_eq_getD_getElem?] at hT hT3
  simp [results, Tryz.results20, go_sem, hT, hT3, h0, h1, h2]
theorem lineP_eq {s : List UInt8} {p0 : List UInt8} {r : List (List UInt8)} (h : pcs 32 s = p0 :: r) : lineP s = if p0 = wBlind then take0 0 r else if p0 = wDrift then takeT 1 r else if p0 = wIds then takeN 2 r else if p0 = wMove then takeT 3 r else if p0 = wReset then take0 4 r else if p0 = wSee then takeN 5 r else if p0 = wState then take0 6 r else none := by
  unfold lineP
  rw [h]
theorem valD_nonneg {y : List UInt8} (h : numOk y = true) : 0 ≤ valD y := by
  have hy : (⟨y.toArray⟩ : ByteArray).data.toList = y := by simp
  rw [← hy] at h ⊢
  rw [numOk_eq, Bool.and_eq_true] at h
  rw [← vls_all]
  exact (vls_bound _ _ (Nat.le_refl _) h.2).1
theorem pcs_size (c : UInt8) (s : List UInt8) : ∀ x ∈ pcs c s, x.length ≤ s.length := by
  induction s with
  | nil => intro x hx; simp [pcs] at hx; subst hx; simp
  | cons y ys ih =>
    intro x hx
    rw [pcs] at hx
    split at hx
    · rcases List.mem_cons.1 hx with rfl | h
      · simp
      · have := ih x h; simp; omega
    · have hne := pcs_ne c ys
      cases hp : pcs c ys with
      | nil => exact absurd hp hne
      | cons d D =>
        rw [hp] at hx
        simp at hx
        rcases hx with rfl | h
        · have := ih d (by rw [hp]; exact List.mem_cons_self ..); simp; omega
        · have := ih x (by rw [hp]; exact List.mem_cons_of_mem _ h); simp; omega
theorem pcs_count (c : UInt8) (s : List UInt8) : (pcs c s).length ≤ s.length + 1 := by
  induction s with
  | nil => simp [pcs]
  | cons y ys ih =>
    rw [pcs]
    split
    · simp; omega
    · have hne := pcs_ne c ys
      have : 0 < (pcs c ys).length := List.length_pos_iff.2 hne
      simp; omega
set_option maxHeartbeats 2000000 in
set_option maxRecDepth 100000 in
theorem l09Read_Blind (s : ByteArray) (r : List (List UInt8)) (w : World) (hs : s.size ≤ 8000) (hp : pcs 32 s.data.toList = wBlind :: r) :
    Calls Tryz.prog 20 #[.string s] w fun e w' => LineEnd s e ∧ Below w.heap.size w w' := by
  have HL : Hid (lineP s.data.toList = take0 0 r) := yz (by rw [lineP_eq hp]; rfl)
  have HSZ := yz (pcs_size 32 s.data.toList)
  have HCT := yz (pcs_count 32 s.data.toList)
  have cS : Hid (Calls Tryz.prog 17 #[.string s, .int .u8 32] (w.alloc (.cells #[.string ⟨#[]⟩, .string ⟨#[]⟩, .int .i64 0] 57)) fun e w' => (∃ v, e = .returned v ∧ TxtRow w' (w.alloc (.cells #[.string ⟨#[]⟩, .string ⟨#[]⟩, .int .i64 0] 57)).heap.size v (wBlind :: r)) ∧ Below (w.alloc (.cells #[.string ⟨#[]⟩, .string ⟨#[]⟩, .int .i64 0] 57)).heap.size (w.alloc (.cells #[.string ⟨#[]⟩, .string ⟨#[]⟩, .int .i64 0] 57)) w') := yz (by have := l01SplitC_any s 32 (w.alloc (.cells #[.string ⟨#[]⟩, .string ⟨#[]⟩, .int .i64 0] 57)) hs; rw [hp] at this; exact this)
  rw [hp] at HSZ HCT
  clear hp
  have B0 := yz (below1 w (.cells #[.string ⟨#[]⟩, .string ⟨#[]⟩, .int .i64 0] 57))
  have R0 := yz (blk_new w [.string ⟨#[]⟩, .string ⟨#[]⟩, .int .i64 0] 57)
  go_enter Tryz.func20, Tryz.ntmps20
  go_wp2_with fail
  refine (yy cS).mono ?_
  rintro e w1 ⟨⟨v, rfl, ht⟩, hx⟩
  obtain ⟨g, cap, rfl, hc1, hc2, hgb, hg, hcell⟩ := txt_cells ht (by simp)
  have hm8 : maxLen ≤ 9223372036854775807 := by decide +kernel
  have Z := below1 w1 (.cells #[.string ⟨#[98, 108, 105, 110, 100]⟩, .string ⟨#[]⟩, .int .i64 0] 57)
  have B1 := yz (below_call (below_call (yy B0) hx) Z)
  have R1 := yz (((yy R0).kept hx).kept Z)
  have X1 := yz (blk_new w1 [.string ⟨#[98, 108, 105, 110, 100]⟩, .string ⟨#[]⟩, .int .i64 0] 57)
  have c0 : w1.cell? ⟨g, 0, none⟩ = some (.string ⟨#[98, 108, 105, 110, 100]⟩) := hcell 0 _ rfl
  have d0 := cellD c0 Z
  have HCL := yz (fun (j : Nat) x h => cellD (hcell j x h) Z)
  have hrl : w.heap.size < w1.heap.size := by have := hx.size; have := (yy R0).lt; omega
  clear cS ht hx hcell Z R0 B0
  obtain ⟨m, hm⟩ : ∃ m, (wBlind :: r).length = m := ⟨_, rfl⟩
  have HM := yz hm
  rw [hm] at hc1 HCT ⊢
  have hm1 : 1 ≤ m := by rw [← hm]; simp
  have hm9 : m ≤ 8001 := by have := yy HCT; rw [len_size] at this; omega
  clear hm
  go_upto_region 3 with fail
  clear c0
  generalize w1.alloc (.cells #[.string ⟨#[98, 108, 105, 110, 100]⟩, .string ⟨#[]⟩, .int .i64 0] 57) = W2 at *
  generalize w1.heap.size = xb at *
  have r0 := (yy R1).cell 0 _ rfl
  have f0 := (yy R1).free 0
  have x0 := (yy X1).cell 0 _ rfl
  have r1 := (yy R1).cell 1 _ rfl
  have f1 := (yy R1).free 1
  have x1 := (yy X1).cell 1 _ rfl
  have r2 := (yy R1).cell 2 _ rfl
  have f2 := (yy R1).free 2
  have x2 := (yy X1).cell 2 _ rfl
  by_cases h1 : m = 1
  · subst h1
    have HR : Hid (lineP s.data.toList = some ⟨0, [], 0⟩) := yz (by
      have : r = [] := by have := yy HM; simpa using this
      rw [yy HL, this]
      rfl)
    go_wp2
    refine bodyPost_ret (v := .tuple #[.agg #[.string ⟨#[98, 108, 105, 110, 100]⟩, .string ⟨#[]⟩, .int .i64 0], .bool true]) ?_ rfl ⟨lineEnd_yes (yy HR), ?_⟩
    · refine res_read _ _ w.heap.size _ _ _ true rfl rfl ?_ ?_ ?_ <;> go_simp
    · skip
      iterate 3 (refine Below.setCell ?_ (Nat.le_refl w.heap.size) _)
      exact yy B1
  · have hb : ((m : Int) == 1) = false := by simpa using (show (m : Int) ≠ 1 by omega)
    have HR : Hid (lineP s.data.toList = none) := yz (by
      have : r ≠ [] := fun e => by have h := yy HM; rw [e] at h; simp at h; omega
      rw [yy HL]
      match r, this with
      | y :: ys, _ => rfl)
    go_wp2
    refine bodyPost_ret (v := .tuple #[.agg #[.string ⟨#[98, 108, 105, 110, 100]⟩, .string ⟨#[]⟩, .int .i64 0], .bool false]) ?_ rfl ⟨lineEnd_no (yy HR) _ _ _, ?_⟩
    · refine res_read _ _ w.heap.size _ _ _ false rfl rfl ?_ ?_ ?_ <;> go_simp
    · skip
      iterate 3 (refine Below.setCell ?_ (Nat.le_refl w.heap.size) _)
      exact yy B1
set_option maxHeartbeats 2000000 in
set_option maxRecDepth 100000 in
theorem l09Read_Drift (s : ByteArray) (r : List (List UInt8)) (w : World) (hs : s.size ≤ 8000) (hp : pcs 32 s.data.toList = wDrift :: r) :
    Calls Tryz.prog 20 #[.string s] w fun e w' => LineEnd s e ∧ Below w.heap.size w w' := by
  have HL : Hid (lineP s.data.toList = takeT 1 r) := yz (by rw [lineP_eq hp]; rfl)
  have HSZ := yz (pcs_size 32 s.data.toList)
  have HCT := yz (pcs_count 32 s.data.toList)
  have cS : Hid (Calls Tryz.prog 17 #[.string s, .int .u8 32] (w.alloc (.cells #[.string ⟨#[]⟩, .string ⟨#[]⟩, .int .i64 0] 57)) fun e w' => (∃ v, e = .returned v ∧ TxtRow w' (w.alloc (.cells #[.string ⟨#[]⟩, .string ⟨#[]⟩, .int .i64 0] 57)).heap.size v (wDrift :: r)) ∧ Below (w.alloc (.cells #[.string ⟨#[]⟩, .string ⟨#[]⟩, .int .i64 0] 57)).heap.size (w.alloc (.cells #[.string ⟨#[]⟩, .string ⟨#[]⟩, .int .i64 0] 57)) w') := yz (by have := l01SplitC_any s 32 (w.alloc (.cells #[.string ⟨#[]⟩, .string ⟨#[]⟩, .int .i64 0] 57)) hs; rw [hp] at this; exact this)
  rw [hp] at HSZ HCT
  clear hp
  have B0 := yz (below1 w (.cells #[.string ⟨#[]⟩, .string ⟨#[]⟩, .int .i64 0] 57))
  have R0 := yz (blk_new w [.string ⟨#[]⟩, .string ⟨#[]⟩, .int .i64 0] 57)
  go_enter Tryz.func20, Tryz.ntmps20
  go_wp2_with fail
  refine (yy cS).mono ?_
  rintro e w1 ⟨⟨v, rfl, ht⟩, hx⟩
  obtain ⟨g, cap, rfl, hc1, hc2, hgb, hg, hcell⟩ := txt_cells ht (by simp)
  have hm8 : maxLen ≤ 9223372036854775807 := by decide +kernel
  have Z := below1 w1 (.cells #[.string ⟨#[100, 114, 105, 102, 116]⟩, .string ⟨#[]⟩, .int .i64 0] 57)
  have B1 := yz (below_call (below_call (yy B0) hx) Z)
  have R1 := yz (((yy R0).kept hx).kept Z)
  have X1 := yz (blk_new w1 [.string ⟨#[100, 114, 105, 102, 116]⟩, .string ⟨#[]⟩, .int .i64 0] 57)
  have c0 : w1.cell? ⟨g, 0, none⟩ = some (.string ⟨#[100, 114, 105, 102, 116]⟩) := hcell 0 _ rfl
  have d0 := cellD c0 Z
  have HCL := yz (fun (j : Nat) x h => cellD (hcell j x h) Z)
  have hrl : w.heap.size < w1.heap.size := by have := hx.size; have := (yy R0).lt; omega
  clear cS ht hx hcell Z R0 B0
  obtain ⟨m, hm⟩ : ∃ m, (wDrift :: r).length = m := ⟨_, rfl⟩
  have HM := yz hm
  rw [hm] at hc1 HCT ⊢
  have hm1 : 1 ≤ m := by rw [← hm]; simp
  have hm9 : m ≤ 8001 := by have := yy HCT; rw [len_size] at this; omega
  clear hm
  go_upto_region 3 with fail
  clear c0
  generalize w1.alloc (.cells #[.string ⟨#[100, 114, 105, 102, 116]⟩, .string ⟨#[]⟩, .int .i64 0] 57) = W2 at *
  generalize w1.heap.size = xb at *
  by_cases h2 : m = 2
  · subst h2
    obtain ⟨y, hy⟩ : ∃ y, r = [y] := by
      have h := yy HM
      match r, h with
      | [y], _ => exact ⟨y, rfl⟩
    have c1 := yy HCL 1 y (by rw [hy]; rfl)
    have hyl : y.length ≤ 8000 := by have := yy HSZ y (by rw [hy]; simp); rw [len_size] at this; omega
    unfold strB at c1
    have HL2 : Hid (lineP s.data.toList = if y = [] then none else some ⟨1, y, 0⟩) := yz (by rw [yy HL, hy]; rfl)
    obtain ⟨yb, hyb⟩ : ∃ yb : ByteArray, (⟨y.toArray⟩ : ByteArray) = yb := ⟨_, rfl⟩
    rw [hyb] at c1
    have HY := yz hyb
    clear hyb hy
    have r0 := (yy R1).cell 0 _ rfl
    have f0 := (yy R1).free 0
    have x0 := (yy X1).cell 0 _ rfl
    have r1 := (yy R1).cell 1 _ rfl
    have f1 := (yy R1).free 1
    have x1 := (yy X1).cell 1 _ rfl
    have r2 := (yy R1).cell 2 _ rfl
    have f2 := (yy R1).free 2
    have x2 := (yy X1).cell 2 _ rfl
    have fx := (yy X1).free 1
    have hne : xb ≠ w.heap.size := by omega
    have hne' : w.heap.size ≠ xb := by omega
    by_cases hz : y = []
    · have he : (yb.toList == []) = true := strL_eq (l := []) (by rw [← yy HY, hz])
      have HR : Hid (lineP s.data.toList = none) := yz (by rw [yy HL2, if_pos hz])
      go_wp2
      go_region
      all_goals
        go_wp2
        refine bodyPost_ret (v := .tuple #[.agg #[.string ⟨#[100, 114, 105, 102, 116]⟩, .string yb, .int .i64 0], .bool false]) ?_ rfl ⟨lineEnd_no (yy HR) _ _ _, ?_⟩
        · refine res_read _ _ w.heap.size _ _ _ false rfl rfl ?_ ?_ ?_ <;> go_simp
        · refine Below.drew ?_
          iterate 3 (refine Below.setCell ?_ (Nat.le_refl w.heap.size) _)
          refine Below.setCell ?_ (Nat.le_of_lt hrl) _
          exact yy B1
    · have he : (yb.toList == []) = false := strL_ne (l := []) (fun e => hz (by rw [← yy HY] at e; have := congrArg (fun b : ByteArray => b.data.toList) e; simpa using this))
      have HR := yz (show lineP s.data.toList = some ⟨1, y, 0⟩ by rw [yy HL2, if_neg hz])
      have HE : Hid (LineEnd s (.returned (.tuple #[.agg #[.string ⟨#[100, 114, 105, 102, 116]⟩, .string yb, .int .i64 0], .bool true]))) := yz (by rw [← yy HY]; exact lineEnd_yes (yy HR))
      go_wp2
      go_region
      all_goals
        go_wp2
        refine bodyPost_ret (v := .tuple #[.agg #[.string ⟨#[100, 114, 105, 102, 116]⟩, .string yb, .int .i64 0], .bool true]) ?_ rfl ⟨yy HE, ?_⟩
        · refine res_read _ _ w.heap.size _ _ _ true rfl rfl ?_ ?_ ?_ <;> go_simp
        · refine Below.drew ?_
          iterate 3 (refine Below.setCell ?_ (Nat.le_refl w.heap.size) _)
          refine Below.setCell ?_ (Nat.le_of_lt hrl) _
          exact yy B1
  · have hb : ((m : Int) == 2) = false := by simpa using (show (m : Int) ≠ 2 by omega)
    have HR : Hid (lineP s.data.toList = none) := yz (by
      rw [yy HL]
      have h := yy HM
      match r, h with
      | [], _ => rfl
      | [y], h => simp at h; omega
      | y :: y2 :: ys, _ => rfl)
    have r0 := (yy R1).cell 0 _ rfl
    have f0 := (yy R1).free 0
    have x0 := (yy X1).cell 0 _ rfl
    have r1 := (yy R1).cell 1 _ rfl
    have f1 := (yy R1).free 1
    have x1 := (yy X1).cell 1 _ rfl
    have r2 := (yy R1).cell 2 _ rfl
    have f2 := (yy R1).free 2
    have x2 := (yy X1).cell 2 _ rfl
    go_wp2
    refine bodyPost_ret (v := .tuple #[.agg #[.string ⟨#[100, 114, 105, 102, 116]⟩, .string ⟨#[]⟩, .int .i64 0], .bool false]) ?_ rfl ⟨lineEnd_no (yy HR) _ _ _, ?_⟩
    · refine res_read _ _ w.heap.size _ _ _ false rfl rfl ?_ ?_ ?_ <;> go_simp
    · skip
      iterate 3 (refine Below.setCell ?_ (Nat.le_refl w.heap.size) _)
      exact yy B1
set_option maxHeartbeats 2000000 in
set_option maxRecDepth 100000 in
theorem l09Read_Ids (s : ByteArray) (r : List (List UInt8)) (w : World) (hs : s.size ≤ 8000) (hp : pcs 32 s.data.toList = wIds :: r) :
    Calls Tryz.prog 20 #[.string s] w fun e w' => LineEnd s e ∧ Below w.heap.size w w' := by
  have HL : Hid (lineP s.data.toList = takeN 2 r) := yz (by rw [lineP_eq hp]; rfl)
  have HSZ := yz (pcs_size 32 s.data.toList)
  have HCT := yz (pcs_count 32 s.data.toList)
  have cS : Hid (Calls Tryz.prog 17 #[.string s, .int .u8 32] (w.alloc (.cells #[.string ⟨#[]⟩, .string ⟨#[]⟩, .int .i64 0] 57)) fun e w' => (∃ v, e = .returned v ∧ TxtRow w' (w.alloc (.cells #[.string ⟨#[]⟩, .string ⟨#[]⟩, .int .i64 0] 57)).heap.size v (wIds :: r)) ∧ Below (w.alloc (.cells #[.string ⟨#[]⟩, .string ⟨#[]⟩, .int .i64 0] 57)).heap.size (w.alloc (.cells #[.string ⟨#[]⟩, .string ⟨#[]⟩, .int .i64 0] 57)) w') := yz (by have := l01SplitC_any s 32 (w.alloc (.cells #[.string ⟨#[]⟩, .string ⟨#[]⟩, .int .i64 0] 57)) hs; rw [hp] at this; exact this)
  rw [hp] at HSZ HCT
  clear hp
  have B0 := yz (below1 w (.cells #[.string ⟨#[]⟩, .string ⟨#[]⟩, .int .i64 0] 57))
  have R0 := yz (blk_new w [.string ⟨#[]⟩, .string ⟨#[]⟩, .int .i64 0] 57)
  go_enter Tryz.func20, Tryz.ntmps20
  go_wp2_with fail
  refine (yy cS).mono ?_
  rintro e w1 ⟨⟨v, rfl, ht⟩, hx⟩
  obtain ⟨g, cap, rfl, hc1, hc2, hgb, hg, hcell⟩ := txt_cells ht (by simp)
  have hm8 : maxLen ≤ 9223372036854775807 := by decide +kernel
  have Z := below1 w1 (.cells #[.string ⟨#[105, 100, 115]⟩, .string ⟨#[]⟩, .int .i64 0] 57)
  have B1 := yz (below_call (below_call (yy B0) hx) Z)
  have R1 := yz (((yy R0).kept hx).kept Z)
  have X1 := yz (blk_new w1 [.string ⟨#[105, 100, 115]⟩, .string ⟨#[]⟩, .int .i64 0] 57)
  have c0 : w1.cell? ⟨g, 0, none⟩ = some (.string ⟨#[105, 100, 115]⟩) := hcell 0 _ rfl
  have d0 := cellD c0 Z
  have HCL := yz (fun (j : Nat) x h => cellD (hcell j x h) Z)
  have hrl : w.heap.size < w1.heap.size := by have := hx.size; have := (yy R0).lt; omega
  clear cS ht hx hcell Z R0 B0
  obtain ⟨m, hm⟩ : ∃ m, (wIds :: r).length = m := ⟨_, rfl⟩
  have HM := yz hm
  rw [hm] at hc1 HCT ⊢
  have hm1 : 1 ≤ m := by rw [← hm]; simp
  have hm9 : m ≤ 8001 := by have := yy HCT; rw [len_size] at this; omega
  clear hm
  go_upto_region 3 with fail
  clear c0
  generalize w1.alloc (.cells #[.string ⟨#[105, 100, 115]⟩, .string ⟨#[]⟩, .int .i64 0] 57) = W2 at *
  generalize w1.heap.size = xb at *
  by_cases h2 : m = 2
  · subst h2
    obtain ⟨y, hy⟩ : ∃ y, r = [y] := by
      have h := yy HM
      match r, h with
      | [y], _ => exact ⟨y, rfl⟩
    have c1 := yy HCL 1 y (by rw [hy]; rfl)
    have hyl : y.length ≤ 8000 := by have := yy HSZ y (by rw [hy]; simp); rw [len_size] at this; omega
    unfold strB at c1
    have HL2 : Hid (lineP s.data.toList = if numOk y = true then some ⟨2, [], valD y⟩ else none) := yz (by rw [yy HL, hy]; rfl)
    obtain ⟨yb, hyb⟩ : ∃ yb : ByteArray, (⟨y.toArray⟩ : ByteArray) = yb := ⟨_, rfl⟩
    rw [hyb] at c1
    have hys : yb.size ≤ 8000 := by rw [← hyb]; show y.toArray.size ≤ 8000; simpa using hyl
    have HY : Hid (yb.data.toList = y) := yz (by rw [← hyb])
    have cN := yz (fun W => l09Num_any yb W hys)
    rw [yy HY] at cN
    clear hyb hy
    obtain ⟨z, hz⟩ : ∃ z : Int, (if numOk y = true then valD y else -1) = z := ⟨_, rfl⟩
    rw [hz] at cN
    have HZ := yz hz
    clear hz
    go_wp2_with fail
    refine (yy cN _).mono ?_
    rintro e W3 ⟨rfl, hw3⟩
    rw [hw3]
    clear hw3 W3
    have r0 := (yy R1).cell 0 _ rfl
    have f0 := (yy R1).free 0
    have x0 := (yy X1).cell 0 _ rfl
    have r1 := (yy R1).cell 1 _ rfl
    have f1 := (yy R1).free 1
    have x1 := (yy X1).cell 1 _ rfl
    have r2 := (yy R1).cell 2 _ rfl
    have f2 := (yy R1).free 2
    have x2 := (yy X1).cell 2 _ rfl
    have fx := (yy X1).free 2
    have hne : xb ≠ w.heap.size := by omega
    have hne' : w.heap.size ≠ xb := by omega
    by_cases hq : numOk y = true
    · have HR := yz (show lineP s.data.toList = some ⟨2, [], z⟩ by rw [yy HL2, if_pos hq, ← yy HZ, if_pos hq])
      have hz0 : decide (0 ≤ z) = true := decide_eq_true (by have := yy HZ; rw [if_pos hq] at this; rw [← this]; exact valD_nonneg hq)
      go_wp2
      go_region
      all_goals
        go_wp2
        refine bodyPost_ret (v := .tuple #[.agg #[.string ⟨#[105, 100, 115]⟩, .string ⟨#[]⟩, .int .i64 z], .bool true]) ?_ rfl ⟨lineEnd_yes (yy HR), ?_⟩
        · refine res_read _ _ w.heap.size _ _ _ true rfl rfl ?_ ?_ ?_ <;> go_simp
        · refine Below.drew ?_
          iterate 3 (refine Below.setCell ?_ (Nat.le_refl w.heap.size) _)
          refine Below.setCell ?_ (Nat.le_of_lt hrl) _
          exact yy B1
    · have HR := yz (show lineP s.data.toList = none by rw [yy HL2, if_neg hq])
      have hz0 : decide (0 ≤ z) = false := decide_eq_false (by have := yy HZ; rw [if_neg hq] at this; omega)
      go_wp2
      go_region
      all_goals
        go_wp2
        refine bodyPost_ret (v := .tuple #[.agg #[.string ⟨#[105, 100, 115]⟩, .string ⟨#[]⟩, .int .i64 z], .bool false]) ?_ rfl ⟨lineEnd_no (yy HR) _ _ _, ?_⟩
        · refine res_read _ _ w.heap.size _ _ _ false rfl rfl ?_ ?_ ?_ <;> go_simp
        · refine Below.drew ?_
          iterate 3 (refine Below.setCell ?_ (Nat.le_refl w.heap.size) _)
          refine Below.setCell ?_ (Nat.le_of_lt hrl) _
          exact yy B1
  · have hb : ((m : Int) == 2) = false := by simpa using (show (m : Int) ≠ 2 by omega)
    have HR : Hid (lineP s.data.toList = none) := yz (by
      rw [yy HL]
      have h := yy HM
      match r, h with
      | [], _ => rfl
      | [y], h => simp at h; omega
      | y :: y2 :: ys, _ => rfl)
    have r0 := (yy R1).cell 0 _ rfl
    have f0 := (yy R1).free 0
    have x0 := (yy X1).cell 0 _ rfl
    have r1 := (yy R1).cell 1 _ rfl
    have f1 := (yy R1).free 1
    have x1 := (yy X1).cell 1 _ rfl
    have r2 := (yy R1).cell 2 _ rfl
    have f2 := (yy R1).free 2
    have x2 := (yy X1).cell 2 _ rfl
    go_wp2
    refine bodyPost_ret (v := .tuple #[.agg #[.string ⟨#[105, 100, 115]⟩, .string ⟨#[]⟩, .int .i64 0], .bool false]) ?_ rfl ⟨lineEnd_no (yy HR) _ _ _, ?_⟩
    · refine res_read _ _ w.heap.size _ _ _ false rfl rfl ?_ ?_ ?_ <;> go_simp
    · skip
      iterate 3 (refine Below.setCell ?_ (Nat.le_refl w.heap.size) _)
      exact yy B1
set_option maxHeartbeats 2000000 in
set_option maxRecDepth 100000 in
theorem l09Read_Move (s : ByteArray) (r : List (List UInt8)) (w : World) (hs : s.size ≤ 8000) (hp : pcs 32 s.data.toList = wMove :: r) :
    Calls Tryz.prog 20 #[.string s] w fun e w' => LineEnd s e ∧ Below w.heap.size w w' := by
  have HL : Hid (lineP s.data.toList = takeT 3 r) := yz (by rw [lineP_eq hp]; rfl)
  have HSZ := yz (pcs_size 32 s.data.toList)
  have HCT := yz (pcs_count 32 s.data.toList)
  have cS : Hid (Calls Tryz.prog 17 #[.string s, .int .u8 32] (w.alloc (.cells #[.string ⟨#[]⟩, .string ⟨#[]⟩, .int .i64 0] 57)) fun e w' => (∃ v, e = .returned v ∧ TxtRow w' (w.alloc (.cells #[.string ⟨#[]⟩, .string ⟨#[]⟩, .int .i64 0] 57)).heap.size v (wMove :: r)) ∧ Below (w.alloc (.cells #[.string ⟨#[]⟩, .string ⟨#[]⟩, .int .i64 0] 57)).heap.size (w.alloc (.cells #[.string ⟨#[]⟩, .string ⟨#[]⟩, .int .i64 0] 57)) w') := yz (by have := l01SplitC_any s 32 (w.alloc (.cells #[.string ⟨#[]⟩, .string ⟨#[]⟩, .int .i64 0] 57)) hs; rw [hp] at this; exact this)
  rw [hp] at HSZ HCT
  clear hp
  have B0 := yz (below1 w (.cells #[.string ⟨#[]⟩, .string ⟨#[]⟩, .int .i64 0] 57))
  have R0 := yz (blk_new w [.string ⟨#[]⟩, .string ⟨#[]⟩, .int .i64 0] 57)
  go_enter Tryz.func20, Tryz.ntmps20
  go_wp2_with fail
  refine (yy cS).mono ?_
  rintro e w1 ⟨⟨v, rfl, ht⟩, hx⟩
  obtain ⟨g, cap, rfl, hc1, hc2, hgb, hg, hcell⟩ := txt_cells ht (by simp)
  have hm8 : maxLen ≤ 9223372036854775807 := by decide +kernel
  have Z := below1 w1 (.cells #[.string ⟨#[109, 111, 118, 101]⟩, .string ⟨#[]⟩, .int .i64 0] 57)
  have B1 := yz (below_call (below_call (yy B0) hx) Z)
  have R1 := yz (((yy R0).kept hx).kept Z)
  have X1 := yz (blk_new w1 [.string ⟨#[109, 111, 118, 101]⟩, .string ⟨#[]⟩, .int .i64 0] 57)
  have c0 : w1.cell? ⟨g, 0, none⟩ = some (.string ⟨#[109, 111, 118, 101]⟩) := hcell 0 _ rfl
  have d0 := cellD c0 Z
  have HCL := yz (fun (j : Nat) x h => cellD (hcell j x h) Z)
  have hrl : w.heap.size < w1.heap.size := by have := hx.size; have := (yy R0).lt; omega
  clear cS ht hx hcell Z R0 B0
  obtain ⟨m, hm⟩ : ∃ m, (wMove :: r).length = m := ⟨_, rfl⟩
  have HM := yz hm
  rw [hm] at hc1 HCT ⊢
  have hm1 : 1 ≤ m := by rw [← hm]; simp
  have hm9 : m ≤ 8001 := by have := yy HCT; rw [len_size] at this; omega
  clear hm
  go_upto_region 3 with fail
  clear c0
  generalize w1.alloc (.cells #[.string ⟨#[109, 111, 118, 101]⟩, .string ⟨#[]⟩, .int .i64 0] 57) = W2 at *
  generalize w1.heap.size = xb at *
  by_cases h2 : m = 2
  · subst h2
    obtain ⟨y, hy⟩ : ∃ y, r = [y] := by
      have h := yy HM
      match r, h with
      | [y], _ => exact ⟨y, rfl⟩
    have c1 := yy HCL 1 y (by rw [hy]; rfl)
    have hyl : y.length ≤ 8000 := by have := yy HSZ y (by rw [hy]; simp); rw [len_size] at this; omega
    unfold strB at c1
    have HL2 : Hid (lineP s.data.toList = if y = [] then none else some ⟨3, y, 0⟩) := yz (by rw [yy HL, hy]; rfl)
    obtain ⟨yb, hyb⟩ : ∃ yb : ByteArray, (⟨y.toArray⟩ : ByteArray) = yb := ⟨_, rfl⟩
    rw [hyb] at c1
    have HY := yz hyb
    clear hyb hy
    have r0 := (yy R1).cell 0 _ rfl
    have f0 := (yy R1).free 0
    have x0 := (yy X1).cell 0 _ rfl
    have r1 := (yy R1).cell 1 _ rfl
    have f1 := (yy R1).free 1
    have x1 := (yy X1).cell 1 _ rfl
    have r2 := (yy R1).cell 2 _ rfl
    have f2 := (yy R1).free 2
    have x2 := (yy X1).cell 2 _ rfl
    have fx := (yy X1).free 1
    have hne : xb ≠ w.heap.size := by omega
    have hne' : w.heap.size ≠ xb := by omega
    by_cases hz : y = []
    · have he : (yb.toList == []) = true := strL_eq (l := []) (by rw [← yy HY, hz])
      have HR : Hid (lineP s.data.toList = none) := yz (by rw [yy HL2, if_pos hz])
      go_wp2
      go_region
      all_goals
        go_wp2
        refine bodyPost_ret (v := .tuple #[.agg #[.string ⟨#[109, 111, 118, 101]⟩, .string yb, .int .i64 0], .bool false]) ?_ rfl ⟨lineEnd_no (yy HR) _ _ _, ?_⟩
        · refine res_read _ _ w.heap.size _ _ _ false rfl rfl ?_ ?_ ?_ <;> go_simp
        · refine Below.drew ?_
          iterate 3 (refine Below.setCell ?_ (Nat.le_refl w.heap.size) _)
          refine Below.setCell ?_ (Nat.le_of_lt hrl) _
          exact yy B1
    · have he : (yb.toList == []) = false := strL_ne (l := []) (fun e => hz (by rw [← yy HY] at e; have := congrArg (fun b : ByteArray => b.data.toList) e; simpa using this))
      have HR := yz (show lineP s.data.toList = some ⟨3, y, 0⟩ by rw [yy HL2, if_neg hz])
      have HE : Hid (LineEnd s (.returned (.tuple #[.agg #[.string ⟨#[109, 111, 118, 101]⟩, .string yb, .int .i64 0], .bool true]))) := yz (by rw [← yy HY]; exact lineEnd_yes (yy HR))
      go_wp2
      go_region
      all_goals
        go_wp2
        refine bodyPost_ret (v := .tuple #[.agg #[.string ⟨#[109, 111, 118, 101]⟩, .string yb, .int .i64 0], .bool true]) ?_ rfl ⟨yy HE, ?_⟩
        · refine res_read _ _ w.heap.size _ _ _ true rfl rfl ?_ ?_ ?_ <;> go_simp
        · refine Below.drew ?_
          iterate 3 (refine Below.setCell ?_ (Nat.le_refl w.heap.size) _)
          refine Below.setCell ?_ (Nat.le_of_lt hrl) _
          exact yy B1
  · have hb : ((m : Int) == 2) = false := by simpa using (show (m : Int) ≠ 2 by omega)
    have HR : Hid (lineP s.data.toList = none) := yz (by
      rw [yy HL]
      have h := yy HM
      match r, h with
      | [], _ => rfl
      | [y], h => simp at h; omega
      | y :: y2 :: ys, _ => rfl)
    have r0 := (yy R1).cell 0 _ rfl
    have f0 := (yy R1).free 0
    have x0 := (yy X1).cell 0 _ rfl
    have r1 := (yy R1).cell 1 _ rfl
    have f1 := (yy R1).free 1
    have x1 := (yy X1).cell 1 _ rfl
    have r2 := (yy R1).cell 2 _ rfl
    have f2 := (yy R1).free 2
    have x2 := (yy X1).cell 2 _ rfl
    go_wp2
    refine bodyPost_ret (v := .tuple #[.agg #[.string ⟨#[109, 111, 118, 101]⟩, .string ⟨#[]⟩, .int .i64 0], .bool false]) ?_ rfl ⟨lineEnd_no (yy HR) _ _ _, ?_⟩
    · refine res_read _ _ w.heap.size _ _ _ false rfl rfl ?_ ?_ ?_ <;> go_simp
    · skip
      iterate 3 (refine Below.setCell ?_ (Nat.le_refl w.heap.size) _)
      exact yy B1
set_option maxHeartbeats 2000000 in
set_option maxRecDepth 100000 in
theorem l09Read_Reset (s : ByteArray) (r : List (List UInt8)) (w : World) (hs : s.size ≤ 8000) (hp : pcs 32 s.data.toList = wReset :: r) :
    Calls Tryz.prog 20 #[.string s] w fun e w' => LineEnd s e ∧ Below w.heap.size w w' := by
  have HL : Hid (lineP s.data.toList = take0 4 r) := yz (by rw [lineP_eq hp]; rfl)
  have HSZ := yz (pcs_size 32 s.data.toList)
  have HCT := yz (pcs_count 32 s.data.toList)
  have cS : Hid (Calls Tryz.prog 17 #[.string s, .int .u8 32] (w.alloc (.cells #[.string ⟨#[]⟩, .string ⟨#[]⟩, .int .i64 0] 57)) fun e w' => (∃ v, e = .returned v ∧ TxtRow w' (w.alloc (.cells #[.string ⟨#[]⟩, .string ⟨#[]⟩, .int .i64 0] 57)).heap.size v (wReset :: r)) ∧ Below (w.alloc (.cells #[.string ⟨#[]⟩, .string ⟨#[]⟩, .int .i64 0] 57)).heap.size (w.alloc (.cells #[.string ⟨#[]⟩, .string ⟨#[]⟩, .int .i64 0] 57)) w') := yz (by have := l01SplitC_any s 32 (w.alloc (.cells #[.string ⟨#[]⟩, .string ⟨#[]⟩, .int .i64 0] 57)) hs; rw [hp] at this; exact this)
  rw [hp] at HSZ HCT
  clear hp
  have B0 := yz (below1 w (.cells #[.string ⟨#[]⟩, .string ⟨#[]⟩, .int .i64 0] 57))
  have R0 := yz (blk_new w [.string ⟨#[]⟩, .string ⟨#[]⟩, .int .i64 0] 57)
  go_enter Tryz.func20, Tryz.ntmps20
  go_wp2_with fail
  refine (yy cS).mono ?_
  rintro e w1 ⟨⟨v, rfl, ht⟩, hx⟩
  obtain ⟨g, cap, rfl, hc1, hc2, hgb, hg, hcell⟩ := txt_cells ht (by simp)
  have hm8 : maxLen ≤ 9223372036854775807 := by decide +kernel
  have Z := below1 w1 (.cells #[.string ⟨#[114, 101, 115, 101, 116]⟩, .string ⟨#[]⟩, .int .i64 0] 57)
  have B1 := yz (below_call (below_call (yy B0) hx) Z)
  have R1 := yz (((yy R0).kept hx).kept Z)
  have X1 := yz (blk_new w1 [.string ⟨#[114, 101, 115, 101, 116]⟩, .string ⟨#[]⟩, .int .i64 0] 57)
  have c0 : w1.cell? ⟨g, 0, none⟩ = some (.string ⟨#[114, 101, 115, 101, 116]⟩) := hcell 0 _ rfl
  have d0 := cellD c0 Z
  have HCL := yz (fun (j : Nat) x h => cellD (hcell j x h) Z)
  have hrl : w.heap.size < w1.heap.size := by have := hx.size; have := (yy R0).lt; omega
  clear cS ht hx hcell Z R0 B0
  obtain ⟨m, hm⟩ : ∃ m, (wReset :: r).length = m := ⟨_, rfl⟩
  have HM := yz hm
  rw [hm] at hc1 HCT ⊢
  have hm1 : 1 ≤ m := by rw [← hm]; simp
  have hm9 : m ≤ 8001 := by have := yy HCT; rw [len_size] at this; omega
  clear hm
  go_upto_region 3 with fail
  clear c0
  generalize w1.alloc (.cells #[.string ⟨#[114, 101, 115, 101, 116]⟩, .string ⟨#[]⟩, .int .i64 0] 57) = W2 at *
  generalize w1.heap.size = xb at *
  have r0 := (yy R1).cell 0 _ rfl
  have f0 := (yy R1).free 0
  have x0 := (yy X1).cell 0 _ rfl
  have r1 := (yy R1).cell 1 _ rfl
  have f1 := (yy R1).free 1
  have x1 := (yy X1).cell 1 _ rfl
  have r2 := (yy R1).cell 2 _ rfl
  have f2 := (yy R1).free 2
  have x2 := (yy X1).cell 2 _ rfl
  by_cases h1 : m = 1
  · subst h1
    have HR : Hid (lineP s.data.toList = some ⟨4, [], 0⟩) := yz (by
      have : r = [] := by have := yy HM; simpa using this
      rw [yy HL, this]
      rfl)
    go_wp2
    refine bodyPost_ret (v := .tuple #[.agg #[.string ⟨#[114, 101, 115, 101, 116]⟩, .string ⟨#[]⟩, .int .i64 0], .bool true]) ?_ rfl ⟨lineEnd_yes (yy HR), ?_⟩
    · refine res_read _ _ w.heap.size _ _ _ true rfl rfl ?_ ?_ ?_ <;> go_simp
    · skip
      iterate 3 (refine Below.setCell ?_ (Nat.le_refl w.heap.size) _)
      exact yy B1
  · have hb : ((m : Int) == 1) = false := by simpa using (show (m : Int) ≠ 1 by omega)
    have HR : Hid (lineP s.data.toList = none) := yz (by
      have : r ≠ [] := fun e => by have h := yy HM; rw [e] at h; simp at h; omega
      rw [yy HL]
      match r, this with
      | y :: ys, _ => rfl)
    go_wp2
    refine bodyPost_ret (v := .tuple #[.agg #[.string ⟨#[114, 101, 115, 101, 116]⟩, .string ⟨#[]⟩, .int .i64 0], .bool false]) ?_ rfl ⟨lineEnd_no (yy HR) _ _ _, ?_⟩
    · refine res_read _ _ w.heap.size _ _ _ false rfl rfl ?_ ?_ ?_ <;> go_simp
    · skip
      iterate 3 (refine Below.setCell ?_ (Nat.le_refl w.heap.size) _)
      exact yy B1
set_option maxHeartbeats 2000000 in
set_option maxRecDepth 100000 in
theorem l09Read_See (s : ByteArray) (r : List (List UInt8)) (w : World) (hs : s.size ≤ 8000) (hp : pcs 32 s.data.toList = wSee :: r) :
    Calls Tryz.prog 20 #[.string s] w fun e w' => LineEnd s e ∧ Below w.heap.size w w' := by
  have HL : Hid (lineP s.data.toList = takeN 5 r) := yz (by rw [lineP_eq hp]; rfl)
  have HSZ := yz (pcs_size 32 s.data.toList)
  have HCT := yz (pcs_count 32 s.data.toList)
  have cS : Hid (Calls Tryz.prog 17 #[.string s, .int .u8 32] (w.alloc (.cells #[.string ⟨#[]⟩, .string ⟨#[]⟩, .int .i64 0] 57)) fun e w' => (∃ v, e = .returned v ∧ TxtRow w' (w.alloc (.cells #[.string ⟨#[]⟩, .string ⟨#[]⟩, .int .i64 0] 57)).heap.size v (wSee :: r)) ∧ Below (w.alloc (.cells #[.string ⟨#[]⟩, .string ⟨#[]⟩, .int .i64 0] 57)).heap.size (w.alloc (.cells #[.string ⟨#[]⟩, .string ⟨#[]⟩, .int .i64 0] 57)) w') := yz (by have := l01SplitC_any s 32 (w.alloc (.cells #[.string ⟨#[]⟩, .string ⟨#[]⟩, .int .i64 0] 57)) hs; rw [hp] at this; exact this)
  rw [hp] at HSZ HCT
  clear hp
  have B0 := yz (below1 w (.cells #[.string ⟨#[]⟩, .string ⟨#[]⟩, .int .i64 0] 57))
  have R0 := yz (blk_new w [.string ⟨#[]⟩, .string ⟨#[]⟩, .int .i64 0] 57)
  go_enter Tryz.func20, Tryz.ntmps20
  go_wp2_with fail
  refine (yy cS).mono ?_
  rintro e w1 ⟨⟨v, rfl, ht⟩, hx⟩
  obtain ⟨g, cap, rfl, hc1, hc2, hgb, hg, hcell⟩ := txt_cells ht (by simp)
  have hm8 : maxLen ≤ 9223372036854775807 := by decide +kernel
  have Z := below1 w1 (.cells #[.string ⟨#[115, 101, 101]⟩, .string ⟨#[]⟩, .int .i64 0] 57)
  have B1 := yz (below_call (below_call (yy B0) hx) Z)
  have R1 := yz (((yy R0).kept hx).kept Z)
  have X1 := yz (blk_new w1 [.string ⟨#[115, 101, 101]⟩, .string ⟨#[]⟩, .int .i64 0] 57)
  have c0 : w1.cell? ⟨g, 0, none⟩ = some (.string ⟨#[115, 101, 101]⟩) := hcell 0 _ rfl
  have d0 := cellD c0 Z
  have HCL := yz (fun (j : Nat) x h => cellD (hcell j x h) Z)
  have hrl : w.heap.size < w1.heap.size := by have := hx.size; have := (yy R0).lt; omega
  clear cS ht hx hcell Z R0 B0
  obtain ⟨m, hm⟩ : ∃ m, (wSee :: r).length = m := ⟨_, rfl⟩
  have HM := yz hm
  rw [hm] at hc1 HCT ⊢
  have hm1 : 1 ≤ m := by rw [← hm]; simp
  have hm9 : m ≤ 8001 := by have := yy HCT; rw [len_size] at this; omega
  clear hm
  go_upto_region 3 with fail
  clear c0
  generalize w1.alloc (.cells #[.string ⟨#[115, 101, 101]⟩, .string ⟨#[]⟩, .int .i64 0] 57) = W2 at *
  generalize w1.heap.size = xb at *
  by_cases h2 : m = 2
  · subst h2
    obtain ⟨y, hy⟩ : ∃ y, r = [y] := by
      have h := yy HM
      match r, h with
      | [y], _ => exact ⟨y, rfl⟩
    have c1 := yy HCL 1 y (by rw [hy]; rfl)
    have hyl : y.length ≤ 8000 := by have := yy HSZ y (by rw [hy]; simp); rw [len_size] at this; omega
    unfold strB at c1
    have HL2 : Hid (lineP s.data.toList = if numOk y = true then some ⟨5, [], valD y⟩ else none) := yz (by rw [yy HL, hy]; rfl)
    obtain ⟨yb, hyb⟩ : ∃ yb : ByteArray, (⟨y.toArray⟩ : ByteArray) = yb := ⟨_, rfl⟩
    rw [hyb] at c1
    have hys : yb.size ≤ 8000 := by rw [← hyb]; show y.toArray.size ≤ 8000; simpa using hyl
    have HY : Hid (yb.data.toList = y) := yz (by rw [← hyb])
    have cN := yz (fun W => l09Num_any yb W hys)
    rw [yy HY] at cN
    clear hyb hy
    obtain ⟨z, hz⟩ : ∃ z : Int, (if numOk y = true then valD y else -1) = z := ⟨_, rfl⟩
    rw [hz] at cN
    have HZ := yz hz
    clear hz
    go_wp2_with fail
    refine (yy cN _).mono ?_
    rintro e W3 ⟨rfl, hw3⟩
    rw [hw3]
    clear hw3 W3
    have r0 := (yy R1).cell 0 _ rfl
    have f0 := (yy R1).free 0
    have x0 := (yy X1).cell 0 _ rfl
    have r1 := (yy R1).cell 1 _ rfl
    have f1 := (yy R1).free 1
    have x1 := (yy X1).cell 1 _ rfl
    have r2 := (yy R1).cell 2 _ rfl
    have f2 := (yy R1).free 2
    have x2 := (yy X1).cell 2 _ rfl
    have fx := (yy X1).free 2
    have hne : xb ≠ w.heap.size := by omega
    have hne' : w.heap.size ≠ xb := by omega
    by_cases hq : numOk y = true
    · have HR := yz (show lineP s.data.toList = some ⟨5, [], z⟩ by rw [yy HL2, if_pos hq, ← yy HZ, if_pos hq])
      have hz0 : decide (0 ≤ z) = true := decide_eq_true (by have := yy HZ; rw [if_pos hq] at this; rw [← this]; exact valD_nonneg hq)
      go_wp2
      go_region
      all_goals
        go_wp2
        refine bodyPost_ret (v := .tuple #[.agg #[.string ⟨#[115, 101, 101]⟩, .string ⟨#[]⟩, .int .i64 z], .bool true]) ?_ rfl ⟨lineEnd_yes (yy HR), ?_⟩
        · refine res_read _ _ w.heap.size _ _ _ true rfl rfl ?_ ?_ ?_ <;> go_simp
        · refine Below.drew ?_
          iterate 3 (refine Below.setCell ?_ (Nat.le_refl w.heap.size) _)
          refine Below.setCell ?_ (Nat.le_of_lt hrl) _
          exact yy B1
    · have HR := yz (show lineP s.data.toList = none by rw [yy HL2, if_neg hq])
      have hz0 : decide (0 ≤ z) = false := decide_eq_false (by have := yy HZ; rw [if_neg hq] at this; omega)
      go_wp2
      go_region
      all_goals
        go_wp2
        refine bodyPost_ret (v := .tuple #[.agg #[.string ⟨#[115, 101, 101]⟩, .string ⟨#[]⟩, .int .i64 z], .bool false]) ?_ rfl ⟨lineEnd_no (yy HR) _ _ _, ?_⟩
        · refine res_read _ _ w.heap.size _ _ _ false rfl rfl ?_ ?_ ?_ <;> go_simp
        · refine Below.drew ?_
          iterate 3 (refine Below.setCell ?_ (Nat.le_refl w.heap.size) _)
          refine Below.setCell ?_ (Nat.le_of_lt hrl) _
          exact yy B1
  · have hb : ((m : Int) == 2) = false := by simpa using (show (m : Int) ≠ 2 by omega)
    have HR : Hid (lineP s.data.toList = none) := yz (by
      rw [yy HL]
      have h := yy HM
      match r, h with
      | [], _ => rfl
      | [y], h => simp at h; omega
      | y :: y2 :: ys, _ => rfl)
    have r0 := (yy R1).cell 0 _ rfl
    have f0 := (yy R1).free 0
    have x0 := (yy X1).cell 0 _ rfl
    have r1 := (yy R1).cell 1 _ rfl
    have f1 := (yy R1).free 1
    have x1 := (yy X1).cell 1 _ rfl
    have r2 := (yy R1).cell 2 _ rfl
    have f2 := (yy R1).free 2
    have x2 := (yy X1).cell 2 _ rfl
    go_wp2
    refine bodyPost_ret (v := .tuple #[.agg #[.string ⟨#[115, 101, 101]⟩, .string ⟨#[]⟩, .int .i64 0], .bool false]) ?_ rfl ⟨lineEnd_no (yy HR) _ _ _, ?_⟩
    · refine res_read _ _ w.heap.size _ _ _ false rfl rfl ?_ ?_ ?_ <;> go_simp
    · skip
      iterate 3 (refine Below.setCell ?_ (Nat.le_refl w.heap.size) _)
      exact yy B1
set_option maxHeartbeats 2000000 in
set_option maxRecDepth 100000 in
theorem l09Read_State (s : ByteArray) (r : List (List UInt8)) (w : World) (hs : s.size ≤ 8000) (hp : pcs 32 s.data.toList = wState :: r) :
    Calls Tryz.prog 20 #[.string s] w fun e w' => LineEnd s e ∧ Below w.heap.size w w' := by
  have HL : Hid (lineP s.data.toList = take0 6 r) := yz (by rw [lineP_eq hp]; rfl)
  have HSZ := yz (pcs_size 32 s.data.toList)
  have HCT := yz (pcs_count 32 s.data.toList)
  have cS : Hid (Calls Tryz.prog 17 #[.string s, .int .u8 32] (w.alloc (.cells #[.string ⟨#[]⟩, .string ⟨#[]⟩, .int .i64 0] 57)) fun e w' => (∃ v, e = .returned v ∧ TxtRow w' (w.alloc (.cells #[.string ⟨#[]⟩, .string ⟨#[]⟩, .int .i64 0] 57)).heap.size v (wState :: r)) ∧ Below (w.alloc (.cells #[.string ⟨#[]⟩, .string ⟨#[]⟩, .int .i64 0] 57)).heap.size (w.alloc (.cells #[.string ⟨#[]⟩, .string ⟨#[]⟩, .int .i64 0] 57)) w') := yz (by have := l01SplitC_any s 32 (w.alloc (.cells #[.string ⟨#[]⟩, .string ⟨#[]⟩, .int .i64 0] 57)) hs; rw [hp] at this; exact this)
  rw [hp] at HSZ HCT
  clear hp
  have B0 := yz (below1 w (.cells #[.string ⟨#[]⟩, .string ⟨#[]⟩, .int .i64 0] 57))
  have R0 := yz (blk_new w [.string ⟨#[]⟩, .string ⟨#[]⟩, .int .i64 0] 57)
  go_enter Tryz.func20, Tryz.ntmps20
  go_wp2_with fail
  refine (yy cS).mono ?_
  rintro e w1 ⟨⟨v, rfl, ht⟩, hx⟩
  obtain ⟨g, cap, rfl, hc1, hc2, hgb, hg, hcell⟩ := txt_cells ht (by simp)
  have hm8 : maxLen ≤ 9223372036854775807 := by decide +kernel
  have Z := below1 w1 (.cells #[.string ⟨#[115, 116, 97, 116, 101]⟩, .string ⟨#[]⟩, .int .i64 0] 57)
  have B1 := yz (below_call (below_call (yy B0) hx) Z)
  have R1 := yz (((yy R0).kept hx).kept Z)
  have X1 := yz (blk_new w1 [.string ⟨#[115, 116, 97, 116, 101]⟩, .string ⟨#[]⟩, .int .i64 0] 57)
  have c0 : w1.cell? ⟨g, 0, none⟩ = some (.string ⟨#[115, 116, 97, 116, 101]⟩) := hcell 0 _ rfl
  have d0 := cellD c0 Z
  have HCL := yz (fun (j : Nat) x h => cellD (hcell j x h) Z)
  have hrl : w.heap.size < w1.heap.size := by have := hx.size; have := (yy R0).lt; omega
  clear cS ht hx hcell Z R0 B0
  obtain ⟨m, hm⟩ : ∃ m, (wState :: r).length = m := ⟨_, rfl⟩
  have HM := yz hm
  rw [hm] at hc1 HCT ⊢
  have hm1 : 1 ≤ m := by rw [← hm]; simp
  have hm9 : m ≤ 8001 := by have := yy HCT; rw [len_size] at this; omega
  clear hm
  go_upto_region 3 with fail
  clear c0
  generalize w1.alloc (.cells #[.string ⟨#[115, 116, 97, 116, 101]⟩, .string ⟨#[]⟩, .int .i64 0] 57) = W2 at *
  generalize w1.heap.size = xb at *
  have r0 := (yy R1).cell 0 _ rfl
  have f0 := (yy R1).free 0
  have x0 := (yy X1).cell 0 _ rfl
  have r1 := (yy R1).cell 1 _ rfl
  have f1 := (yy R1).free 1
  have x1 := (yy X1).cell 1 _ rfl
  have r2 := (yy R1).cell 2 _ rfl
  have f2 := (yy R1).free 2
  have x2 := (yy X1).cell 2 _ rfl
  by_cases h1 : m = 1
  · subst h1
    have HR : Hid (lineP s.data.toList = some ⟨6, [], 0⟩) := yz (by
      have : r = [] := by have := yy HM; simpa using this
      rw [yy HL, this]
      rfl)
    go_wp2
    refine bodyPost_ret (v := .tuple #[.agg #[.string ⟨#[115, 116, 97, 116, 101]⟩, .string ⟨#[]⟩, .int .i64 0], .bool true]) ?_ rfl ⟨lineEnd_yes (yy HR), ?_⟩
    · refine res_read _ _ w.heap.size _ _ _ true rfl rfl ?_ ?_ ?_ <;> go_simp
    · skip
      iterate 3 (refine Below.setCell ?_ (Nat.le_refl w.heap.size) _)
      exact yy B1
  · have hb : ((m : Int) == 1) = false := by simpa using (show (m : Int) ≠ 1 by omega)
    have HR : Hid (lineP s.data.toList = none) := yz (by
      have : r ≠ [] := fun e => by have h := yy HM; rw [e] at h; simp at h; omega
      rw [yy HL]
      match r, this with
      | y :: ys, _ => rfl)
    go_wp2
    refine bodyPost_ret (v := .tuple #[.agg #[.string ⟨#[115, 116, 97, 116, 101]⟩, .string ⟨#[]⟩, .int .i64 0], .bool false]) ?_ rfl ⟨lineEnd_no (yy HR) _ _ _, ?_⟩
    · refine res_read _ _ w.heap.size _ _ _ false rfl rfl ?_ ?_ ?_ <;> go_simp
    · skip
      iterate 3 (refine Below.setCell ?_ (Nat.le_refl w.heap.size) _)
      exact yy B1
set_option maxHeartbeats 2000000 in
set_option maxRecDepth 100000 in
theorem l09Read_none (s : ByteArray) (p0 : List UInt8) (r : List (List UInt8)) (w : World) (hs : s.size ≤ 8000) (hp : pcs 32 s.data.toList = p0 :: r) (nBlind : p0 ≠ wBlind) (nDrift : p0 ≠ wDrift) (nIds : p0 ≠ wIds) (nMove : p0 ≠ wMove) (nReset : p0 ≠ wReset) (nSee : p0 ≠ wSee) (nState : p0 ≠ wState) :
    Calls Tryz.prog 20 #[.string s] w fun e w' => LineEnd s e ∧ Below w.heap.size w w' := by
  have HL : Hid (lineP s.data.toList = none) := yz (by rw [lineP_eq hp, if_neg nBlind, if_neg nDrift, if_neg nIds, if_neg nMove, if_neg nReset, if_neg nSee, if_neg nState])
  obtain ⟨pb, hpb⟩ : ∃ pb : ByteArray, (⟨p0.toArray⟩ : ByteArray) = pb := ⟨_, rfl⟩
  have eBlind : (pb.toList == [98, 108, 105, 110, 100]) = false := strL_ne (l := [98, 108, 105, 110, 100]) (fun e => nBlind (by rw [← hpb] at e; have := congrArg (fun b : ByteArray => b.data.toList) e; simpa [wBlind] using this))
  have eDrift : (pb.toList == [100, 114, 105, 102, 116]) = false := strL_ne (l := [100, 114, 105, 102, 116]) (fun e => nDrift (by rw [← hpb] at e; have := congrArg (fun b : ByteArray => b.data.toList) e; simpa [wDrift] using this))
  have eIds : (pb.toList == [105, 100, 115]) = false := strL_ne (l := [105, 100, 115]) (fun e => nIds (by rw [← hpb] at e; have := congrArg (fun b : ByteArray => b.data.toList) e; simpa [wIds] using this))
  have eMove : (pb.toList == [109, 111, 118, 101]) = false := strL_ne (l := [109, 111, 118, 101]) (fun e => nMove (by rw [← hpb] at e; have := congrArg (fun b : ByteArray => b.data.toList) e; simpa [wMove] using this))
  have eReset : (pb.toList == [114, 101, 115, 101, 116]) = false := strL_ne (l := [114, 101, 115, 101, 116]) (fun e => nReset (by rw [← hpb] at e; have := congrArg (fun b : ByteArray => b.data.toList) e; simpa [wReset] using this))
  have eSee : (pb.toList == [115, 101, 101]) = false := strL_ne (l := [115, 101, 101]) (fun e => nSee (by rw [← hpb] at e; have := congrArg (fun b : ByteArray => b.data.toList) e; simpa [wSee] using this))
  have eState : (pb.toList == [115, 116, 97, 116, 101]) = false := strL_ne (l := [115, 116, 97, 116, 101]) (fun e => nState (by rw [← hpb] at e; have := congrArg (fun b : ByteArray => b.data.toList) e; simpa [wState] using this))
  have HCT := yz (pcs_count 32 s.data.toList)
  have cS : Hid (Calls Tryz.prog 17 #[.string s, .int .u8 32] (w.alloc (.cells #[.string ⟨#[]⟩, .string ⟨#[]⟩, .int .i64 0] 57)) fun e w' => (∃ v, e = .returned v ∧ TxtRow w' (w.alloc (.cells #[.string ⟨#[]⟩, .string ⟨#[]⟩, .int .i64 0] 57)).heap.size v (p0 :: r)) ∧ Below (w.alloc (.cells #[.string ⟨#[]⟩, .string ⟨#[]⟩, .int .i64 0] 57)).heap.size (w.alloc (.cells #[.string ⟨#[]⟩, .string ⟨#[]⟩, .int .i64 0] 57)) w') := yz (by have := l01SplitC_any s 32 (w.alloc (.cells #[.string ⟨#[]⟩, .string ⟨#[]⟩, .int .i64 0] 57)) hs; rw [hp] at this; exact this)
  rw [hp] at HCT
  clear hp
  have B0 := yz (below1 w (.cells #[.string ⟨#[]⟩, .string ⟨#[]⟩, .int .i64 0] 57))
  have R0 := yz (blk_new w [.string ⟨#[]⟩, .string ⟨#[]⟩, .int .i64 0] 57)
  go_enter Tryz.func20, Tryz.ntmps20
  go_wp2_with fail
  refine (yy cS).mono ?_
  rintro e w1 ⟨⟨v, rfl, ht⟩, hx⟩
  obtain ⟨g, cap, rfl, hc1, hc2, hgb, hg, hcell⟩ := txt_cells ht (by simp)
  have hm8 : maxLen ≤ 9223372036854775807 := by decide +kernel
  have Z := below1 w1 (.cells #[.string pb, .string ⟨#[]⟩, .int .i64 0] 57)
  have B1 := yz (below_call (below_call (yy B0) hx) Z)
  have R1 := yz (((yy R0).kept hx).kept Z)
  have X1 := yz (blk_new w1 [.string pb, .string ⟨#[]⟩, .int .i64 0] 57)
  have c0 : w1.cell? ⟨g, 0, none⟩ = some (.string pb) := by rw [← hpb]; exact hcell 0 _ rfl
  have d0 := cellD c0 Z
  have HCL := yz (fun (j : Nat) x h => cellD (hcell j x h) Z)
  have hrl : w.heap.size < w1.heap.size := by have := hx.size; have := (yy R0).lt; omega
  clear cS ht hx hcell Z R0 B0
  obtain ⟨m, hm⟩ : ∃ m, (p0 :: r).length = m := ⟨_, rfl⟩
  have HM := yz hm
  rw [hm] at hc1 HCT ⊢
  have hm1 : 1 ≤ m := by rw [← hm]; simp
  have hm9 : m ≤ 8001 := by have := yy HCT; rw [len_size] at this; omega
  clear hm
  go_upto_region 3 with fail
  clear c0
  generalize w1.alloc (.cells #[.string pb, .string ⟨#[]⟩, .int .i64 0] 57) = W2 at *
  generalize w1.heap.size = xb at *
  have r0 := (yy R1).cell 0 _ rfl
  have f0 := (yy R1).free 0
  have x0 := (yy X1).cell 0 _ rfl
  have r1 := (yy R1).cell 1 _ rfl
  have f1 := (yy R1).free 1
  have x1 := (yy X1).cell 1 _ rfl
  have r2 := (yy R1).cell 2 _ rfl
  have f2 := (yy R1).free 2
  have x2 := (yy X1).cell 2 _ rfl
  clear hpb
  go_wp2
  refine bodyPost_ret (v := .tuple #[.agg #[.string pb, .string ⟨#[]⟩, .int .i64 0], .bool false]) ?_ rfl ⟨lineEnd_no (yy HL) _ _ _, ?_⟩
  · refine res_read _ _ w.heap.size _ _ _ false rfl rfl ?_ ?_ ?_ <;> go_simp
  · skip
    iterate 3 (refine Below.setCell ?_ (Nat.le_refl w.heap.size) _)
    exact yy B1
theorem l09Read_any (s : ByteArray) (w : World) (hs : s.size ≤ 8000) :
    Calls Tryz.prog 20 #[.string s] w fun e w' => LineEnd s e ∧ Below w.heap.size w w' := by
  cases hp : pcs 32 s.data.toList with
  | nil => exact absurd hp (pcs_ne _ _)
  | cons p0 r =>
    by_cases nBlind : p0 = wBlind
    · subst nBlind
      exact l09Read_Blind s r w hs hp
    by_cases nDrift : p0 = wDrift
    · subst nDrift
      exact l09Read_Drift s r w hs hp
    by_cases nIds : p0 = wIds
    · subst nIds
      exact l09Read_Ids s r w hs hp
    by_cases nMove : p0 = wMove
    · subst nMove
      exact l09Read_Move s r w hs hp
    by_cases nReset : p0 = wReset
    · subst nReset
      exact l09Read_Reset s r w hs hp
    by_cases nSee : p0 = wSee
    · subst nSee
      exact l09Read_See s r w hs hp
    by_cases nState : p0 = wState
    · subst nState
      exact l09Read_State s r w hs hp
    exact l09Read_none s p0 r w hs hp nBlind nDrift nIds nMove nReset nSee nState
end Go.Proofs.YtofpjlhoppofdaaGreatDoor
namespace Go.Proofs.YtofpjlhoppofdaaGreatDoor
open Go.RowKit Go.Sort
set_option linter.unusedVariables false
set_option linter.unusedSimpArgs false
def idsJ (ids : List Int) : Nat → ByteArray
  | 0 => ⟨#[]⟩
  | k + 1 => (if 0 < k then idsJ ids k ++ ⟨#[44]⟩ else idsJ ids k) ++ decB (ids.getD k 0).toNat
def idsB (t : Tk) (u : U4) (cone : Int) : ByteArray := if identK t.L (spotsD t.L u.1 u.2.1 u.2.2.1 u.2.2.2 cone) = 0 then idsJ (identL t.L (spotsD t.L u.1 u.2.1 u.2.2.1 u.2.2.2 cone)) (identL t.L (spotsD t.L u.1 u.2.1 u.2.2.1 u.2.2.2 cone)).length else errT (identK t.L (spotsD t.L u.1 u.2.1 u.2.2.1 u.2.2.2 cone)).toNat
def stateB (t : Tk) : ByteArray := if t.mode = 0 then ⟨#[48, 32, 45]⟩ else (decB t.mode.toNat ++ ⟨#[32]⟩) ++ textB t.A t.B t.C t.D
def lineD (d : Tk × U4) (l : Ln) : (Tk × U4) × ByteArray :=
  match l.k with
  | 0 => (((lookD d.1 []).1, d.2), (lookD d.1 []).2)
  | 1 => turnedD d.1 d.2 ⟨l.t.toArray⟩ false
  | 2 => (d, idsB d.1 d.2 l.n)
  | 3 => turnedD d.1 d.2 ⟨l.t.toArray⟩ true
  | 4 => ((resetT d.1, d.2), okTx)
  | 5 => (((lookD d.1 (spotsD d.1.L d.2.1 d.2.2.1 d.2.2.2.1 d.2.2.2.2 l.n)).1, d.2), (lookD d.1 (spotsD d.1.L d.2.1 d.2.2.1 d.2.2.2.1 d.2.2.2.2 l.n)).2)
  | _ => (d, stateB d.1)
def DeskOk (t : Tk) : Prop := t.L.length ≤ 400 ∧ 0 ≤ t.mode ∧ t.mode ≤ 2
theorem ok_zero : DeskOk zeroK := ⟨by decide, by decide, by decide⟩
theorem ok_lost {t : Tk} (h : DeskOk t) : DeskOk (lostT t) := ⟨h.1, (by decide : (0 : Int) ≤ 0), (by decide : (0 : Int) ≤ 2)⟩
theorem ok_gyro {t : Tk} (h : DeskOk t) (a b c d : Int) : DeskOk (gyroT t a b c d) := by
  unfold gyroT
  split
  · unfold turnedT
    split
    · exact h
    · split
      · exact h
      · exact ok_lost h
  · exact ok_zero
theorem ok_turned {t : Tk} (h : DeskOk t) (u : U4) (s : ByteArray) (told : Bool) : DeskOk (turnedD t u s told).1.1 := by
  unfold turnedD
  split
  · split
    · cases told
      · exact h
      · exact ok_gyro h _ _ _ _
    · exact h
  · exact h
theorem lookT_L (t : Tk) (S : List D3) : (lookT t S).L.length ≤ t.L.length := by
  unfold lookT
  split
  · exact Nat.zero_le _
  · split
    · split
      · exact Nat.zero_le _
      · unfold lookR trackT unseenT lostT
        repeat' split
        all_goals exact Nat.le_refl _
    · exact Nat.zero_le _
theorem ok_look {t : Tk} (h : DeskOk t) (S : List D3) : DeskOk (lookD t S).1 := by
  unfold lookD
  split
  · rename_i h0
    exact ⟨Nat.le_trans (lookT_L t S) h.1, lookT_mode h0⟩
  · exact h
theorem ok_reset {t : Tk} (h : DeskOk t) : DeskOk (resetT t) := by
  unfold resetT
  split
  · exact ok_lost h
  · exact ok_zero
theorem ok_line {d : Tk × U4} (h : DeskOk d.1) (l : Ln) : DeskOk (lineD d l).1.1 := by
  unfold lineD
  split
  · exact ok_look h _
  · exact ok_turned h _ _ _
  · exact h
  · exact ok_turned h _ _ _
  · exact ok_reset h
  · exact ok_look h _
  · exact h
theorem errT_size {n : Nat} (h : n ≤ 1000000000) : (errT n).size ≤ 16 := by
  unfold errT
  rw [ByteArray.size_append]
  have := decB_size h
  have e : (⟨#[101, 114, 114, 111, 114, 32]⟩ : ByteArray).size = 6 := rfl
  omega
theorem fold_best : ∀ (M : List (List Int)) (s : SeN), (M.foldl stepSe s).best ∈ M ∨ (M.foldl stepSe s).best = s.best
  | [], s => .inr rfl
  | l :: M, s => by
    rcases fold_best M (stepSe s l) with h | h
    · exact .inl (List.mem_cons_of_mem _ h)
    · have : (stepSe s l).best = l ∨ (stepSe s l).best = s.best := by unfold stepSe; repeat' split
                                                                      all_goals first | exact .inl rfl | exact .inr rfl
      rcases this with e | e
      · exact .inl (by show (M.foldl stepSe (stepSe s l)).best ∈ l :: M; rw [h, e]; exact List.mem_cons_self ..)
      · exact .inr (by show (M.foldl stepSe (stepSe s l)).best = s.best; rw [h, e])
theorem allN_mem (F : List Int → Int → Bool) (A : List Int) : ∀ (r : Nat) (ids l : List Int), l ∈ allN F A r ids → l.length = ids.length + r ∧ ∀ x ∈ l, x ∈ ids ∨ x ∈ A ∨ x = 0
  | 0, ids, l, h => by
    unfold allN at h
    rw [List.mem_singleton] at h
    subst h
    exact ⟨rfl, fun x hx => .inl hx⟩
  | r + 1, ids, l, h => by
    unfold allN at h
    rcases List.mem_append.1 h with h | h
    · obtain ⟨a, ha, hl⟩ := List.mem_flatMap.1 h
      obtain ⟨h1, h2⟩ := allN_mem F A r (ids ++ [a]) l hl
      have haA : a ∈ A := (List.mem_filter.1 ha).1
      refine ⟨by rw [h1, List.length_append]; simp; omega, fun x hx => ?_⟩
      rcases h2 x hx with h3 | h3
      · rcases List.mem_append.1 h3 with h4 | h4
        · exact .inl h4
        · rw [List.mem_singleton] at h4; subst h4; exact .inr (.inl haA)
      · exact .inr h3
    · obtain ⟨h1, h2⟩ := allN_mem F A r (ids ++ [0]) l h
      refine ⟨by rw [h1, List.length_append]; simp; omega, fun x hx => ?_⟩
      rcases h2 x hx with h3 | h3
      · rcases List.mem_append.1 h3 with h4 | h4
        · exact .inl h4
        · rw [List.mem_singleton] at h4; exact .inr (.inr h4)
      · exact .inr h3
theorem identL_small (L : List St) (S : List D3) : (identL L S).length ≤ S.length ∧ ∀ x ∈ identL L S, 0 ≤ x ∧ x ≤ 9999 := by
  unfold identL
  split
  · exact ⟨Nat.zero_le _, fun x h => by cases h⟩
  · split
    · rename_i _ hok
      unfold idIds
      split
      · unfold idR
        rw [fromN_eq]
        rcases fold_best (allN (fitF L S) (L.map (·.1)) S.length []) ⟨[], 3, 0⟩ with h | h
        · obtain ⟨h1, h2⟩ := allN_mem _ _ _ _ _ h
          refine ⟨by rw [h1]; simp, fun x hx => ?_⟩
          rcases h2 x hx with h3 | h3 | h3
          · cases h3
          · obtain ⟨s, hs, rfl⟩ := List.mem_map.1 h3
            have hk : skyB L = true := by unfold idOk at hok; simp only [Bool.and_eq_true] at hok; exact hok.1
            obtain ⟨i, hi, e⟩ := List.getElem_of_mem hs
            have := (sky_ok hk).2 i hi
            unfold okAt idB at this
            simp only [Bool.and_eq_true, decide_eq_true_eq] at this
            have e2 : stA L i = s := by unfold stA; rw [List.getD_eq_getElem?_getD, List.getElem?_eq_getElem hi, e]; rfl
            rw [e2] at this
            omega
          · subst h3; omega
        · rw [h]; exact ⟨Nat.zero_le _, fun x h => by cases h⟩
      · exact ⟨Nat.zero_le _, fun x h => by cases h⟩
    · exact ⟨Nat.zero_le _, fun x h => by cases h⟩
theorem idsJ_size {ids : List Int} (h : ∀ x ∈ ids, 0 ≤ x ∧ x ≤ 9999) : ∀ k, (idsJ ids k).size ≤ 11 * k
  | 0 => Nat.le_refl _
  | k + 1 => by
    have ih := idsJ_size h k
    have hd : (decB (ids.getD k 0).toNat).size ≤ 10 := by
      refine decB_size ?_
      by_cases hk : k < ids.length
      · rw [List.getD_eq_getElem?_getD, List.getElem?_eq_getElem hk]
        have := h _ (List.getElem_mem hk)
        simp only [Option.getD_some]
        omega
      · rw [List.getD_eq_getElem?_getD, List.getElem?_eq_none (by omega)]
        decide
    unfold idsJ
    rw [ByteArray.size_append]
    split
    · rw [ByteArray.size_append, show (⟨#[44]⟩ : ByteArray).size = 1 from rfl]; omega
    · omega
theorem identK_span (L : List St) (S : List D3) : 0 ≤ identK L S ∧ identK L S ≤ 11 := by
  unfold identK idCode
  repeat' split
  all_goals omega
theorem idsB_size (t : Tk) (u : U4) (cone : Int) : (idsB t u cone).size ≤ 70 := by
  unfold idsB
  split
  · obtain ⟨h1, h2⟩ := identL_small t.L (spotsD t.L u.1 u.2.1 u.2.2.1 u.2.2.2 cone)
    have h3 := spotsD_len t.L u.1 u.2.1 u.2.2.1 u.2.2.2 cone
    have := idsJ_size h2 (identL t.L (spotsD t.L u.1 u.2.1 u.2.2.1 u.2.2.2 cone)).length
    omega
  · have h := identK_span t.L (spotsD t.L u.1 u.2.1 u.2.2.1 u.2.2.2 cone)
    have := errT_size (n := (identK t.L (spotsD t.L u.1 u.2.1 u.2.2.1 u.2.2.2 cone)).toNat) (by omega)
    omega
theorem dig_two (n : Int) : (dig n).length ≤ 2 := by unfold dig; split <;> simp
theorem textB_len (a b c d : Int) : (textB a b c d).size ≤ 11 := by
  unfold textB
  split
  · have h1 := dig_two a
    have h2 := dig_two b
    have h3 := dig_two c
    have h4 := dig_two d
    show (textD a b c d).toArray.size ≤ 11
    unfold textD
    simp only [List.size_toArray, List.length_append, List.length_cons]
    omega
  · exact Nat.zero_le _
theorem stateB_size {t : Tk} (h : DeskOk t) : (stateB t).size ≤ 70 := by
  unfold stateB
  split
  · decide
  · have h1 := decB_size (n := t.mode.toNat) (by have := h.2; omega)
    have h2 := textB_len t.A t.B t.C t.D
    rw [ByteArray.size_append, ByteArray.size_append, show (⟨#[32]⟩ : ByteArray).size = 1 from rfl]
    omega
theorem turnedD_size (t : Tk) (u : U4) (s : ByteArray) (told : Bool) : (turnedD t u s told).2.size ≤ 70 := by
  unfold turnedD
  split
  · split
    · show okTx.size ≤ 70; decide
    · have h : 0 ≤ coKR s u ∧ coKR s u ≤ 9 := coK_span _ _ _ _ _ _ _ _
      have := errT_size (n := (coKR s u).toNat) (by omega)
      show (errT (coKR s u).toNat).size ≤ 70
      omega
  · have h := readC_span s
    have := errT_size (n := (readC s).toNat) (by omega)
    show (errT (readC s).toNat).size ≤ 70
    omega
theorem lookD_size (t : Tk) (S : List D3) : (lookD t S).2.size ≤ 70 := by
  unfold lookD
  split
  · rename_i h0
    have h := lookT_mode h0
    have := decB_size (n := (lookT t S).mode.toNat) (by omega)
    show (decB (lookT t S).mode.toNat).size ≤ 70
    omega
  · have h := lookC_span t S
    have := errT_size (n := (lookC t S).toNat) (by omega)
    show (errT (lookC t S).toNat).size ≤ 70
    omega
theorem lineD_size {d : Tk × U4} (h : DeskOk d.1) (l : Ln) : (lineD d l).2.size ≤ 70 := by
  unfold lineD
  split
  · exact lookD_size _ _
  · exact turnedD_size _ _ _ _
  · exact idsB_size _ _ _
  · exact turnedD_size _ _ _ _
  · show okTx.size ≤ 70; decide
  · exact lookD_size _ _
  · exact stateB_size h
end Go.Proofs.YtofpjlhoppofdaaGreatDoor
