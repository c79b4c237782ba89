/- Several texts in one: BlE, BlF, BlG. -/
import Derived.Test.YteoonaanoenjiaaGreatDoorQObeyOwn4
namespace Go.Proofs.YteoonaanoenjiaaGreatDoor
open Go.RowKit Go.Sort
set_option linter.unusedVariables false
def candX (c : Nat) : Nat → Int
  | 0 => (c : Int) - 1
  | 1 => (c : Int) + 1
  | _ => (c : Int)
def candY (r : Nat) : Nat → Int
  | 2 => (r : Int) - 1
  | 3 => (r : Int) + 1
  | _ => (r : Int)
def litF (f : Fr) (T : Nat → Bool) (x y : Int) : Bool := holdsB f.wd f.ht x y && litP f T (y.toNat * f.wd + x.toNat)
def stepBl (f : Fr) (s : (Nat → Bool) × List Nat) (x y : Int) : (Nat → Bool) × List Nat := if litF f s.1 x y = true then (mark s.1 (y.toNat * f.wd + x.toNat), s.2 ++ [y.toNat * f.wd + x.toNat]) else s
def sideI (f : Fr) (s : (Nat → Bool) × List Nat) (c r : Nat) : Nat → (Nat → Bool) × List Nat
  | 0 => s
  | m + 1 => stepBl f (sideI f s c r m) (candX c m) (candY r m)
theorem stepI_out {f : Fr} {s : (Nat → Bool) × List Nat} {x y : Int} (h : holdsB f.wd f.ht x y = false) : stepBl f s x y = s := by unfold stepBl litF; rw [h, Bool.false_and, if_neg (by simp)]
theorem stepI_in {f : Fr} {s : (Nat → Bool) × List Nat} {x y : Int} {q : Nat} (h : holdsB f.wd f.ht x y = true) (hq : y.toNat * f.wd + x.toNat = q) : stepBl f s x y = take1 f s q := by unfold stepBl litF take1; rw [h, Bool.true_and, hq]
theorem sideI_eq {f : Fr} {p : Nat} (hp : p < f.n) (s : (Nat → Bool) × List Nat) : sideI f s (p % f.wd) (p / f.wd) 4 = passP f s (nextsP f p) := by
  have hw : 0 < f.wd := by
    rcases Nat.eq_zero_or_pos f.wd with h | h
    · rw [Fr.n, h, Nat.zero_mul] at hp; omega
    · exact h
  have hdm := Nat.div_add_mod p f.wd
  have hmod := Nat.mod_lt p hw
  have hdiv : p / f.wd < f.ht := Nat.div_lt_of_lt_mul hp
  unfold nextsP
  generalize hc : p % f.wd = c at *
  generalize hr : p / f.wd = r at *
  have hrw : r * f.wd = f.wd * r := Nat.mul_comm _ _
  show stepBl f (stepBl f (stepBl f (stepBl f s ((c : Int) - 1) r) ((c : Int) + 1) r) c ((r : Int) - 1)) c ((r : Int) + 1) = _
  unfold passP
  rw [List.foldl_append, List.foldl_append, List.foldl_append]
  have s1 : ∀ s, stepBl f s ((c : Int) - 1) r = (if 0 < c then [p - 1] else []).foldl (take1 f) s := fun s => by
    by_cases h : 0 < c
    · rw [if_pos h, stepI_in (q := p - 1) (decide_eq_true (by omega))]
      · rfl
      · rw [show ((c : Int) - 1).toNat = c - 1 by omega, Int.toNat_natCast]; omega
    · rw [if_neg h, stepI_out (decide_eq_false (by omega))]; rfl
  have s2 : ∀ s, stepBl f s ((c : Int) + 1) r = (if c < f.wd - 1 then [p + 1] else []).foldl (take1 f) s := fun s => by
    by_cases h : c < f.wd - 1
    · rw [if_pos h, stepI_in (q := p + 1) (decide_eq_true (by omega))]
      · rfl
      · rw [show ((c : Int) + 1).toNat = c + 1 by omega, Int.toNat_natCast]; omega
    · rw [if_neg h, stepI_out (decide_eq_false (by omega))]; rfl
  have s3 : ∀ s, stepBl f s c ((r : Int) - 1) = (if 0 < r then [p - f.wd] else []).foldl (take1 f) s := fun s => by
    by_cases h : 0 < r
    · rw [if_pos h, stepI_in (q := p - f.wd) (decide_eq_true (by omega))]
      · rfl
      · rw [show ((r : Int) - 1).toNat = r - 1 by omega, Int.toNat_natCast, Nat.sub_mul, hrw]
        have : f.wd * 1 ≤ f.wd * r := Nat.mul_le_mul_left _ h
        omega
    · rw [if_neg h, stepI_out (decide_eq_false (by omega))]; rfl
  have s4 : ∀ s, stepBl f s c ((r : Int) + 1) = (if r < f.ht - 1 then [p + f.wd] else []).foldl (take1 f) s := fun s => by
    by_cases h : r < f.ht - 1
    · rw [if_pos h, stepI_in (q := p + f.wd) (decide_eq_true (by omega))]
      · rfl
      · rw [show ((r : Int) + 1).toNat = r + 1 by omega, Int.toNat_natCast, Nat.add_mul, hrw]; omega
    · rw [if_neg h, stepI_out (decide_eq_false (by omega))]; rfl
  rw [s1, s2, s3, s4]
theorem litI_F (wd ht : Nat) (s : ByteArray) (lv : Int) (T : Nat → Bool) (x y : Int) : litI wd ht s lv T x y = litF (frOf wd ht s lv) T x y := rfl
theorem litF_holds {f : Fr} {T : Nat → Bool} {x y : Int} (h : litF f T x y = true) : holdsB f.wd f.ht x y = true := by
  unfold litF at h
  rw [Bool.and_eq_true] at h
  exact h.1
theorem take_int (x y : Int) (tb wd ht : Nat) (T : Nat → Bool) (w : World) (hw : wd ≤ 16) (hh : ht ≤ 12) (hb : holdsB wd ht x y = true) (hT : TakenAt w tb wd ht T) :
    Calls Tryz.prog 210 #[.agg #[.int .i64 x, .int .i64 y], .pointer (some ⟨tb, 0, none⟩)] w fun e w' => e = .returned (.tuple #[]) ∧ TakenAt w' tb wd ht (mark T (y.toNat * wd + x.toNat)) ∧ w.grownBy w' (some tb) := by
  obtain ⟨h1, h2, h3, h4⟩ := of_decide_eq_true hb
  obtain ⟨xn, hxn⟩ := Int.eq_ofNat_of_zero_le h1
  obtain ⟨yn, hyn⟩ := Int.eq_ofNat_of_zero_le h3
  subst hxn hyn
  exact take_any xn yn tb wd ht T w hw hh (by omega) (by omega) hT
def pixC (wd q : Nat) : List Value := [.int .i64 ((q % wd : Nat) : Int), .int .i64 ((q / wd : Nat) : Int)]
def pixL (wd : Nat) (l : List Nat) : List Value := l.flatMap (pixC wd)
theorem pixL_app (wd : Nat) (a b : List Nat) : pixL wd (a ++ b) = pixL wd a ++ pixL wd b := by unfold pixL; rw [List.flatMap_append]
theorem pixL_at (wd : Nat) (l : List Nat) : ∀ k, k < l.length → (pixL wd l)[k * 2]? = some (.int .i64 ((l.getD k 0 % wd : Nat) : Int)) ∧ (pixL wd l)[k * 2 + 1]? = some (.int .i64 ((l.getD k 0 / wd : Nat) : Int)) := by
  induction l with
  | nil => intro k hk; simp at hk
  | cons x l ih =>
    intro k hk
    match k with
    | 0 => exact ⟨rfl, rfl⟩
    | k + 1 =>
      have h := ih k (by simpa using hk)
      have e : ∀ r, (pixL wd (x :: l))[(k + 1) * 2 + r]? = (pixL wd l)[k * 2 + r]? := fun r => by
        rw [show (k + 1) * 2 + r = (k * 2 + r) + 2 by omega]
        rfl
      exact ⟨by have := e 0; simp only [Nat.add_zero] at this; rw [this]; exact h.1, by rw [e 1]; exact h.2⟩
theorem pix_of {wd ht : Nat} {x y : Int} (h : holdsB wd ht x y = true) : pixC wd (y.toNat * wd + x.toNat) = [.int .i64 x, .int .i64 y] := by
  obtain ⟨h1, h2, h3, h4⟩ := of_decide_eq_true h
  obtain ⟨xn, hxn⟩ := Int.eq_ofNat_of_zero_le h1
  obtain ⟨yn, hyn⟩ := Int.eq_ofNat_of_zero_le h3
  subst hxn hyn
  have hx : xn < wd := by omega
  unfold pixC
  rw [Int.toNat_natCast, Int.toNat_natCast, Nat.mul_comm yn wd, Nat.mul_add_mod, Nat.mod_eq_of_lt hx, Nat.mul_add_div (by omega), Nat.div_eq_of_lt hx, Nat.add_zero]
theorem info_pix : (Tryz.prog.info? 284).map (fun i => (i.zero, i.size, i.bytes)) = some (some (.agg #[.int .i64 0, .int .i64 0]), 2, 16) := by kernel_rfl
theorem stepI_len (f : Fr) (s : (Nat → Bool) × List Nat) (x y : Int) : (stepBl f s x y).2.length ≤ s.2.length + 1 := by
  unfold stepBl
  split
  · simp
  · omega
theorem sideI_len (f : Fr) (s : (Nat → Bool) × List Nat) (c r : Nat) : ∀ m, (sideI f s c r m).2.length ≤ s.2.length + m
  | 0 => Nat.le_refl _
  | m + 1 => by
    have h1 := sideI_len f s c r m
    have h2 := stepI_len f (sideI f s c r m) (candX c m) (candY r m)
    show (stepBl f (sideI f s c r m) (candX c m) (candY r m)).2.length ≤ _
    omega
theorem index_any (a b c d e f g h : Int) (m : Nat) (W : World) (x y : Int) (hm : (m = 0 ∧ x = a ∧ y = b) ∨ (m = 1 ∧ x = c ∧ y = d) ∨ (m = 2 ∧ x = e ∧ y = f) ∨ (m = 3 ∧ x = g ∧ y = h)) :
    (Instr.index 300 (.agg #[.int .i64 a, .int .i64 b, .int .i64 c, .int .i64 d, .int .i64 e, .int .i64 f, .int .i64 g, .int .i64 h]) (.int .i64 (m : Int))).run Tryz.prog W = .ok (.agg #[.int .i64 x, .int .i64 y]) W := by
  rcases hm with ⟨rfl, rfl, rfl⟩ | ⟨rfl, rfl, rfl⟩ | ⟨rfl, rfl, rfl⟩ | ⟨rfl, rfl, rfl⟩ <;> kernel_rfl
structure TouchSt (w wx : World) (fb lb tb wd ht : Nat) (s : ByteArray) (lv : Int) (T : Nat → Bool) (v : Value) (A : List Nat) : Prop where
  fr : FrAt wx fb wd ht s
  lev : Blk wx lb [.int .i64 lv] 2
  taken : TakenAt wx tb wd ht T
  found : wx.ownsRow (w.heap.size + 1) 284 2 v A.length (pixL wd A)
  grown : w.grownBy wx (some tb)
theorem grownK {w wx wy : World} {row : Option Nat} (h : w.grownBy wx row) (hB : Below wx.heap.size wx wy) : w.grownBy wy row :=
  ⟨by rw [hB.os]; exact h.os, by rw [hB.tape]; exact h.tape, by rw [hB.output]; exact h.output, Nat.le_trans h.size hB.size, fun k hk hne => by rw [hB.block k (Nat.lt_of_lt_of_le hk h.size)]; exact h.block k hk hne⟩
theorem TouchSt.kept {w wx wy : World} {fb lb tb wd ht : Nat} {s : ByteArray} {lv : Int} {T : Nat → Bool} {v : Value} {A : List Nat} (h : TouchSt w wx fb lb tb wd ht s lv T v A) (hB : Below wx.heap.size wx wy) : TouchSt w wy fb lb tb wd ht s lv T v A :=
  ⟨Blk.kept h.fr hB, h.lev.kept hB, h.taken.kept hB, own_kept h.found hB, grownK h.grown hB⟩
theorem TouchSt.took {w wx wy : World} {fb lb tb wd ht : Nat} {s : ByteArray} {lv : Int} {T T2 : Nat → Bool} {v : Value} {A : List Nat} (h : TouchSt w wx fb lb tb wd ht s lv T v A) (hg : wx.grownBy wy (some tb)) (ht2 : TakenAt wy tb wd ht T2) (h1 : fb ≠ tb) (h2 : lb ≠ tb) (h3 : tb < w.heap.size) : TouchSt w wy fb lb tb wd ht s lv T2 v A := by
  refine ⟨Blk.grown h.fr hg (fun e => h1 (Option.some.inj e)), h.lev.grown hg (fun e => h2 (Option.some.inj e)), ht2, h.found.kept hg ?_, ⟨hg.os.trans h.grown.os, hg.tape.trans h.grown.tape, hg.output.trans h.grown.output, Nat.le_trans h.grown.size hg.size, fun k hk hne => by rw [hg.block k (Nat.lt_of_lt_of_le hk h.grown.size) hne]; exact h.grown.block k hk hne⟩⟩
  cases hv : v.ownBlock with
  | none => exact .inl rfl
  | some z => exact .inr (fun e => by have := (h.found.lt z hv).1; have := Option.some.inj e; omega)
theorem TouchSt.appended {w wx wy : World} {fb lb tb wd ht q : Nat} {s : ByteArray} {lv : Int} {T : Nat → Bool} {v v7 : Value} {A : List Nat} {xs : List Value} (h : TouchSt w wx fb lb tb wd ht s lv T v A) (hg : wx.grownBy wy v.ownBlock) (ho : wy.ownsRow (w.heap.size + 1) 284 2 v7 (A.length + 1) (pixL wd A ++ xs)) (hxs : pixC wd q = xs) (h1 : fb < w.heap.size) (h2 : lb < w.heap.size) (h3 : tb < w.heap.size) : TouchSt w wy fb lb tb wd ht s lv T v7 (A ++ [q]) := by
  have ne : ∀ b, b < w.heap.size + 1 → some b ≠ v.ownBlock := fun b hb e => by have := (h.found.lt b e.symm).1; omega
  obtain ⟨g, hr, hgg⟩ := h.taken
  refine ⟨Blk.grown h.fr hg (ne _ (by omega)), h.lev.grown hg (ne _ (by omega)), ⟨g, hr.grown hg (ne _ (by omega)), hgg⟩, ?_, ⟨hg.os.trans h.grown.os, hg.tape.trans h.grown.tape, hg.output.trans h.grown.output, Nat.le_trans h.grown.size hg.size, fun k hk hne => by rw [hg.block k (Nat.lt_of_lt_of_le hk h.grown.size) (ne k (by omega))]; exact h.grown.block k hk hne⟩⟩
  rw [pixL_app, List.length_append]
  have e : pixL wd [q] = xs := by unfold pixL; simp [hxs]
  rw [e]
  exact ho
set_option maxHeartbeats 8000000 in
set_option maxRecDepth 100000 in
theorem touching_any (x y : Nat) (fb lb tb wd ht : Nat) (s : ByteArray) (lv : Int) (T : Nat → Bool) (w : World) (hw : wd ≤ 16) (hh : ht ≤ 12) (hs : s.size = wd * ht) (hx : x < wd) (hy : y < ht) (hT0 : T (y * wd + x) = false) (n1 : fb ≠ tb) (n2 : lb ≠ tb) (hF : FrAt w fb wd ht s) (hL : Blk w lb [.int .i64 lv] 2) (hT : TakenAt w tb wd ht T) :
    Calls Tryz.prog 212 #[.agg #[.int .i64 x, .int .i64 y], .func (.func 207) #[] #[.pointer (some ⟨fb, 0, none⟩), .pointer (some ⟨lb, 0, none⟩), .pointer (some ⟨tb, 0, none⟩)], .func (.func 210) #[] #[.pointer (some ⟨tb, 0, none⟩)]] w fun e w' => ∃ v, e = .returned v ∧ TouchSt w w' fb lb tb wd ht s lv (blobP (frOf wd ht s lv) T (y * wd + x)).1 v (blobP (frOf wd ht s lv) T (y * wd + x)).2 := by
  obtain ⟨i0, hinf, hz0, hz1, hz2⟩ := info_parts info_pix
  have hm8 : 400 ≤ maxLen := by decide +kernel
  have lf := Blk.lt hF
  have ll := hL.lt
  have lt := hT.lt
  have HSZ := yz hs
  have hn192 : s.size ≤ 192 := by rw [hs]; exact Nat.mul_le_mul hw hh
  have hi : y * wd + x < s.size := by
    rw [hs]
    have := Nat.mul_le_mul_left wd (show y + 1 ≤ ht by omega)
    rw [Nat.mul_add, Nat.mul_one, Nat.mul_comm wd y] at this
    omega
  have hpx : pixC wd (y * wd + x) = [.int .i64 (x : Int), .int .i64 (y : Int)] := pix_of (ht := ht) (x := (x : Int)) (y := (y : Int)) (decide_eq_true (by omega))
  have A0 := blk_new w [.int .i64 (x : Int), .int .i64 (y : Int)] 284
  have B0 := below1 w (.cells #[.int .i64 (x : Int), .int .i64 (y : Int)] 284)
  have F0 := Blk.kept hF B0
  have L0 := Blk.kept hL B0
  have T0 := hT.kept B0
  have G0 : w.grownBy _ (some tb) := ⟨B0.os, B0.tape, B0.output, B0.size, fun k hk _ => B0.block k hk⟩
  have hz : (w.alloc (.cells #[.int .i64 (x : Int), .int .i64 (y : Int)] 284)).heap.size = w.heap.size + 1 := by simp
  clear hF hL hT B0 hs
  go_enter Tryz.func212, Tryz.ntmps212
  go_wp2_with fail
  generalize w.alloc (.cells #[.int .i64 (x : Int), .int .i64 (y : Int)] 284) = W0 at A0 F0 L0 T0 G0 hz ⊢
  refine (take_any x y tb wd ht T W0 hw hh hx hy T0).mono ?_
  rintro e W1 ⟨rfl, hT1, hg1⟩
  have hz1' := hg1.size
  have A1 := A0.grown hg1 (by simp; omega)
  have F1 := Blk.grown F0 hg1 (by simp; omega)
  have L1 := L0.grown hg1 (by simp; omega)
  have G1 : w.grownBy W1 (some tb) := ⟨hg1.os.trans G0.os, hg1.tape.trans G0.tape, hg1.output.trans G0.output, Nat.le_trans G0.size hg1.size, fun k hk hne => by rw [hg1.block k (Nat.lt_of_lt_of_le hk G0.size) hne]; exact G0.block k hk hne⟩
  have c0 := A1.cell 0 _ rfl
  have c1 := A1.cell 1 _ rfl
  have Z1 := below1 W1 (.cells #[.int .i64 (x : Int), .int .i64 (y : Int)] 284)
  obtain ⟨i, hie⟩ : ∃ i, i = y * wd + x := ⟨_, rfl⟩
  have HIe := yz hie
  rw [← hie] at hT1 hi hpx hT0
  have HO : (W1.alloc (.cells #[.int .i64 (x : Int), .int .i64 (y : Int)] 284)).ownsRow (w.heap.size + 1) 284 2 (.slice (some ⟨W1.heap.size, 0, none⟩) 1 1) 1 (pixL wd [i]) := by
    have h := World.ownsRow_lit (base := w.heap.size + 1) (e := 284) (size := 2) W1 #[.int .i64 (x : Int), .int .i64 (y : Int)] 1 (by omega) (by omega) rfl
    have e : pixL wd [i] = [.int .i64 (x : Int), .int .i64 (y : Int)] := by unfold pixL; simp [hpx]
    rw [e]
    exact h
  have ST0 : Hid (TouchSt w (W1.alloc (.cells #[.int .i64 (x : Int), .int .i64 (y : Int)] 284)) fb lb tb wd ht s lv (mark T i) (.slice (some ⟨W1.heap.size, 0, none⟩) 1 1) [i]) := yz ⟨Blk.kept F1 Z1, L1.kept Z1, hT1.kept Z1, HO, grownK G1 Z1⟩
  clear hie A0 F0 L0 T0 G0 A1 F1 L1 G1 Z1 HO hT1 hg1 hpx
  generalize hfe : frOf wd ht s lv = f
  have HF := yz hfe
  clear hfe
  have hfn : f.n = s.size := by rw [← yx HF]; exact (yx HSZ).symm
  have HFN := yz hfn
  clear hfn
  have HGood : Hid (∀ k, Good f (cnt T f.n) (growP f T i k)) := yz (fun k => growP_good (by rw [yx HFN]; exact hi) hT0 k)
  have HLen : Hid (∀ k, (growP f T i k).2.length ≤ s.size) := yz (fun k => by have := (yx HGood k).len; rw [yx HFN] at this; omega)
  have HT0 := yz hT0
  clear hT0
  go_wp2_with fail
  clear c0 c1
  go_loopw [7, 8] (fun v kk wr => ∃ k : Nat, k ≤ (growP f T i k).2.length ∧ kk = .int .i64 k ∧ Hid (TouchSt w wr fb lb tb wd ht s lv (growP f T i k).1 v (growP f T i k).2)) (fun _ kk _ => s.size - (intOf kk).toNat)
  case atStart => exact ⟨0, Nat.zero_le _, rfl, ST0⟩
  case round =>
    clear ST0
    obtain ⟨k, hk, rfl, HST⟩ := hrel
    have hkl := yx HLen k
    by_cases hkn : k < (growP f T i k).2.length
    · have hpm : (growP f T i k).2.getD k 0 ∈ (growP f T i k).2 := by rw [List.getD, List.getElem?_eq_getElem hkn]; exact List.getElem_mem hkn
      have hpl := (yx HGood k).lies _ hpm
      have HNX : Hid (growP f T i (k + 1) = passP f (growP f T i k) (nextsP f ((growP f T i k).2.getD k 0))) := yz (by rw [growP, if_pos hkn])
      have HPre := yz (growP_pre f T i k)
      obtain ⟨e0, e1⟩ := pixL_at wd (growP f T i k).2 k hkn
      obtain ⟨a7, cap7, hv7⟩ := own_slice (yx HST).found
      subst hv7
      have hfd := (yx HST).found
      obtain ⟨g7, hg7⟩ : ∃ g, a7 = some ⟨g, 0, none⟩ := by
        rcases hfd.2 with ⟨h1, h0⟩ | ⟨g, cap, cur, h1, _⟩
        · omega
        · injection h1 with h1 _ _
          exact ⟨g, h1⟩
      subst hg7
      have c0 : wr.cell? ⟨g7, k * 2, none⟩ = _ := (hfd.cellAt (k * 2) (by omega)).trans e0
      have c1 : wr.cell? ⟨g7, k * 2 + 1, none⟩ = _ := (hfd.cellAt (k * 2 + 1) (by omega)).trans e1
      clear hfd e0 e1 hpm
      generalize hGe : growP f T i k = G at *
      clear hGe
      obtain ⟨T1, A⟩ := G
      simp only at *
      generalize A.getD k 0 = p at *
      have HSide := yz (sideI_eq hpl (T1, A))
      obtain ⟨c, hc⟩ : ∃ c, c = p % wd := ⟨_, rfl⟩
      obtain ⟨r, hr⟩ : ∃ r, r = p / wd := ⟨_, rfl⟩
      rw [← hc] at c0
      rw [← hr] at c1
      have HSide2 : Hid (sideI f (T1, A) c r 4 = growP f T i (k + 1)) := yz (by
        rw [yx HNX, ← yx HSide, hc, hr, ← yx HF]; rfl)
      have hcl : c < wd := by rw [hc]; exact Nat.mod_lt _ (by omega)
      have hrl : r < ht := by
        rw [hr]
        rw [yx HFN, yx HSZ] at hpl
        exact Nat.div_lt_of_lt_mul hpl
      clear hc hr HSide HNX hpl
      have hk2 : (k : Int) < (A.length : Int) := by omega
      go_wp2_with fail
      refine (beside_any c r _ (by omega) (by omega)).mono ?_
      rintro e W2 ⟨rfl, hx2⟩
      have HST2 : Hid (TouchSt w W2 fb lb tb wd ht s lv (sideI f (T1, A) c r 0).1 (.slice (some ⟨g7, 0, none⟩) A.length cap7) (sideI f (T1, A) c r 0).2) := yz ((yx HST).kept hx2)
      clear HST hx2 c0 c1
      go_wp2_with fail
      go_loopw [7, 27] (fun v mm wr => ∃ m : Nat, m ≤ 4 ∧ mm = .int .i64 m ∧ Hid (TouchSt w wr fb lb tb wd ht s lv (sideI f (T1, A) c r m).1 v (sideI f (T1, A) c r m).2)) (fun _ mm _ => 4 - (intOf mm).toNat)
      case atStart => exact ⟨0, by omega, rfl, HST2⟩
      case round =>
        clear HST2
        obtain ⟨m, hm, rfl, HST⟩ := hrel
        have hpb : tb < wr.heap.size := (yx HST).taken.lt
        rcases (show m = 0 ∨ m = 1 ∨ m = 2 ∨ m = 3 ∨ m = 4 by omega) with hm0 | hm1 | hm2 | hm3 | hm4
        · subst hm0
          have hix : ∀ W : World, (Instr.index 300 (.agg #[.int .i64 ((c : Int) - 1), .int .i64 (r : Int), .int .i64 ((c : Int) + 1), .int .i64 (r : Int), .int .i64 (c : Int), .int .i64 ((r : Int) - 1), .int .i64 (c : Int), .int .i64 ((r : Int) + 1)]) (.int .i64 0)).run Tryz.prog W = .ok (.agg #[.int .i64 ((c : Int) - 1), .int .i64 ((r : Int))]) W := fun W => index_any _ _ _ _ _ _ _ _ 0 W _ _ (by simp) 
          have HS : Hid (sideI f (T1, A) c r (0 + 1) = stepBl f (sideI f (T1, A) c r 0) ((c : Int) - 1) ((r : Int))) := yz rfl
          have hsl := sideI_len f (T1, A) c r 0
          simp only at hsl
          generalize sideI f (T1, A) c r 0 = S2 at HST HS hsl
          obtain ⟨T2, A2⟩ := S2
          simp only at HST hsl
          have Z1 := below1 wr (.cells #[.int .i64 ((c : Int) - 1), .int .i64 ((r : Int))] 284)
          have P1 := blk_new wr [.int .i64 ((c : Int) - 1), .int .i64 ((r : Int))] 284
          have ST1 := (yx HST).kept Z1
          clear Z1 HST
          go_upto_region 9 with fail
          generalize hWe : wr.alloc (.cells #[.int .i64 ((c : Int) - 1), .int .i64 ((r : Int))] 284) = W3 at P1 ST1 ⊢
          generalize hpe : wr.heap.size = pb at P1 ⊢
          have hpb2 : tb ≠ pb := by omega
          clear hWe hpe
          have hST := yz ST1
          have hP := yz P1
          have c0 := P1.cell 0 _ rfl
          have c1 := P1.cell 1 _ rfl
          clear ST1 P1
          go_wp2_with fail
          refine (lit_any ((c : Int) - 1) ((r : Int)) fb lb tb wd ht s lv T2 _ hw hh (yx HSZ) (yx hST).fr (yx hST).lev (yx hST).taken).mono ?_
          rintro e W4 ⟨rfl, hx4⟩
          rw [litI_F, yx HF]
          have ST4 := yz ((yx hST).kept hx4)
          have P4 := yz ((yx hP).kept hx4)
          clear hST hP hx4 c0 c1
          cases hl : litF f T2 ((c : Int) - 1) ((r : Int))
          · have HS2 : Hid (sideI f (T1, A) c r (0 + 1) = (T2, A2)) := yz (by rw [yx HS]; unfold stepBl; rw [if_neg (by simp [hl])])
            have ST5 : Hid (TouchSt w W4 fb lb tb wd ht s lv (sideI f (T1, A) c r (0 + 1)).1 u7 (sideI f (T1, A) c r (0 + 1)).2) := yz (by rw [yx HS2]; exact yx ST4)
            clear hl
            go_wp2_with fail
            go_roundw
            case rel => exact ⟨0 + 1, by omega, by go_num, ST5⟩
            case measure => simp [intOf] <;> omega
          · have hhold := litF_holds hl
            have hhold2 : holdsB wd ht ((c : Int) - 1) ((r : Int)) = true := by rw [← yx HF] at hhold; exact hhold
            have HPx := yz (pix_of hhold2)
            have HS2 : Hid (sideI f (T1, A) c r (0 + 1) = (mark T2 (((r : Int) : Int).toNat * wd + ((c : Int) - 1 : Int).toNat), A2 ++ [((r : Int) : Int).toNat * wd + ((c : Int) - 1 : Int).toNat])) := yz (by rw [yx HS]; unfold stepBl; rw [if_pos hl, ← yx HF]; rfl)
            have cK := yz (fun (W : World) hW => take_int ((c : Int) - 1) ((r : Int)) tb wd ht T2 W hw hh hhold2 hW)
            clear hl hhold hhold2
            generalize hqe : ((r : Int) : Int).toNat * wd + ((c : Int) - 1 : Int).toNat = q at *
            clear hqe
            have c0 := (yx P4).cell 0 _ rfl
            have c1 := (yx P4).cell 1 _ rfl
            go_wp2_with fail
            refine (yx cK _ (yx ST4).taken).mono ?_
            rintro e W5 ⟨rfl, hT5, hg5⟩
            have ST5 := yz ((yx ST4).took hg5 hT5 n1 n2 lt)
            have P5 : Hid (Blk W5 pb [.int .i64 ((c : Int) - 1), .int .i64 ((r : Int))] 284) := yz ((yx P4).grown hg5 (fun e => hpb2 (Option.some.inj e).symm))
            clear hT5 hg5 ST4 P4 c0 c1
            have c0 := (yx P5).cell 0 _ rfl
            have c1 := (yx P5).cell 1 _ rfl
            have Z1 := below1 W5 (.cells #[.int .i64 ((c : Int) - 1), .int .i64 ((r : Int))] 284)
            have ST6 := (yx ST5).kept Z1
            have hown := ST6.found
            have hz5 := (yx ST5).grown.size
            clear Z1
            go_wp2_with (at_builtin; refine wpList_append_own _ rfl _ _ 289 rfl (w.heap.size + 1) 284 i0 (.agg #[.int .i64 0, .int .i64 0]) 2 16 Tryz.underlying289 hinf hz0 hz1 hz2 rfl (by decide) _ _ _ rfl hown ⟨W5.heap.size, 0, none⟩ 1 1 [.int .i64 ((c : Int) - 1), .int .i64 ((r : Int))] rfl rfl ?d2 (fun u hu => by simp at hu; rcases hu with rfl | rfl <;> rfl) ?d3 ?d4 ?d5 ?_)
            case d2 => first | exact fun j u h => h | exact new_list _ _ _
            case d3 => omega
            case d4 => omega
            case d5 => first | (have := hown.lt; have := (yx P5).lt; omega) | (simp; have := (yx P5).lt; omega)
            intro v7 V7 hown7 hgrow7 _
            have ST7 : Hid (TouchSt w V7 fb lb tb wd ht s lv (sideI f (T1, A) c r (0 + 1)).1 v7 (sideI f (T1, A) c r (0 + 1)).2) := yz (by rw [yx HS2]; exact ST6.appended hgrow7 hown7 (yx HPx) lf ll lt)
            clear hown7 hgrow7 hown ST6 c0 c1
            go_wp2_with fail
            go_roundw
            case rel => exact ⟨0 + 1, by omega, by go_num, ST7⟩
            case measure => simp [intOf] <;> omega
        · subst hm1
          have hix : ∀ W : World, (Instr.index 300 (.agg #[.int .i64 ((c : Int) - 1), .int .i64 (r : Int), .int .i64 ((c : Int) + 1), .int .i64 (r : Int), .int .i64 (c : Int), .int .i64 ((r : Int) - 1), .int .i64 (c : Int), .int .i64 ((r : Int) + 1)]) (.int .i64 1)).run Tryz.prog W = .ok (.agg #[.int .i64 ((c : Int) + 1), .int .i64 ((r : Int))]) W := fun W => index_any _ _ _ _ _ _ _ _ 1 W _ _ (by simp) 
          have HS : Hid (sideI f (T1, A) c r (1 + 1) = stepBl f (sideI f (T1, A) c r 1) ((c : Int) + 1) ((r : Int))) := yz rfl
          have hsl := sideI_len f (T1, A) c r 1
          simp only at hsl
          generalize sideI f (T1, A) c r 1 = S2 at HST HS hsl
          obtain ⟨T2, A2⟩ := S2
          simp only at HST hsl
          have Z1 := below1 wr (.cells #[.int .i64 ((c : Int) + 1), .int .i64 ((r : Int))] 284)
          have P1 := blk_new wr [.int .i64 ((c : Int) + 1), .int .i64 ((r : Int))] 284
          have ST1 := (yx HST).kept Z1
          clear Z1 HST
          go_upto_region 9 with fail
          generalize hWe : wr.alloc (.cells #[.int .i64 ((c : Int) + 1), .int .i64 ((r : Int))] 284) = W3 at P1 ST1 ⊢
          generalize hpe : wr.heap.size = pb at P1 ⊢
          have hpb2 : tb ≠ pb := by omega
          clear hWe hpe
          have hST := yz ST1
          have hP := yz P1
          have c0 := P1.cell 0 _ rfl
          have c1 := P1.cell 1 _ rfl
          clear ST1 P1
          go_wp2_with fail
          refine (lit_any ((c : Int) + 1) ((r : Int)) fb lb tb wd ht s lv T2 _ hw hh (yx HSZ) (yx hST).fr (yx hST).lev (yx hST).taken).mono ?_
          rintro e W4 ⟨rfl, hx4⟩
          rw [litI_F, yx HF]
          have ST4 := yz ((yx hST).kept hx4)
          have P4 := yz ((yx hP).kept hx4)
          clear hST hP hx4 c0 c1
          cases hl : litF f T2 ((c : Int) + 1) ((r : Int))
          · have HS2 : Hid (sideI f (T1, A) c r (1 + 1) = (T2, A2)) := yz (by rw [yx HS]; unfold stepBl; rw [if_neg (by simp [hl])])
            have ST5 : Hid (TouchSt w W4 fb lb tb wd ht s lv (sideI f (T1, A) c r (1 + 1)).1 u7 (sideI f (T1, A) c r (1 + 1)).2) := yz (by rw [yx HS2]; exact yx ST4)
            clear hl
            go_wp2_with fail
            go_roundw
            case rel => exact ⟨1 + 1, by omega, by go_num, ST5⟩
            case measure => simp [intOf] <;> omega
          · have hhold := litF_holds hl
            have hhold2 : holdsB wd ht ((c : Int) + 1) ((r : Int)) = true := by rw [← yx HF] at hhold; exact hhold
            have HPx := yz (pix_of hhold2)
            have HS2 : Hid (sideI f (T1, A) c r (1 + 1) = (mark T2 (((r : Int) : Int).toNat * wd + ((c : Int) + 1 : Int).toNat), A2 ++ [((r : Int) : Int).toNat * wd + ((c : Int) + 1 : Int).toNat])) := yz (by rw [yx HS]; unfold stepBl; rw [if_pos hl, ← yx HF]; rfl)
            have cK := yz (fun (W : World) hW => take_int ((c : Int) + 1) ((r : Int)) tb wd ht T2 W hw hh hhold2 hW)
            clear hl hhold hhold2
            generalize hqe : ((r : Int) : Int).toNat * wd + ((c : Int) + 1 : Int).toNat = q at *
            clear hqe
            have c0 := (yx P4).cell 0 _ rfl
            have c1 := (yx P4).cell 1 _ rfl
            go_wp2_with fail
            refine (yx cK _ (yx ST4).taken).mono ?_
            rintro e W5 ⟨rfl, hT5, hg5⟩
            have ST5 := yz ((yx ST4).took hg5 hT5 n1 n2 lt)
            have P5 : Hid (Blk W5 pb [.int .i64 ((c : Int) + 1), .int .i64 ((r : Int))] 284) := yz ((yx P4).grown hg5 (fun e => hpb2 (Option.some.inj e).symm))
            clear hT5 hg5 ST4 P4 c0 c1
            have c0 := (yx P5).cell 0 _ rfl
            have c1 := (yx P5).cell 1 _ rfl
            have Z1 := below1 W5 (.cells #[.int .i64 ((c : Int) + 1), .int .i64 ((r : Int))] 284)
            have ST6 := (yx ST5).kept Z1
            have hown := ST6.found
            have hz5 := (yx ST5).grown.size
            clear Z1
            go_wp2_with (at_builtin; refine wpList_append_own _ rfl _ _ 289 rfl (w.heap.size + 1) 284 i0 (.agg #[.int .i64 0, .int .i64 0]) 2 16 Tryz.underlying289 hinf hz0 hz1 hz2 rfl (by decide) _ _ _ rfl hown ⟨W5.heap.size, 0, none⟩ 1 1 [.int .i64 ((c : Int) + 1), .int .i64 ((r : Int))] rfl rfl ?d2 (fun u hu => by simp at hu; rcases hu with rfl | rfl <;> rfl) ?d3 ?d4 ?d5 ?_)
            case d2 => first | exact fun j u h => h | exact new_list _ _ _
            case d3 => omega
            case d4 => omega
            case d5 => first | (have := hown.lt; have := (yx P5).lt; omega) | (simp; have := (yx P5).lt; omega)
            intro v7 V7 hown7 hgrow7 _
            have ST7 : Hid (TouchSt w V7 fb lb tb wd ht s lv (sideI f (T1, A) c r (1 + 1)).1 v7 (sideI f (T1, A) c r (1 + 1)).2) := yz (by rw [yx HS2]; exact ST6.appended hgrow7 hown7 (yx HPx) lf ll lt)
            clear hown7 hgrow7 hown ST6 c0 c1
            go_wp2_with fail
            go_roundw
            case rel => exact ⟨1 + 1, by omega, by go_num, ST7⟩
            case measure => simp [intOf] <;> omega
        · subst hm2
          have hix : ∀ W : World, (Instr.index 300 (.agg #[.int .i64 ((c : Int) - 1), .int .i64 (r : Int), .int .i64 ((c : Int) + 1), .int .i64 (r : Int), .int .i64 (c : Int), .int .i64 ((r : Int) - 1), .int .i64 (c : Int), .int .i64 ((r : Int) + 1)]) (.int .i64 2)).run Tryz.prog W = .ok (.agg #[.int .i64 ((c : Int)), .int .i64 ((r : Int) - 1)]) W := fun W => index_any _ _ _ _ _ _ _ _ 2 W _ _ (by simp) 
          have HS : Hid (sideI f (T1, A) c r (2 + 1) = stepBl f (sideI f (T1, A) c r 2) ((c : Int)) ((r : Int) - 1)) := yz rfl
          have hsl := sideI_len f (T1, A) c r 2
          simp only at hsl
          generalize sideI f (T1, A) c r 2 = S2 at HST HS hsl
          obtain ⟨T2, A2⟩ := S2
          simp only at HST hsl
          have Z1 := below1 wr (.cells #[.int .i64 ((c : Int)), .int .i64 ((r : Int) - 1)] 284)
          have P1 := blk_new wr [.int .i64 ((c : Int)), .int .i64 ((r : Int) - 1)] 284
          have ST1 := (yx HST).kept Z1
          clear Z1 HST
          go_upto_region 9 with fail
          generalize hWe : wr.alloc (.cells #[.int .i64 ((c : Int)), .int .i64 ((r : Int) - 1)] 284) = W3 at P1 ST1 ⊢
          generalize hpe : wr.heap.size = pb at P1 ⊢
          have hpb2 : tb ≠ pb := by omega
          clear hWe hpe
          have hST := yz ST1
          have hP := yz P1
          have c0 := P1.cell 0 _ rfl
          have c1 := P1.cell 1 _ rfl
          clear ST1 P1
          go_wp2_with fail
          refine (lit_any ((c : Int)) ((r : Int) - 1) fb lb tb wd ht s lv T2 _ hw hh (yx HSZ) (yx hST).fr (yx hST).lev (yx hST).taken).mono ?_
          rintro e W4 ⟨rfl, hx4⟩
          rw [litI_F, yx HF]
          have ST4 := yz ((yx hST).kept hx4)
          have P4 := yz ((yx hP).kept hx4)
          clear hST hP hx4 c0 c1
          cases hl : litF f T2 ((c : Int)) ((r : Int) - 1)
          · have HS2 : Hid (sideI f (T1, A) c r (2 + 1) = (T2, A2)) := yz (by rw [yx HS]; unfold stepBl; rw [if_neg (by simp [hl])])
            have ST5 : Hid (TouchSt w W4 fb lb tb wd ht s lv (sideI f (T1, A) c r (2 + 1)).1 u7 (sideI f (T1, A) c r (2 + 1)).2) := yz (by rw [yx HS2]; exact yx ST4)
            clear hl
            go_wp2_with fail
            go_roundw
            case rel => exact ⟨2 + 1, by omega, by go_num, ST5⟩
            case measure => simp [intOf] <;> omega
          · have hhold := litF_holds hl
            have hhold2 : holdsB wd ht ((c : Int)) ((r : Int) - 1) = true := by rw [← yx HF] at hhold; exact hhold
            have HPx := yz (pix_of hhold2)
            have HS2 : Hid (sideI f (T1, A) c r (2 + 1) = (mark T2 (((r : Int) - 1 : Int).toNat * wd + ((c : Int) : Int).toNat), A2 ++ [((r : Int) - 1 : Int).toNat * wd + ((c : Int) : Int).toNat])) := yz (by rw [yx HS]; unfold stepBl; rw [if_pos hl, ← yx HF]; rfl)
            have cK := yz (fun (W : World) hW => take_int ((c : Int)) ((r : Int) - 1) tb wd ht T2 W hw hh hhold2 hW)
            clear hl hhold hhold2
            generalize hqe : ((r : Int) - 1 : Int).toNat * wd + ((c : Int) : Int).toNat = q at *
            clear hqe
            have c0 := (yx P4).cell 0 _ rfl
            have c1 := (yx P4).cell 1 _ rfl
            go_wp2_with fail
            refine (yx cK _ (yx ST4).taken).mono ?_
            rintro e W5 ⟨rfl, hT5, hg5⟩
            have ST5 := yz ((yx ST4).took hg5 hT5 n1 n2 lt)
            have P5 : Hid (Blk W5 pb [.int .i64 ((c : Int)), .int .i64 ((r : Int) - 1)] 284) := yz ((yx P4).grown hg5 (fun e => hpb2 (Option.some.inj e).symm))
            clear hT5 hg5 ST4 P4 c0 c1
            have c0 := (yx P5).cell 0 _ rfl
            have c1 := (yx P5).cell 1 _ rfl
            have Z1 := below1 W5 (.cells #[.int .i64 ((c : Int)), .int .i64 ((r : Int) - 1)] 284)
            have ST6 := (yx ST5).kept Z1
            have hown := ST6.found
            have hz5 := (yx ST5).grown.size
            clear Z1
            go_wp2_with (at_builtin; refine wpList_append_own _ rfl _ _ 289 rfl (w.heap.size + 1) 284 i0 (.agg #[.int .i64 0, .int .i64 0]) 2 16 Tryz.underlying289 hinf hz0 hz1 hz2 rfl (by decide) _ _ _ rfl hown ⟨W5.heap.size, 0, none⟩ 1 1 [.int .i64 ((c : Int)), .int .i64 ((r : Int) - 1)] rfl rfl ?d2 (fun u hu => by simp at hu; rcases hu with rfl | rfl <;> rfl) ?d3 ?d4 ?d5 ?_)
            case d2 => first | exact fun j u h => h | exact new_list _ _ _
            case d3 => omega
            case d4 => omega
            case d5 => first | (have := hown.lt; have := (yx P5).lt; omega) | (simp; have := (yx P5).lt; omega)
            intro v7 V7 hown7 hgrow7 _
            have ST7 : Hid (TouchSt w V7 fb lb tb wd ht s lv (sideI f (T1, A) c r (2 + 1)).1 v7 (sideI f (T1, A) c r (2 + 1)).2) := yz (by rw [yx HS2]; exact ST6.appended hgrow7 hown7 (yx HPx) lf ll lt)
            clear hown7 hgrow7 hown ST6 c0 c1
            go_wp2_with fail
            go_roundw
            case rel => exact ⟨2 + 1, by omega, by go_num, ST7⟩
            case measure => simp [intOf] <;> omega
        · subst hm3
          have hix : ∀ W : World, (Instr.index 300 (.agg #[.int .i64 ((c : Int) - 1), .int .i64 (r : Int), .int .i64 ((c : Int) + 1), .int .i64 (r : Int), .int .i64 (c : Int), .int .i64 ((r : Int) - 1), .int .i64 (c : Int), .int .i64 ((r : Int) + 1)]) (.int .i64 3)).run Tryz.prog W = .ok (.agg #[.int .i64 ((c : Int)), .int .i64 ((r : Int) + 1)]) W := fun W => index_any _ _ _ _ _ _ _ _ 3 W _ _ (by simp) 
          have HS : Hid (sideI f (T1, A) c r (3 + 1) = stepBl f (sideI f (T1, A) c r 3) ((c : Int)) ((r : Int) + 1)) := yz rfl
          have hsl := sideI_len f (T1, A) c r 3
          simp only at hsl
          generalize sideI f (T1, A) c r 3 = S2 at HST HS hsl
          obtain ⟨T2, A2⟩ := S2
          simp only at HST hsl
          have Z1 := below1 wr (.cells #[.int .i64 ((c : Int)), .int .i64 ((r : Int) + 1)] 284)
          have P1 := blk_new wr [.int .i64 ((c : Int)), .int .i64 ((r : Int) + 1)] 284
          have ST1 := (yx HST).kept Z1
          clear Z1 HST
          go_upto_region 9 with fail
          generalize hWe : wr.alloc (.cells #[.int .i64 ((c : Int)), .int .i64 ((r : Int) + 1)] 284) = W3 at P1 ST1 ⊢
          generalize hpe : wr.heap.size = pb at P1 ⊢
          have hpb2 : tb ≠ pb := by omega
          clear hWe hpe
          have hST := yz ST1
          have hP := yz P1
          have c0 := P1.cell 0 _ rfl
          have c1 := P1.cell 1 _ rfl
          clear ST1 P1
          go_wp2_with fail
          refine (lit_any ((c : Int)) ((r : Int) + 1) fb lb tb wd ht s lv T2 _ hw hh (yx HSZ) (yx hST).fr (yx hST).lev (yx hST).taken).mono ?_
          rintro e W4 ⟨rfl, hx4⟩
          rw [litI_F, yx HF]
          have ST4 := yz ((yx hST).kept hx4)
          have P4 := yz ((yx hP).kept hx4)
          clear hST hP hx4 c0 c1
          cases hl : litF f T2 ((c : Int)) ((r : Int) + 1)
          · have HS2 : Hid (sideI f (T1, A) c r (3 + 1) = (T2, A2)) := yz (by rw [yx HS]; unfold stepBl; rw [if_neg (by simp [hl])])
            have ST5 : Hid (TouchSt w W4 fb lb tb wd ht s lv (sideI f (T1, A) c r (3 + 1)).1 u7 (sideI f (T1, A) c r (3 + 1)).2) := yz (by rw [yx HS2]; exact yx ST4)
            clear hl
            go_wp2_with fail
            go_roundw
            case rel => exact ⟨3 + 1, by omega, by go_num, ST5⟩
            case measure => simp [intOf] <;> omega
          · have hhold := litF_holds hl
            have hhold2 : holdsB wd ht ((c : Int)) ((r : Int) + 1) = true := by rw [← yx HF] at hhold; exact hhold
            have HPx := yz (pix_of hhold2)
            have HS2 : Hid (sideI f (T1, A) c r (3 + 1) = (mark T2 (((r : Int) + 1 : Int).toNat * wd + ((c : Int) : Int).toNat), A2 ++ [((r : Int) + 1 : Int).toNat * wd + ((c : Int) : Int).toNat])) := yz (by rw [yx HS]; unfold stepBl; rw [if_pos hl, ← yx HF]; rfl)
            have cK := yz (fun (W : World) hW => take_int ((c : Int)) ((r : Int) + 1) tb wd ht T2 W hw hh hhold2 hW)
            clear hl hhold hhold2
            generalize hqe : ((r : Int) + 1 : Int).toNat * wd + ((c : Int) : Int).toNat = q at *
            clear hqe
            have c0 := (yx P4).cell 0 _ rfl
            have c1 := (yx P4).cell 1 _ rfl
            go_wp2_with fail
            refine (yx cK _ (yx ST4).taken).mono ?_
            rintro e W5 ⟨rfl, hT5, hg5⟩
            have ST5 := yz ((yx ST4).took hg5 hT5 n1 n2 lt)
            have P5 : Hid (Blk W5 pb [.int .i64 ((c : Int)), .int .i64 ((r : Int) + 1)] 284) := yz ((yx P4).grown hg5 (fun e => hpb2 (Option.some.inj e).symm))
            clear hT5 hg5 ST4 P4 c0 c1
            have c0 := (yx P5).cell 0 _ rfl
            have c1 := (yx P5).cell 1 _ rfl
            have Z1 := below1 W5 (.cells #[.int .i64 ((c : Int)), .int .i64 ((r : Int) + 1)] 284)
            have ST6 := (yx ST5).kept Z1
            have hown := ST6.found
            have hz5 := (yx ST5).grown.size
            clear Z1
            go_wp2_with (at_builtin; refine wpList_append_own _ rfl _ _ 289 rfl (w.heap.size + 1) 284 i0 (.agg #[.int .i64 0, .int .i64 0]) 2 16 Tryz.underlying289 hinf hz0 hz1 hz2 rfl (by decide) _ _ _ rfl hown ⟨W5.heap.size, 0, none⟩ 1 1 [.int .i64 ((c : Int)), .int .i64 ((r : Int) + 1)] rfl rfl ?d2 (fun u hu => by simp at hu; rcases hu with rfl | rfl <;> rfl) ?d3 ?d4 ?d5 ?_)
            case d2 => first | exact fun j u h => h | exact new_list _ _ _
            case d3 => omega
            case d4 => omega
            case d5 => first | (have := hown.lt; have := (yx P5).lt; omega) | (simp; have := (yx P5).lt; omega)
            intro v7 V7 hown7 hgrow7 _
            have ST7 : Hid (TouchSt w V7 fb lb tb wd ht s lv (sideI f (T1, A) c r (3 + 1)).1 v7 (sideI f (T1, A) c r (3 + 1)).2) := yz (by rw [yx HS2]; exact ST6.appended hgrow7 hown7 (yx HPx) lf ll lt)
            clear hown7 hgrow7 hown ST6 c0 c1
            go_wp2_with fail
            go_roundw
            case rel => exact ⟨3 + 1, by omega, by go_num, ST7⟩
            case measure => simp [intOf] <;> omega
        · subst hm4
          rw [yx HSide2] at HST
          have hlen1 : k + 1 ≤ (growP f T i (k + 1)).2.length := by
            have := (yx HPre).length_le
            omega
          go_wp2_with fail
          go_roundw
          case rel => exact ⟨k + 1, hlen1, by go_num, HST⟩
          case measure => simp [intOf] <;> omega
    · have hke : (growP f T i k).2.length ≤ k := by omega
      have HEnd : Hid (growP f T i k = blobP f T i) := yz (blobP_end (by rw [yx HFN]; exact hi) (yx HT0) hke (by rw [yx HFN]; omega))
      have hkk : ¬ (k : Int) < ((growP f T i k).2.length : Int) := by omega
      obtain ⟨a7, cap7, hv7⟩ := own_slice (yx HST).found
      subst hv7
      go_wp2_with fail
      go_ret
      exact ⟨_, rfl, by rw [yx HF, ← yx HIe, ← yx HEnd]; exact yx HST⟩
theorem edge_same (f : Fr) (p c r : Nat) (hc : c = p % f.wd) (hr : r = p / f.wd) (h1 : 1 ≤ f.wd) (h2 : 1 ≤ f.ht) : edgeI f.wd f.ht c r = edgeP f p := by
  unfold edgeI edgeP
  rw [← hc, ← hr, Bool.eq_iff_iff]
  simp only [Bool.or_eq_true, decide_eq_true_eq]
  omega
def blobAt (n : Nat) (b : Bl) : List Value := [.int .i64 n, .int .i64 b.su, .int .i64 b.sx, .int .i64 b.sy, .bool b.ed]
set_option maxHeartbeats 4000000 in
set_option maxRecDepth 100000 in
theorem blobOf_any (wd ht : Nat) (s : ByteArray) (lv : Int) (A : List Nat) (v : Value) (B : Nat) (w : World) (hw0 : 1 ≤ wd) (hw : wd ≤ 16) (hh0 : 1 ≤ ht) (hh : ht ≤ 12) (hs : s.size = wd * ht) (hA : A.length ≤ 192) (hin : ∀ j ∈ A, j < s.size) (hv : w.ownsRow B 284 2 v A.length (pixL wd A)) :
    Calls Tryz.prog 211 #[.agg #[.int .i64 wd, .int .i64 ht, .string s], v] w fun e w' => e = .returned (.agg (blobL (sumP (frOf wd ht s lv) A)).toArray) ∧ Below w.heap.size w w' := by
  obtain ⟨a1, cap1, hv1⟩ := own_slice hv
  subst hv1
  have HSZ := yz hs
  have HIN := yz hin
  have HV := yz hv
  have F0 := ((blk_new w [.int .i64 (wd : Int), .int .i64 (ht : Int), .string s] 43).alloc (.cells #[.int .i64 0, .int .i64 0, .int .i64 0, .int .i64 0, .bool false] 163)).alloc (.cells #[.int .i64 (A.length : Int), .int .i64 0, .int .i64 0, .int .i64 0, .bool false] 163)
  have R0 := (blk_new (w.alloc (.cells #[.int .i64 (wd : Int), .int .i64 (ht : Int), .string s] 43)) [.int .i64 0, .int .i64 0, .int .i64 0, .int .i64 0, .bool false] 163).alloc (.cells #[.int .i64 (A.length : Int), .int .i64 0, .int .i64 0, .int .i64 0, .bool false] 163)
  have Q0 := blk_new ((w.alloc (.cells #[.int .i64 (wd : Int), .int .i64 (ht : Int), .string s] 43)).alloc (.cells #[.int .i64 0, .int .i64 0, .int .i64 0, .int .i64 0, .bool false] 163)) [.int .i64 (A.length : Int), .int .i64 0, .int .i64 0, .int .i64 0, .bool false] 163
  have B0 := below3 w (.cells #[.int .i64 (wd : Int), .int .i64 (ht : Int), .string s] 43) (.cells #[.int .i64 0, .int .i64 0, .int .i64 0, .int .i64 0, .bool false] 163) (.cells #[.int .i64 (A.length : Int), .int .i64 0, .int .i64 0, .int .i64 0, .bool false] 163)
  have e1 : (w.alloc (.cells #[.int .i64 (wd : Int), .int .i64 (ht : Int), .string s] 43)).heap.size = w.heap.size + 1 := by simp
  have e2 : ((w.alloc (.cells #[.int .i64 (wd : Int), .int .i64 (ht : Int), .string s] 43)).alloc (.cells #[.int .i64 0, .int .i64 0, .int .i64 0, .int .i64 0, .bool false] 163)).heap.size = w.heap.size + 1 + 1 := by simp
  rw [e1] at R0
  rw [e2] at Q0
  have O0 := own_kept hv B0
  clear e1 e2 hs hin hv
  generalize hfe : frOf wd ht s lv = f
  have HF := yz hfe
  clear hfe
  go_enter Tryz.func211, Tryz.ntmps211
  go_upto_region 2 with fail
  generalize ((w.alloc (.cells #[.int .i64 (wd : Int), .int .i64 (ht : Int), .string s] 43)).alloc (.cells #[.int .i64 0, .int .i64 0, .int .i64 0, .int .i64 0, .bool false] 163)).alloc (.cells #[.int .i64 (A.length : Int), .int .i64 0, .int .i64 0, .int .i64 0, .bool false] 163) = W0 at F0 R0 Q0 B0 O0 ⊢
  clear O0
  have hF0 := yz F0
  have hR0 := yz R0
  have hQ0 : Hid (Blk W0 (w.heap.size + 1 + 1) (blobAt A.length (sumP f (A.take 0))) 163) := yz Q0
  have hB0 := yz B0
  clear F0 R0 Q0 B0
  have HFN : Hid (f.n = s.size) := yz (by rw [← yx HF]; exact (yx HSZ).symm)
  go_wp2_with fail
  go_loopw [14] (fun kk wr => ∃ k : Nat, k ≤ A.length ∧ kk = .int .i64 k ∧ Hid (Blk wr w.heap.size [.int .i64 (wd : Int), .int .i64 (ht : Int), .string s] 43) ∧ Hid (Blk wr (w.heap.size + 1) [.int .i64 0, .int .i64 0, .int .i64 0, .int .i64 0, .bool false] 163) ∧ Hid (Blk wr (w.heap.size + 1 + 1) (blobAt A.length (sumP f (A.take k))) 163) ∧ Hid (Below w.heap.size w wr)) (fun kk _ => A.length - (intOf kk).toNat)
  case atStart => exact ⟨0, Nat.zero_le _, rfl, hF0, hR0, hQ0, hB0⟩
  case round =>
    clear hF0 hR0 hQ0 hB0
    obtain ⟨k, hk, rfl, HFr, HR, HQ, HB⟩ := hrel
    by_cases hkn : k < A.length
    · have hpm : A.getD k 0 ∈ A := by rw [List.getD, List.getElem?_eq_getElem hkn]; exact List.getElem_mem hkn
      have hpl := yx HIN _ hpm
      have HTK : Hid (A.take (k + 1) = A.take k ++ [A.getD k 0]) := yz (by
        rw [List.take_succ_eq_append_getElem hkn, List.getD, List.getElem?_eq_getElem hkn]; rfl)
      have hbd := sum_bound (f := f) (by rw [← yx HF]; exact hw) (by rw [← yx HF]; exact hh) (fun i => by rw [← yx HF]; exact byteN_lt256 s i) (A.take k) (fun j hj => by rw [yx HFN]; exact yx HIN j (List.mem_of_mem_take hj))
      rw [List.length_take] at hbd
      have hfd := own_kept (yx HV) (yx HB)
      obtain ⟨e0, e1⟩ := pixL_at wd A k hkn
      obtain ⟨g7, hg7⟩ : ∃ g, a1 = some ⟨g, 0, none⟩ := by
        rcases hfd.2 with ⟨h1, h0⟩ | ⟨g, cap, cur, h1, _⟩
        · omega
        · injection h1 with h1 _ _
          exact ⟨g, h1⟩
      subst hg7
      have c0 : wr.cell? ⟨g7, k * 2, none⟩ = _ := (hfd.cellAt (k * 2) (by omega)).trans e0
      have c1 : wr.cell? ⟨g7, k * 2 + 1, none⟩ = _ := (hfd.cellAt (k * 2 + 1) (by omega)).trans e1
      clear hfd e0 e1 hpm
      generalize hpe : A.getD k 0 = p at *
      clear hpe
      generalize hbe : sumP f (A.take k) = b at *
      have HBe := yz hbe
      clear hbe
      obtain ⟨ar, su, sx, sy, ed⟩ := b
      simp only at hbd
      obtain ⟨_, hb2, hb3, hb4⟩ := hbd
      obtain ⟨c, hce⟩ : ∃ c, c = p % wd := ⟨_, rfl⟩
      obtain ⟨r, hre⟩ : ∃ r, r = p / wd := ⟨_, rfl⟩
      rw [← hce] at c0
      rw [← hre] at c1
      have hcl : c < wd := by rw [hce]; exact Nat.mod_lt _ (by omega)
      have hrl : r < ht := by rw [hre]; exact Nat.div_lt_of_lt_mul (by rw [← yx HSZ]; exact hpl)
      have HPC : Hid (r * wd + c = p) := yz (by rw [hce, hre, Nat.mul_comm]; exact Nat.div_add_mod p wd)
      have HCe := yz hce
      have HRe := yz hre
      clear hce hre
      have hk2 : (k : Int) < (A.length : Int) := by omega
      have lbw : w.heap.size + 1 + 1 < wr.heap.size := (yx HQ).lt
      have Z1 := below1 wr (.cells #[.int .i64 (c : Int), .int .i64 (r : Int)] 284)
      have P1 := blk_new wr [.int .i64 (c : Int), .int .i64 (r : Int)] 284
      have F1 := (yx HFr).kept Z1
      have R1 := (yx HR).kept Z1
      have Q1 := (yx HQ).kept Z1
      have B1 := (yx HB).trans (Z1.mono (by omega))
      clear Z1 HFr HR HQ HB
      go_upto_region 5 with fail
      generalize hpb : wr.heap.size = pb at *
      generalize wr.alloc (.cells #[.int .i64 (c : Int), .int .i64 (r : Int)] 284) = W1 at P1 F1 R1 Q1 B1 ⊢
      clear c0 c1
      have c0 := P1.cell 0 _ rfl
      have c1 := P1.cell 1 _ rfl
      obtain ⟨f0, f1, f2⟩ := bcs3 (F1)
      go_wp2_with fail
      refine (light_any wd ht s c r _ hw hh (yx HSZ) hcl hrl).mono ?_
      rintro e W2 ⟨rfl, hx2⟩
      rw [yx HPC]
      have P2 := P1.kept hx2
      have F2 := F1.kept hx2
      have R2 := R1.kept hx2
      have Q2 := Q1.kept hx2
      have B2 := B1.trans (hx2.mono (Nat.le_of_lt F1.lt))
      clear hx2 P1 F1 R1 Q1 B1 c0 c1 f0 f1 f2
      have hnb := byteN_lt256 s p
      obtain ⟨n, hne⟩ : ∃ n, n = byteN s p := ⟨_, rfl⟩
      rw [← hne] at hnb ⊢
      have HNe := yz hne
      clear hne
      obtain ⟨m1, hm1⟩ : ∃ m1, m1 = n * c := ⟨_, rfl⟩
      obtain ⟨m2, hm2⟩ : ∃ m2, m2 = n * r := ⟨_, rfl⟩
      have hm1b : m1 ≤ 255 * 15 := by rw [hm1]; exact Nat.mul_le_mul (by omega) (by omega)
      have hm2b : m2 ≤ 255 * 11 := by rw [hm2]; exact Nat.mul_le_mul (by omega) (by omega)
      have hx1 : (n : Int) * (c : Int) = (m1 : Int) := by rw [hm1]; exact (Int.natCast_mul _ _).symm
      have hx2 : (n : Int) * (r : Int) = (m2 : Int) := by rw [hm2]; exact (Int.natCast_mul _ _).symm
      have HM1 := yz hm1
      have HM2 := yz hm2
      clear hm1 hm2
      have q1 := Q2.cell 1 _ rfl
      have q2 := Q2.cell 2 _ rfl
      have q3 := Q2.cell 3 _ rfl
      have e1 := Q2.free 1
      have e2 := Q2.free 2
      have e3 := Q2.free 3
      have p0 := P2.cell 0 _ rfl
      have p1 := P2.cell 1 _ rfl
      have npb : pb ≠ w.heap.size + 1 + 1 := by omega
      try simp only at q1 q2 q3
      go_upto_region 9 with fail
      have lo : w.heap.size ≤ w.heap.size + 1 + 1 := by omega
      have Q3 := ((Q2.set 1 (.int .i64 ((su : Int) + (n : Int)))).set 2 (.int .i64 ((sx : Int) + (m1 : Int)))).set 3 (.int .i64 ((sy : Int) + (m2 : Int)))
      have P3 := ((P2.other ⟨w.heap.size + 1 + 1, 1, none⟩ (.int .i64 ((su : Int) + (n : Int))) npb).other ⟨w.heap.size + 1 + 1, 2, none⟩ (.int .i64 ((sx : Int) + (m1 : Int))) npb).other ⟨w.heap.size + 1 + 1, 3, none⟩ (.int .i64 ((sy : Int) + (m2 : Int))) npb
      have nfb : w.heap.size ≠ w.heap.size + 1 + 1 := by omega
      have nrb : w.heap.size + 1 ≠ w.heap.size + 1 + 1 := by omega
      have F3 := ((F2.other ⟨w.heap.size + 1 + 1, 1, none⟩ (.int .i64 ((su : Int) + (n : Int))) nfb).other ⟨w.heap.size + 1 + 1, 2, none⟩ (.int .i64 ((sx : Int) + (m1 : Int))) nfb).other ⟨w.heap.size + 1 + 1, 3, none⟩ (.int .i64 ((sy : Int) + (m2 : Int))) nfb
      have R3 := ((R2.other ⟨w.heap.size + 1 + 1, 1, none⟩ (.int .i64 ((su : Int) + (n : Int))) nrb).other ⟨w.heap.size + 1 + 1, 2, none⟩ (.int .i64 ((sx : Int) + (m1 : Int))) nrb).other ⟨w.heap.size + 1 + 1, 3, none⟩ (.int .i64 ((sy : Int) + (m2 : Int))) nrb
      have B3 := ((B2.setCell (p := ⟨w.heap.size + 1 + 1, 1, none⟩) lo (.int .i64 ((su : Int) + (n : Int)))).setCell (p := ⟨w.heap.size + 1 + 1, 2, none⟩) lo (.int .i64 ((sx : Int) + (m1 : Int)))).setCell (p := ⟨w.heap.size + 1 + 1, 3, none⟩) lo (.int .i64 ((sy : Int) + (m2 : Int)))
      generalize (((W2.setCell ⟨w.heap.size + 1 + 1, 1, none⟩ (.int .i64 ((su : Int) + (n : Int)))).setCell ⟨w.heap.size + 1 + 1, 2, none⟩ (.int .i64 ((sx : Int) + (m1 : Int)))).setCell ⟨w.heap.size + 1 + 1, 3, none⟩ (.int .i64 ((sy : Int) + (m2 : Int)))) = W3 at Q3 P3 F3 R3 B3 ⊢
      clear Q2 P2 F2 R2 B2 q1 q2 q3 e1 e2 e3 p0 p1 hx1 hx2
      have HBB : Hid (blobAt A.length (sumP f (A.take (k + 1))) = [.int .i64 (A.length : Int), .int .i64 ((su : Int) + (n : Int)), .int .i64 ((sx : Int) + (m1 : Int)), .int .i64 ((sy : Int) + (m2 : Int)), .bool (ed || edgeP f p)]) := yz (by
        rw [yx HTK, sumP_snoc, yx HBe, yx HM1, yx HM2, yx HNe, yx HCe, yx HRe, ← yx HF]
        unfold blobAt addP frOf
        simp)
      have q4 := Q3.cell 4 _ rfl
      have e4 := Q3.free 4
      try simp only at q4
      cases ed
      · have c0 := P3.cell 0 _ rfl
        have c1 := P3.cell 1 _ rfl
        obtain ⟨f0, f1, f2⟩ := bcs3 (F3)
        have HED : Hid (edgeI wd ht c r = edgeP f p) := yz (by
          have h := edge_same f p c r (by rw [← yx HF]; exact yx HCe) (by rw [← yx HF]; exact yx HRe) (by rw [← yx HF]; exact hw0) (by rw [← yx HF]; exact hh0)
          rw [← yx HF] at h ⊢
          exact h)
        go_wp2_with fail
        refine (atEdge_any wd ht s c r _ (by omega) (by omega) (by omega) (by omega)).mono ?_
        rintro e W4 ⟨rfl, hx4⟩
        rw [yx HED]
        have Q4 := Q3.kept hx4
        have F4 := F3.kept hx4
        have R4 := R3.kept hx4
        have B4 := B3.trans (hx4.mono (Nat.le_of_lt F3.lt))
        clear q4 e4 c0 c1 f0 f1 f2 hx4 Q3 F3 R3 B3 P3
        have e4 := Q4.free 4
        have q4 := Q4.cell 4 _ rfl
        try simp only at q4
        have HQ5 : Hid (Blk (W4.setCell ⟨w.heap.size + 1 + 1, 4, none⟩ (.bool (edgeP f p))) (w.heap.size + 1 + 1) (blobAt A.length (sumP f (A.take (k + 1)))) 163) := yz (by rw [yx HBB]; exact Q4.set 4 (.bool (edgeP f p)))
        have HF5 := yz (F4.other ⟨w.heap.size + 1 + 1, 4, none⟩ (.bool (edgeP f p)) nfb)
        have HR5 := yz (R4.other ⟨w.heap.size + 1 + 1, 4, none⟩ (.bool (edgeP f p)) nrb)
        have HB5 := yz (B4.setCell (p := ⟨w.heap.size + 1 + 1, 4, none⟩) lo (.bool (edgeP f p)))
        clear Q4 F4 R4 B4
        go_wp2_with fail
        go_roundw
        case rel => exact ⟨k + 1, by omega, by go_num, HF5, HR5, HQ5, HB5⟩
        case measure => simp [intOf] <;> omega
      · have HQ5 : Hid (Blk (W3.setCell ⟨w.heap.size + 1 + 1, 4, none⟩ (.bool true)) (w.heap.size + 1 + 1) (blobAt A.length (sumP f (A.take (k + 1)))) 163) := yz (by rw [yx HBB, Bool.true_or]; exact Q3.set 4 (.bool true))
        have HF5 := yz (F3.other ⟨w.heap.size + 1 + 1, 4, none⟩ (.bool true) nfb)
        have HR5 := yz (R3.other ⟨w.heap.size + 1 + 1, 4, none⟩ (.bool true) nrb)
        have HB5 := yz (B3.setCell (p := ⟨w.heap.size + 1 + 1, 4, none⟩) lo (.bool true))
        clear Q3 F3 R3 B3 P3
        go_wp2_with fail
        go_roundw
        case rel => exact ⟨k + 1, by omega, by go_num, HF5, HR5, HQ5, HB5⟩
        case measure => simp [intOf] <;> omega
    · have hke : A.length ≤ k := by omega
      have HTk : Hid (A.take k = A) := yz (List.take_of_length_le hke)
      rw [yx HTk] at HQ
      have HAr : Hid ((sumP f A).ar = A.length) := yz (by
        have := (sum_bound (f := f) (by rw [← yx HF]; exact hw) (by rw [← yx HF]; exact hh) (fun i => by rw [← yx HF]; exact byteN_lt256 s i) A (fun j hj => by rw [yx HFN]; exact yx HIN j hj)).1
        exact this)
      have hkk : ¬ (k : Int) < (A.length : Int) := by omega
      generalize hbe : sumP f A = b at *
      have HBq := yz hbe
      clear hbe
      obtain ⟨ar, su, sx, sy, ed⟩ := b
      obtain ⟨q0, q1, q2, q3, q4⟩ := bcs5 (yx HQ)
      obtain ⟨r0, r1, r2, r3, r4⟩ := bcs5 (yx HR)
      obtain ⟨g0, g1, g2, g3, g4⟩ := bfs5 (yx HR)
      try simp only at q0 q1 q2 q3 q4
      go_wp2_with fail
      have lo : w.heap.size ≤ w.heap.size + 1 := Nat.le_succ _
      refine bodyPost_ret (v := .agg #[.int .i64 (A.length : Int), .int .i64 su, .int .i64 sx, .int .i64 sy, .bool ed]) (by simp [results, Tryz.results211, go_sem, r0, r1, r2, r3, r4]) rfl ⟨?_, (((((yx HB).setCell lo _).setCell lo _).setCell lo _).setCell lo _).setCell lo _⟩
      have h := yx HAr
      try simp only at h
      unfold blobL
      rw [← h, yx HBq]
end Go.Proofs.YteoonaanoenjiaaGreatDoor
