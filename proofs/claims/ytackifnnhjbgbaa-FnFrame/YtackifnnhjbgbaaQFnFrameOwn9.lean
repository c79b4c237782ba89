/- Several texts in one: FfE. -/
import Derived.Test.YtackifnnhjbgbaaQFnFrameOwn7
import Derived.Test.YtackifnnhjbgbaaQFnFrameOwn8
import Derived.Test.YtackifnnhjbgbaaQFnFrameOwn1
namespace Go.Proofs.Ytackifnnhjbgbaa
set_option linter.unusedVariables false
set_option linter.unusedSimpArgs false
set_option maxRecDepth 100000
set_option maxHeartbeats 8000000
section
open Go.RowKit
def ps (f : Bl → Nat) (S : List Bl) (i : Nat) : Nat := ((S.take i).map f).sum
theorem dN (f : Bl → Nat) (S : List Bl) : ps f S 0 = 0 := rfl
theorem bI (f : Bl → Nat) : ∀ (S : List Bl) (i : Nat), i < S.length → ps f S (i + 1) = ps f S i + f (blA S i)
 | [], _, h => absurd h (Nat.not_lt_zero _)
 | x :: S, 0, _ => by unfold ps; simp [blA]
 | x :: S, i + 1, h => by
  have ih := bI f S i (by simpa using h)
  have e : blA (x :: S) (i + 1) = blA S i := rfl
  unfold ps at ih ⊢
  rw [e, List.take_succ_cons, List.take_succ_cons, List.map_cons, List.map_cons, List.sum_cons, List.sum_cons, ih]
  omega
theorem ev (f : Bl → Nat) {S : List Bl} {i : Nat} (h : S.length ≤ i) : ps f S i = (S.map f).sum := by unfold ps; rw [List.take_of_length_le h]
theorem jP (f : Bl → Nat) (S : List Bl) (i : Nat) : ps f S i ≤ (S.map f).sum := by
 have e : (S.map f).sum = ps f S i + ((S.drop i).map f).sum := by
  unfold ps
  rw [← List.sum_append, ← List.map_append, List.take_append_drop]
 omega
theorem cq (h : Nat → Nat) (m : Nat) (hm : ∀ i, h i ≤ m) : ∀ n, ax h n ≤ n * m
 | 0 => by show 0 ≤ 0 * m; omega
 | n + 1 => by have := cq h m hm n; have := hm n; show ax h n + h n ≤ (n + 1) * m; rw [Nat.add_mul]; omega
theorem dg (f : Fr) (h : Nat → Nat) (m : Nat) (hm : ∀ i, h i ≤ m) (i : Nat) : az f h i ≤ m := by
 unfold az; split
 ·exact hm i
 ·exact Nat.zero_le _
def qa (S T : List Bl) (i : Nat) : Int := (ps Bl.ar S i : Int) - (ps Bl.ar T i : Int)
def qb (S : List Bl) (i : Nat) : Int := (ps Bl.su S i : Int)
def qc (S T : List Bl) (i : Nat) : Int := (ps Bl.sx S i : Int) + (ps Bl.sx T i : Int)
def qd (S : List Bl) (i : Nat) : Int := (ps Bl.ar S i : Int)
def ql (f : Fr) (m : Int) (i : Nat) : Int := m - (ax (az f (fun _ => 1)) i : Int)
def qm (f : Fr) (i : Nat) : Int := (ax (az f f.px) i : Int)
structure cg (f : Fr) (n wd : Nat) (S T : List Bl) : Prop where
 len : T.length = S.length
 ar : ce T = ce S
 sx : gd S + gd T = (wd - 1) * bW S
 a1 : ce S = ax (az f (fun _ => 1)) n
 u1 : bW S = ax (az f f.px) n
 px : ∀ i, f.px i ≤ 255
 hn : n ≤ 192
 w1 : 1 ≤ wd
 w2 : wd ≤ 16
theorem cg.small {f : Fr} {n wd : Nat} {S T : List Bl} (h : cg f n wd S T) : ce S ≤ 192 ∧ ce T ≤ 192 ∧ bW S ≤ 48960 ∧ gd S ≤ 734400 ∧ gd T ≤ 734400 := by
 have h1 : ce S ≤ 192 := by
  rw [h.a1]
  have := cq (az f (fun _ => 1)) 1 (dg f _ 1 (fun _ => Nat.le_refl _)) n
  have := h.hn
  omega
 have h2 : bW S ≤ 48960 := by
  rw [h.u1]
  have := cq (az f f.px) 255 (dg f _ 255 h.px) n
  have := h.hn
  omega
 have h3 : (wd - 1) * bW S ≤ 15 * 48960 := Nat.mul_le_mul (by have := h.w2; omega) h2
 have h4 := h.sx
 have h5 := h.ar
 omega
theorem bnd {S : List Bl} {i : Nat} (f : Bl → Nat) {m : Nat} (h : (S.map f).sum ≤ m) (hi : i < S.length) : ps f S i + f (blA S i) ≤ m := by
 rw [← bI f S i hi]
 exact Nat.le_trans (jP f S (i + 1)) h
theorem jp {f : Fr} {n wd : Nat} {S T : List Bl} (h : cg f n wd S T) {i : Nat} (hi : i < S.length) : wrap64 (wrap64 (qa S T i + ((blA S i).ar : Int)) - ((blA T i).ar : Int)) = qa S T (i + 1) := by
 obtain ⟨s1, s2, s3, s4, s5⟩ := h.small
 have b1 := bnd Bl.ar s1 hi
 have hj : i < T.length := by rw [h.len]; exact hi
 have b2 := bnd Bl.ar s2 hj
 have e1 := bI Bl.ar S i hi
 have e2 := bI Bl.ar T i hj
 unfold qa
 rw [aG (n := (ps Bl.ar S i : Int) - (ps Bl.ar T i : Int) + ((blA S i).ar : Int)) (by omega) (by omega), aG (by omega) (by omega), e1, e2]
 omega
theorem jq {f : Fr} {n wd : Nat} {S T : List Bl} (h : cg f n wd S T) {i : Nat} (hi : i < S.length) : wrap64 (qb S i + ((blA S i).su : Int)) = qb S (i + 1) := by
 obtain ⟨s1, s2, s3, s4, s5⟩ := h.small
 have b1 := bnd Bl.su s3 hi
 have e1 := bI Bl.su S i hi
 unfold qb
 rw [aG (by omega) (by omega), e1]
 omega
theorem jr {f : Fr} {n wd : Nat} {S T : List Bl} (h : cg f n wd S T) {i : Nat} (hi : i < S.length) : wrap64 (wrap64 (qc S T i + ((blA S i).sx : Int)) + ((blA T i).sx : Int)) = qc S T (i + 1) := by
 obtain ⟨s1, s2, s3, s4, s5⟩ := h.small
 have b1 := bnd Bl.sx s4 hi
 have hj : i < T.length := by rw [h.len]; exact hi
 have b2 := bnd Bl.sx s5 hj
 have e1 := bI Bl.sx S i hi
 have e2 := bI Bl.sx T i hj
 unfold qc
 rw [aG (n := (ps Bl.sx S i : Int) + (ps Bl.sx T i : Int) + ((blA S i).sx : Int)) (by omega) (by omega), aG (by omega) (by omega), e1, e2]
 omega
theorem js {f : Fr} {n wd : Nat} {S T : List Bl} (h : cg f n wd S T) {i : Nat} (hi : i < S.length) : wrap64 (qd S i + ((blA S i).ar : Int)) = qd S (i + 1) := by
 obtain ⟨s1, s2, s3, s4, s5⟩ := h.small
 have b1 := bnd Bl.ar s1 hi
 have e1 := bI Bl.ar S i hi
 unfold qd
 rw [aG (by omega) (by omega), e1]
 omega
theorem jQ {f : Fr} {n wd : Nat} {S T : List Bl} (h : cg f n wd S T) {i : Nat} (hi : S.length ≤ i) : qa S T i = 0 ∧ qd S i = (ce S : Int) ∧ qb S i = (bW S : Int) ∧ qc S T i = ((wd : Int) - 1) * (bW S : Int) := by
 have hj : T.length ≤ i := by rw [h.len]; exact hi
 have h1 := h.ar
 have h2 := h.sx
 have h3 := h.w1
 unfold qa qb qc qd
 rw [ev Bl.ar hi, ev Bl.ar hj, ev Bl.su hi, ev Bl.sx hi, ev Bl.sx hj]
 unfold ce gd bW at *
 refine ⟨by omega, rfl, rfl, ?_⟩
 have e : ((wd - 1 : Nat) : Int) = (wd : Int) - 1 := by omega
 rw [← e, ← Int.natCast_mul, ← h2]
 omega
theorem ju {f : Fr} {n wd : Nat} {S T : List Bl} (h : cg f n wd S T) {i : Nat} (hi : i < n) (hl : litB f i = true) : wrap64 (ql f (ce S) i - 1) = ql f (ce S) (i + 1) ∧ wrap64 (qm f i + (f.px i : Int)) = qm f (i + 1) := by
 have e1 : ax (az f (fun _ => 1)) (i + 1) = ax (az f (fun _ => 1)) i + 1 := by show _ + az f (fun _ => 1) i = _; unfold az; rw [if_pos hl]
 have e2 : ax (az f f.px) (i + 1) = ax (az f f.px) i + f.px i := by show _ + az f f.px i = _; unfold az; rw [if_pos hl]
 have b1 := cq (az f (fun _ => 1)) 1 (dg f _ 1 (fun _ => Nat.le_refl _)) i
 have b2 := cq (az f f.px) 255 (dg f _ 255 h.px) i
 have b3 := h.px i
 have b4 := h.hn
 obtain ⟨s1, s2, s3, s4, s5⟩ := h.small
 unfold ql qm
 rw [aG (by omega) (by omega), aG (by omega) (by omega), e1, e2]
 constructor <;> omega
theorem jt {f : Fr} {S : List Bl} {i : Nat} (hl : ¬ litB f i = true) : ql f (ce S) i = ql f (ce S) (i + 1) ∧ qm f i = qm f (i + 1) := by
 have e1 : ax (az f (fun _ => 1)) (i + 1) = ax (az f (fun _ => 1)) i := by show _ + az f (fun _ => 1) i = _; unfold az; rw [if_neg hl]; rfl
 have e2 : ax (az f f.px) (i + 1) = ax (az f f.px) i := by show _ + az f f.px i = _; unfold az; rw [if_neg hl]; rfl
 unfold ql qm
 rw [e1, e2]
 exact ⟨rfl, rfl⟩
theorem jL {f : Fr} {n wd : Nat} {S T : List Bl} (h : cg f n wd S T) : ql f (ce S) n = 0 ∧ qm f n = (bW S : Int) := by
 have h1 := h.a1
 have h2 := h.u1
 unfold ql qm
 omega
theorem jF {f : Fr} {n wd : Nat} {S T : List Bl} (h : cg f n wd S T) : wrap64 (wrap64 ((wd : Int) - 1) * (bW S : Int)) = ((wd : Int) - 1) * (bW S : Int) := by
 obtain ⟨s1, s2, s3, s4, s5⟩ := h.small
 have h1 := h.w1
 have h2 := h.w2
 have h3 : (wd - 1) * bW S ≤ 15 * 48960 := Nat.mul_le_mul (by omega) s3
 have e : ((wd - 1 : Nat) : Int) = (wd : Int) - 1 := by omega
 have e2 : ((wd : Int) - 1) * (bW S : Int) = (((wd - 1) * bW S : Nat) : Int) := by rw [Int.natCast_mul, e]
 rw [aG (n := (wd : Int) - 1) (by omega) (by omega), e2, aG (by omega) (by omega)]
end
end Go.Proofs.Ytackifnnhjbgbaa
