/- Several texts in one: DtM, DtA, DtB, DtC. -/
import Derived.Lib.Join
import Derived.Test.YtlleafjdgblhcaaGreatDoorQDeskRunOwn23
import Derived.Test.YtlleafjdgblhcaaGreatDoorQDeskRunOwn43
import Derived.Test.YtlleafjdgblhcaaGreatDoorQDeskRunOwn38
import Derived.Test.YtlleafjdgblhcaaGreatDoorQDeskRunOwn39
import Derived.Test.YtlleafjdgblhcaaGreatDoorQDeskRunOwn27
import Derived.Test.YtlleafjdgblhcaaGreatDoorQDeskRunOwn1
import Derived.Test.YtlleafjdgblhcaaGreatDoorQDeskRunOwn7
namespace Go.Proofs.YtlleafjdgblhcaaGreatDoor
set_option linter.unusedVariables false
set_option linter.unusedSimpArgs false
set_option maxRecDepth 100000
set_option maxHeartbeats 8000000
section
open Go.RowKit
theorem mm (n : Nat) : bG (n : Int) = fz n := by
 unfold bG Lib.itoa
 rw [if_neg (by omega), Int.toNat_natCast]
 by_cases h : n = 0
 ·subst h
  have : Lib.decDigits 0 = [48] := by rw [Lib.decDigits]; rfl
  rw [this]
  rfl
 ·rw [qv h]
  unfold dG
  rw [if_neg h]
def fO (xs : List ByteArray) (sep : ByteArray) : ByteArray := ⟨(Lib.join (xs.map (·.data.toList)) sep.data.toList).toArray⟩
theorem kG (x sep : ByteArray) : fO [x] sep = x := by
 unfold fO
 rw [List.map_cons, List.map_nil, Lib.join_one]
theorem nE (x y sep : ByteArray) : fO [x, y] sep = (x ++ sep) ++ y := by
 unfold fO
 apply ByteArray.ext
 simp [Lib.join_cons, Lib.joinTail]
theorem zm (n : Nat) : fO [⟨#[101, 114, 114, 111, 114]⟩, fz n] ⟨#[32]⟩ = fR n := by
 rw [nE]
 rfl
theorem sh (xs : List ByteArray) (sep : ByteArray) (m c : Nat) (hm : ∀ x ∈ xs, x.size ≤ m) (hc : xs.length ≤ c) : (Lib.join (xs.map (·.data.toList)) sep.data.toList).length ≤ (sep.size + m) * c := by
 cases xs with
 | nil => exact Nat.zero_le _
 | cons x r =>
  have h2 : ∀ r : List ByteArray, (∀ x ∈ r, x.size ≤ m) → (Lib.joinTail sep.data.toList (r.map (·.data.toList))).length ≤ (sep.size + m) * r.length := by
   intro r
   induction r with
   | nil => intro _; exact Nat.zero_le _
   | cons y r ih =>
    intro h
    have h1 := ih (fun x hx => h x (List.mem_cons_of_mem _ hx))
    have h3 := h y (List.mem_cons_self ..)
    have e : (Lib.joinTail sep.data.toList ((y :: r).map (·.data.toList))).length = sep.size + y.size + (Lib.joinTail sep.data.toList (r.map (·.data.toList))).length := by
     unfold Lib.joinTail
     simp [Nat.add_assoc]
    rw [e, List.length_cons, Nat.mul_succ]
    omega
  rw [List.map_cons, Lib.join_cons, List.length_append]
  have h1 := h2 r (fun y hy => hm y (List.mem_cons_of_mem _ hy))
  have h3 := hm x (List.mem_cons_self ..)
  have e : x.data.toList.length = x.size := by simp
  have h4 : (sep.size + m) * (r.length + 1) ≤ (sep.size + m) * c := Nat.mul_le_mul_left _ hc
  rw [Nat.mul_succ] at h4
  omega
theorem xE (xs : List ByteArray) (y sep : ByteArray) (h : xs ≠ []) : fO (xs ++ [y]) sep = (fO xs sep ++ sep) ++ y := by
 cases xs with
 | nil => exact absurd rfl h
 | cons x r =>
  unfold fO
  apply ByteArray.ext
  simp [Lib.join_cons, Lib.joinTail]
theorem rO (ids : List Int) (h : ∀ x ∈ ids, 0 ≤ x) : ∀ k, k ≤ ids.length → fO ((ids.take k).map bG) ⟨#[44]⟩ = ji ids k
 | 0, _ => by unfold fO ji; rfl
 | k + 1, hk => by
  have ih := rO ids h k (by omega)
  have hx := h _ (List.getElem_mem (show k < ids.length by omega))
  have e : bG ids[k] = fz (ids.getD k 0).toNat := by
   rw [List.getD_eq_getElem?_getD, List.getElem?_eq_getElem (show k < ids.length by omega)]
   simp only [Option.getD_some]
   obtain ⟨n, hn⟩ := Int.eq_ofNat_of_zero_le hx
   rw [hn, mm, Int.toNat_natCast]
  rw [List.take_succ_eq_append_getElem (show k < ids.length by omega), List.map_append, List.map_cons, List.map_nil]
  unfold ji
  by_cases h0 : 0 < k
  ·rw [if_pos h0, xE _ _ _ (by
    intro e
    have := congrArg List.length e
    rw [List.length_map, List.length_take] at this
    have h9 : min k ids.length = 0 := this
    omega), ih, e]
  ·obtain rfl : k = 0 := by omega
   rw [if_neg h0]
   show fO [bG ids[0]] _ = _
   rw [kG, e]
   unfold ji
   apply ByteArray.ext
   simp
theorem pA {t : Tk} (h : aD t = true) : aD (qq t) = true := by
 unfold aD at h ⊢
 rw [Bool.and_eq_true] at h ⊢
 exact ⟨h.1, rfl⟩
theorem qs {a b c d e f g i : Int} (h : coK a b c d e f g i = 0) : aA a b c d = true ∧ aA (mw a b c d e f g i) (mQ a b c d e f g i) (mr a b c d e f g i) (lU a b c d e f g i) = true := by
 unfold coK at h
 split at h
 ·rename_i hr
  have hr' : aA a b c d = true := by unfold coR at hr; rw [Bool.and_eq_true] at hr; exact hr.1
  refine ⟨hr', ?_⟩
  have := (zR h).2.2
  unfold mw mQ mr lU coP ofP
  simp only [if_pos hr, if_pos h]
  exact this
 ·cases h
theorem tR {t : Tk} (h : aD t = true) (a b c d : Int) : aD (bO t a b c d) = true := by
 unfold bO
 split
 ·exact h
 ·rename_i h0
  split
  ·rename_i hk
   have hr := (qs hk).2
   have hm := ju h
   unfold aD at h ⊢
   rw [Bool.and_eq_true] at h ⊢
   refine ⟨h.1, ?_⟩
   by_cases h1 : t.mode = 1
   ·rw [kh h1, Bool.and_eq_true] at hm
    rw [kh (by exact h1), Bool.and_eq_true]
    exact ⟨hr, hm.2⟩
   ·by_cases h2 : t.mode = 2
    ·rw [lQ h2, Bool.and_eq_true] at hm
     rw [lQ (by exact h2), Bool.and_eq_true]
     exact ⟨hr, hm.2⟩
    ·rw [mY h0 h1 h2] at hm; cases hm
  ·exact pA h
theorem vF {L : List St} {S : List D3} (h : (aY L S).2 = 0) : aA (aY L S).1.1 (aY L S).1.2.1 (aY L S).1.2.2.1 (aY L S).1.2.2.2 = true := by
 unfold aY at h ⊢
 split at h
 ·rename_i hk
  rw [if_pos hk]
  unfold iX at h ⊢
  split at h
  ·cases h
  ·rename_i h4
   rw [if_neg h4]
   split at h
   ·rename_i h5
    rw [if_pos h5]
    split at h
    ·cases h
    ·rename_i h6
     rw [if_neg h6]
     unfold eU at h ⊢
     split at h
     ·rename_i t ht
      have hm := List.mem_of_find?_eq_some ht
      obtain ⟨k, hk, e⟩ := List.getElem_of_mem hm
      have := jP hk
      have e2 : tA (ay 625) k = t := by unfold tA; rw [List.getD_eq_getElem?_getD, List.getElem?_eq_getElem hk, e]; rfl
      rw [e2] at this
      exact this
     ·cases h
   ·cases h
 ·rename_i hk
  exact absurd h hk
theorem vp {t : Tk} (h : aD t = true) (hf : t.fr ≠ 1000000) : lV { t with fr := t.fr + 1 } = true := by
 have h2 := CE h
 unfold aD lV at h
 simp only [Bool.and_eq_true] at h
 unfold lV
 simp only [Bool.and_eq_true]
 exact ⟨h.1.1, mf (by show 0 ≤ t.fr + 1; omega) (by show t.fr + 1 ≤ 1000000; omega)⟩
theorem wO {t : Tk} (h : aD t = true) (S : List D3) (hf : t.fr ≠ 1000000) : aD (dn t S) = true := by
 have hd := vp h hf
 have hm := ju h
 unfold dn
 split
 ·rename_i h1
  have hr := lC h h1.1
  unfold aD
  rw [Bool.and_eq_true]
  refine ⟨hd, ?_⟩
  rw [kh rfl, Bool.and_eq_true]
  exact ⟨hr, rfl⟩
 ·split
  ·rename_i h2
   unfold aD
   rw [Bool.and_eq_true]
   refine ⟨hd, ?_⟩
   rw [kh rfl, Bool.and_eq_true]
   exact ⟨vF h2, rfl⟩
  ·unfold be
   split
   ·unfold aD
    rw [Bool.and_eq_true]
    exact ⟨hd, hm⟩
   ·rename_i h0
    split
    ·unfold aD
     rw [Bool.and_eq_true]
     exact ⟨hd, rfl⟩
    ·rename_i hl
     have hr := lC h h0
     have hc : 0 ≤ t.coast := by
      by_cases h1 : t.mode = 1
      ·rw [kh h1, Bool.and_eq_true] at hm
       have := of_decide_eq_true hm.2
       omega
      ·by_cases h2 : t.mode = 2
       ·rw [lQ h2, Bool.and_eq_true] at hm
        have := (mB.1 hm.2).1
        omega
       ·have h0' : t.mode ≠ 0 := h0
        rw [mY h0' h1 h2] at hm; cases hm
     unfold aD
     rw [Bool.and_eq_true]
     refine ⟨hd, ?_⟩
     rw [lQ rfl, Bool.and_eq_true]
     exact ⟨hr, mf (by show 1 ≤ t.coast + 1; omega) (by show t.coast + 1 ≤ t.lim; have : ¬ t.lim < t.coast + 1 := hl; omega)⟩
theorem oa {t : Tk} (h : aD t = true) (S : List D3) : aD (dm t S).1 = true := by
 unfold dm
 split
 ·rename_i h0
  unfold dP at h0
  unfold dp
  split at h0
  ·cases h0
  ·rename_i h4
   rw [if_neg h4]
   split at h0
   ·rename_i h5
    rw [if_pos h5]
    split at h0
    ·cases h0
    ·rename_i h6
     rw [if_neg h6]
     exact wO h S h6
   ·cases h0
 ·exact h
theorem lg {t : Tk} (h : aD t = true) (u : U4) (s : ByteArray) (told : Bool) : aD (bt t u s told).1.1 = true := by
 unfold bt
 split
 ·split
  ·rename_i hk
   cases told
   ·exact h
   ·show aD (fM t _ _ _ _) = true
    unfold fM fJ
    rw [h, (qs hk).1]
    exact tR h _ _ _ _
  ·exact h
 ·exact h
theorem wN {d : Tk × U4} (h : aD d.1 = true) (l : Ln) : aD (gU d l).1.1 = true := by
 unfold gU
 split
 ·exact oa h _
 ·exact lg h _ _ _
 ·exact h
 ·exact lg h _ _ _
 ·show aD (dT d.1) = true
  unfold dT
  rw [if_pos h]
  exact pA h
 ·exact oa h _
 ·exact h
theorem vo : aD dZ.1 = true := by decide +kernel
theorem gt {t : Tk} (h : aD t = true) : bS t := by
 have hm := ju h
 refine ⟨Nat.le_trans (bQ (zZ h)).1 (by decide), ?_⟩
 by_cases h0 : t.mode = 0
 ·omega
 ·by_cases h1 : t.mode = 1
  ·omega
  ·by_cases h2 : t.mode = 2
   ·omega
   ·rw [mY h0 h1 h2] at hm; cases hm
end
section
open Go.RowKit Go.Sort
theorem jI (n : Nat) (w : World) (hn : n ≤ 1000000000) (ht : Tab w) : Calls Tryz.prog 103 #[.int .i64 (n : Int)] w fun e w' => e = .returned (.string (fz n)) ∧ Below w.heap.size w w' := by
 have cF : Hid (Calls Tryz.prog 135 #[.int .i64 (n : Int), .int .i64 10] w fun e w' => e = .returned (.string (fz n)) ∧ Below w.heap.size w w') := yz ((strconv_FormatInt_10 (n : Int) (by omega) (by omega) w ht).mono fun e w' ⟨he, k, os, hw⟩ => ⟨by rw [he, ← mm]; rfl, by subst hw; exact qc _ _ _⟩)
 generalize fz n = x at *
 go_enter Tryz.func103, Tryz.ntmps103
 go_wp2_with fail
 refine (yy cF).mono ?_
 rintro e w' ⟨rfl, hx⟩
 go_wp2_with fail
 go_ret
 exact ⟨rfl, hx⟩
def fS (w : World) (b : Nat) (xs : List ByteArray) : Prop := Blk w b (xs.map .string) 9
theorem fS.cells {w : World} {b : Nat} {xs : List ByteArray} (h : fS w b xs) : ∀ (j : Nat) x, xs[j]? = some x → w.cell? ⟨b, 0 + j, none⟩ = some (.string x) := fun j x hj => by
 rw [Nat.zero_add]
 exact Blk.cell h j _ (by rw [List.getElem?_map, hj]; rfl)
theorem fS.kept {w w' : World} {b : Nat} {xs : List ByteArray} (h : fS w b xs) (hB : Below w.heap.size w w') : fS w' b xs := Blk.kept h hB
theorem AJ (xs : List ByteArray) (b : Nat) (sep : ByteArray) (w : World) (h : fS w b xs) (hs : sep.size ≤ 10) (hm : ∀ x ∈ xs, x.size ≤ 1000) (hl : xs.length ≤ 400) :
  Calls Tryz.prog 104 #[.slice (some ⟨b, 0, none⟩) xs.length xs.length, .string sep] w fun e w' => e = .returned (.string (fO xs sep)) ∧ Below w.heap.size w w' :=
 strings_Join b 0 xs.length xs sep w h.cells (Blk.lt h) (by omega) (Nat.le_refl _) (by
  have h1 := sh xs sep 1000 400 hm hl
  have h2 : (sep.size + 1000) * 400 ≤ 1010 * 400 := Nat.mul_le_mul_right _ (by omega)
  omega)
theorem kZ (xs : List ByteArray) (b : Nat) (w : World) (h : fS w b xs) (hm : ∀ x ∈ xs, x.size ≤ 1000) (hl : xs.length ≤ 400) :
  Calls Tryz.prog 215 #[.slice (some ⟨b, 0, none⟩) xs.length xs.length] w fun e w' => e = .returned (.string (fO xs ⟨#[32]⟩)) ∧ Below w.heap.size w w' := by
 have cJ := yz (AJ xs b ⟨#[32]⟩ w h (by decide) hm hl)
 generalize fO xs ⟨#[32]⟩ = x at *
 go_enter Tryz.func215, Tryz.ntmps215
 go_wp2_with fail
 refine (yy cJ).mono ?_
 rintro e w' ⟨rfl, hx⟩
 go_wp2_with fail
 go_ret
 exact ⟨rfl, hx⟩
def lR (a b : Int) : Int := if a ≠ 0 then a else b
theorem ku (a b : Int) (k : Nat) (w : World) (h : Blk w k [.int .i64 a, .int .i64 b] 2) : Calls Tryz.prog 99 #[.slice (some ⟨k, 0, none⟩) 2 2] w fun e w' => e = .returned (.int .i64 (lR a b)) ∧ Below w.heap.size w w' := by
 have h0 := h.cell 0 _ rfl
 have h1 := h.cell 1 _ rfl
 by_cases ha : a = 0
 ·have HF : Hid (lR a b = b) := yz (by unfold lR; rw [if_neg (by omega)])
  subst ha
  by_cases hb : b = 0
  ·subst hb
   go_enter Tryz.func99, Tryz.ntmps99
   go_wp2_with fail
   refine wp_loop_rounds 3 ?_
   rw [rounds_succ]
   go_wp2_with fail
   rw [rounds_succ]
   go_wp2_with fail
   rw [rounds_succ]
   go_wp2_with fail
   go_ret
   rw [yy HF]
   exact ⟨rfl, Below.refl _ _⟩
  ·have hb' : (b == 0) = false := by simpa using hb
   go_enter Tryz.func99, Tryz.ntmps99
   go_wp2_with fail
   refine wp_loop_rounds 2 ?_
   rw [rounds_succ]
   go_wp2_with fail
   rw [rounds_succ]
   go_wp2_with fail
   go_ret
   rw [yy HF]
   exact ⟨rfl, Below.refl _ _⟩
 ·have HF : Hid (lR a b = a) := yz (by unfold lR; rw [if_pos ha])
  have ha' : (a == 0) = false := by simpa using ha
  go_enter Tryz.func99, Tryz.ntmps99
  go_wp2_with fail
  refine wp_loop_rounds 1 ?_
  rw [rounds_succ]
  go_wp2_with fail
  go_ret
  rw [yy HF]
  exact ⟨rfl, Below.refl _ _⟩
def jY (p : Addr) (w : World) : Prop := bu p w ∧ Tab w
theorem jY.kept {p : Addr} {w w' : World} (h : jY p w) (hB : Below w.heap.size w w') : jY p w' := ⟨h.1.kept hB, h.2.kept hB⟩
def rpV (d : Tk × U4) (a : Option Addr) (cap wb n : Nat) : Value := .iface 87 (.agg #[.slice a d.1.L.length cap, .int .i64 d.1.lim, .int .i64 d.1.mode, .int .i64 d.1.A, .int .i64 d.1.B, .int .i64 d.1.C, .int .i64 d.1.D, .int .i64 d.1.coast, .int .i64 d.1.fr, .int .i64 d.2.1, .int .i64 d.2.2.1, .int .i64 d.2.2.2.1, .int .i64 d.2.2.2.2, .slice (some ⟨wb, 0, none⟩) n n])
def Ans (w' : World) (B : Nat) (d : Tk × U4) (R : (Tk × U4) × ByteArray) (e : Ending) : Prop :=
 (∃ n : Nat, 0 < n ∧ n ≤ 1000 ∧ e = .returned (.iface 168 (.agg #[.int .i64 (n : Int)])) ∧ R = (d, fR n)) ∨
 (∃ (a : Option Addr) (cap wb : Nat) (xs : List ByteArray), e = .returned (rpV R.1 a cap wb xs.length) ∧ az w' B R.1.1.L a cap ∧ fS w' wb xs ∧ xs.length ≤ 400 ∧ (∀ x ∈ xs, x.size ≤ 1000) ∧ fO xs ⟨#[32]⟩ = R.2)
theorem Ans.ret {w' : World} {B : Nat} {d : Tk × U4} {R : (Tk × U4) × ByteArray} {e : Ending} (h : Ans w' B d R e) : ∃ v, e = .returned v := by
 rcases h with ⟨_, _, _, h, _⟩ | ⟨_, _, _, _, h, _⟩
 ·exact ⟨_, h⟩
 ·exact ⟨_, h⟩
theorem Ans.kept {w' w2 : World} {B : Nat} {d : Tk × U4} {R : (Tk × U4) × ByteArray} {e : Ending} (h : Ans w' B d R e) (hx : Below w'.heap.size w' w2) : Ans w2 B d R e := by
 rcases h with h | ⟨a, cap, wb, xs, h1, h2, h3, h4⟩
 ·exact .inl h
 ·exact .inr ⟨a, cap, wb, xs, h1, h2.kept hx, h3.kept hx, h4⟩
theorem gg {w : World} {B : Nat} {L : List St} {a : Option Addr} {cap : Nat} (h : az w B L a cap) : L.length ≤ cap ∧ cap ≤ maxLen := by
 rcases h.2 with ⟨h1, h0⟩ | ⟨g, c', cur, e, _, _, h1, h2, _⟩
 ·injection h1 with e1 e2 e3
  rw [e3, h0]
  exact ⟨Nat.le_refl _, Nat.zero_le _⟩
 ·injection e with e1 e2 e3
  rw [e3]
  exact ⟨h1, h2⟩
theorem gp (a : Option Addr) (n cap : Nat) (lim mode A B' C D coast fr u1 u2 u3 u4 code : Int) (wa : Option Addr) (wn wc : Nat) (w : World) (hc : code ≠ 0) : Calls Tryz.prog 98 #[.agg #[.slice a n cap, .int .i64 lim, .int .i64 mode, .int .i64 A, .int .i64 B', .int .i64 C, .int .i64 D, .int .i64 coast, .int .i64 fr, .int .i64 u1, .int .i64 u2, .int .i64 u3, .int .i64 u4], .int .i64 code, .slice wa wn wc] w fun e w' => e = .returned (.iface 168 (.agg #[.int .i64 code])) ∧ Below w.heap.size w w' := by
 have hc' : (code == 0) = false := by simpa using hc
 go_enter Tryz.func98, Tryz.ntmps98
 go_wp2
 go_ret
 exact ⟨rfl, an _ _⟩
theorem eL (a : Option Addr) (n cap : Nat) (lim mode A B' C D coast fr u1 u2 u3 u4 : Int) (wa : Option Addr) (wn wc : Nat) (w : World) : Calls Tryz.prog 98 #[.agg #[.slice a n cap, .int .i64 lim, .int .i64 mode, .int .i64 A, .int .i64 B', .int .i64 C, .int .i64 D, .int .i64 coast, .int .i64 fr, .int .i64 u1, .int .i64 u2, .int .i64 u3, .int .i64 u4], .int .i64 0, .slice wa wn wc] w fun e w' => e = .returned (.iface 87 (.agg #[.slice a n cap, .int .i64 lim, .int .i64 mode, .int .i64 A, .int .i64 B', .int .i64 C, .int .i64 D, .int .i64 coast, .int .i64 fr, .int .i64 u1, .int .i64 u2, .int .i64 u3, .int .i64 u4, .slice wa wn wc])) ∧ Below w.heap.size w w' := by
 go_enter Tryz.func98, Tryz.ntmps98
 go_wp2
 go_ret
 exact ⟨rfl, an _ _⟩
theorem uQ (n : Nat) (w : World) (hn : n ≤ 1000) (ht : Tab w) : Calls Tryz.prog 216 #[.agg #[.int .i64 (n : Int)]] w fun e w' => e = .returned (.string (fR n)) ∧ Below w.heap.size w w' := by
 have HB := yz (an w (.cells #[.int .i64 (n : Int)] 168))
 have cD := yz (jI n (w.alloc (.cells #[.int .i64 (n : Int)] 168)) (by omega) (ht.kept (yy HB)))
 have hz := dN (n := n) (by omega)
 have HJ := yz (zm n)
 generalize fR n = et at *
 generalize fz n = xd at *
 go_enter Tryz.func216, Tryz.ntmps216
 go_wp2_with fail
 refine (yy cD).mono ?_
 rintro e W1 ⟨rfl, hx⟩
 have HB1 := yz (ak (yy HB) hx)
 have HW : Hid (fS (W1.alloc (.cells #[.string ⟨#[101, 114, 114, 111, 114]⟩, .string xd] 9)) W1.heap.size [⟨#[101, 114, 114, 111, 114]⟩, xd]) := yz (ap W1 [.string ⟨#[101, 114, 114, 111, 114]⟩, .string xd] 9)
 have HB2 := yz (ak (yy HB1) (an W1 (.cells #[.string ⟨#[101, 114, 114, 111, 114]⟩, .string xd] 9)))
 have cJ : Hid (Calls Tryz.prog 215 #[.slice (some ⟨W1.heap.size, 0, none⟩) 2 2] (W1.alloc (.cells #[.string ⟨#[101, 114, 114, 111, 114]⟩, .string xd] 9)) fun e w' => e = .returned (.string et) ∧ Below (W1.alloc (.cells #[.string ⟨#[101, 114, 114, 111, 114]⟩, .string xd] 9)).heap.size (W1.alloc (.cells #[.string ⟨#[101, 114, 114, 111, 114]⟩, .string xd] 9)) w') := yz (by
  have h := kZ [⟨#[101, 114, 114, 111, 114]⟩, xd] W1.heap.size _ (yy HW) (by intro x hx; rcases List.mem_cons.1 hx with rfl | hx; decide; rcases List.mem_cons.1 hx with rfl | hx; omega; cases hx) (by simp)
  rw [yy HJ] at h
  exact h)
 clear hx cD HW
 go_wp2_with fail
 refine (yy cJ).mono ?_
 rintro e W2 ⟨rfl, hx⟩
 have HB3 := yz (ak (yy HB2) hx)
 clear hx
 go_wp2_with fail
 go_ret
 exact ⟨rfl, yy HB3⟩
theorem Az (a : Option Addr) (n cap : Nat) (lim mode A B' C D coast fr u1 u2 u3 u4 : Int) (wb : Nat) (xs : List ByteArray) (w : World) (h : fS w wb xs) (hm : ∀ x ∈ xs, x.size ≤ 1000) (hl : xs.length ≤ 400) : Calls Tryz.prog 214 #[.agg #[.slice a n cap, .int .i64 lim, .int .i64 mode, .int .i64 A, .int .i64 B', .int .i64 C, .int .i64 D, .int .i64 coast, .int .i64 fr, .int .i64 u1, .int .i64 u2, .int .i64 u3, .int .i64 u4, .slice (some ⟨wb, 0, none⟩) xs.length xs.length]] w fun e w' => e = .returned (.string (fO xs ⟨#[32]⟩)) ∧ Below w.heap.size w w' := by
 have HB := yz (an w (.cells #[.slice a n cap, .int .i64 lim, .int .i64 mode, .int .i64 A, .int .i64 B', .int .i64 C, .int .i64 D, .int .i64 coast, .int .i64 fr, .int .i64 u1, .int .i64 u2, .int .i64 u3, .int .i64 u4, .slice (some ⟨wb, 0, none⟩) xs.length xs.length] 87))
 have c13 := (ap w [.slice a n cap, .int .i64 lim, .int .i64 mode, .int .i64 A, .int .i64 B', .int .i64 C, .int .i64 D, .int .i64 coast, .int .i64 fr, .int .i64 u1, .int .i64 u2, .int .i64 u3, .int .i64 u4, .slice (some ⟨wb, 0, none⟩) xs.length xs.length] 87).cell 13 _ rfl
 have cJ := yz (kZ xs wb _ (h.kept (yy HB)) hm hl)
 generalize fO xs ⟨#[32]⟩ = x at *
 go_enter Tryz.func214, Tryz.ntmps214
 go_wp2_with fail
 refine (yy cJ).mono ?_
 rintro e W1 ⟨rfl, hx⟩
 have HB1 := yz (ak (yy HB) hx)
 clear hx c13
 go_wp2_with fail
 go_ret
 exact ⟨rfl, yy HB1⟩
theorem vO (t : Tk) (S : List D3) : 0 ≤ (dp t S).mode ∧ (dp t S).mode ≤ 2 := by
 by_cases h : dP t S = 0
 ·exact jl h
 ·have e : dp t S = eY := by
   unfold dP at h
   unfold dp
   split at h
   ·rename_i h4; rw [if_pos h4]
   ·rename_i h4
    rw [if_neg h4]
    split at h
    ·rename_i h5
     rw [if_pos h5]
     split at h
     ·rename_i h6; rw [if_pos h6]
     ·exact absurd rfl h
    ·rename_i h5; rw [if_neg h5]
  rw [e]
  exact ⟨by decide, by decide⟩
theorem nf {W : World} {b : Nat} {v0 v1 v2 v3 v4 v5 v6 v7 v8 v9 v10 v11 v12 : Value} {t : TypeId} (h : Blk W b [v0, v1, v2, v3, v4, v5, v6, v7, v8, v9, v10, v11, v12] t) (x0 x1 x2 x3 x4 x5 x6 x7 x8 : Value) : Blk (((((((((W.setCell ⟨b, 0, none⟩ x0).setCell ⟨b, 1, none⟩ x1).setCell ⟨b, 2, none⟩ x2).setCell ⟨b, 3, none⟩ x3).setCell ⟨b, 4, none⟩ x4).setCell ⟨b, 5, none⟩ x5).setCell ⟨b, 6, none⟩ x6).setCell ⟨b, 7, none⟩ x7).setCell ⟨b, 8, none⟩ x8) b [x0, x1, x2, x3, x4, x5, x6, x7, x8, v9, v10, v11, v12] t := Blk.set (Blk.set (Blk.set (Blk.set (Blk.set (Blk.set (Blk.set (Blk.set (Blk.set h 0 x0) 1 x1) 2 x2) 3 x3) 4 x4) 5 x5) 6 x6) 7 x7) 8 x8
theorem ll (W : World) (b : Nat) (x0 x1 x2 x3 x4 x5 x6 x7 x8 : Value) : W.grownBy (((((((((W.setCell ⟨b, 0, none⟩ x0).setCell ⟨b, 1, none⟩ x1).setCell ⟨b, 2, none⟩ x2).setCell ⟨b, 3, none⟩ x3).setCell ⟨b, 4, none⟩ x4).setCell ⟨b, 5, none⟩ x5).setCell ⟨b, 6, none⟩ x6).setCell ⟨b, 7, none⟩ x7).setCell ⟨b, 8, none⟩ x8) (some b) := aB (aB (aB (aB (aB (aB (aB (aB (aB (aM (Below.refl _ _)) 0 _) 1 _) 2 _) 3 _) 4 _) 5 _) 6 _) 7 _) 8 _
theorem fY {w W W2 : World} {b : Nat} (h : Below w.heap.size w W) (hg : W.grownBy W2 (some b)) (hb : w.heap.size ≤ b) : Below w.heap.size w W2 := nu h hg h.size (fun g e => by have := Option.some.inj e; omega)
theorem rE (w : World) (B : Nat) (t : Tk) (u : U4) (a : Option Addr) (cap : Nat) (p : Addr) (S : List D3) (br : Option Addr) (dr : Nat) (hn2 : S.length ≤ 1048576) (hk : aD t = true) (hB : B ≤ w.heap.size) (hC : az w B t.L a cap) (hE : jY p w) (hS : cf w br S S.length) (hb : ∀ y, br = some y → y.block < w.heap.size) (hdr : S.length ≤ dr) (hd9 : dr ≤ 9223372036854775807) :
  Calls Tryz.prog 95 #[.agg #[.slice a t.L.length cap, .int .i64 t.lim, .int .i64 t.mode, .int .i64 t.A, .int .i64 t.B, .int .i64 t.C, .int .i64 t.D, .int .i64 t.coast, .int .i64 t.fr, .int .i64 u.1, .int .i64 u.2.1, .int .i64 u.2.2.1, .int .i64 u.2.2.2], .slice br S.length dr] w fun e w' => Ans w' B (t, u) (((dm t S).1, u), (dm t S).2) e ∧ Below w.heap.size w w' := by
 have hmx : maxLen ≤ 9223372036854775807 := by decide +kernel
 have hn : t.L.length ≤ 1048576 := Nat.le_trans (gt hk).1 (by decide)
 obtain ⟨u1, u2, u3, u4⟩ := u
 obtain ⟨L, lim, mode, A, B', C, D, coast, fr⟩ := t
 dsimp only at hn hC ⊢
 have HZ := yz (an w (.cells #[.slice a L.length cap, .int .i64 lim, .int .i64 mode, .int .i64 A, .int .i64 B', .int .i64 C, .int .i64 D, .int .i64 coast, .int .i64 fr, .int .i64 u1, .int .i64 u2, .int .i64 u3, .int .i64 u4] 51))
 have HD := yz (ap w [.slice a L.length cap, .int .i64 lim, .int .i64 mode, .int .i64 A, .int .i64 B', .int .i64 C, .int .i64 D, .int .i64 coast, .int .i64 fr, .int .i64 u1, .int .i64 u2, .int .i64 u3, .int .i64 u4] 51)
 have hcp := gg hC
 have hC0 := hC.kept (yy HZ)
 have cL := yz (tZ L S lim mode A B' C D coast fr a cap br dr p (w.alloc (.cells #[.slice a L.length cap, .int .i64 lim, .int .i64 mode, .int .i64 A, .int .i64 B', .int .i64 C, .int .i64 D, .int .i64 coast, .int .i64 fr, .int .i64 u1, .int .i64 u2, .int .i64 u3, .int .i64 u4] 51)) hn hn2 hC0.stars (hS.kept (yy HZ)) (gq hC0) (fun y e => Nat.lt_of_lt_of_le (hb y e) (yy HZ).size) hcp.1 (by omega) hdr hd9 (hE.kept (yy HZ)).1)
 have HE := yz hE
 have HR : Hid (dm ⟨L, lim, mode, A, B', C, D, coast, fr⟩ S = if dP ⟨L, lim, mode, A, B', C, D, coast, fr⟩ S = 0 then (dp ⟨L, lim, mode, A, B', C, D, coast, fr⟩ S, fz (dp ⟨L, lim, mode, A, B', C, D, coast, fr⟩ S).mode.toNat) else (⟨L, lim, mode, A, B', C, D, coast, fr⟩, fR (dP ⟨L, lim, mode, A, B', C, D, coast, fr⟩ S).toNat)) := yz rfl
 have hsp := lD ⟨L, lim, mode, A, B', C, D, coast, fr⟩ S
 have hmo := vO ⟨L, lim, mode, A, B', C, D, coast, fr⟩ S
 generalize dm ⟨L, lim, mode, A, B', C, D, coast, fr⟩ S = R at *
 generalize dP ⟨L, lim, mode, A, B', C, D, coast, fr⟩ S = code at *
 generalize dp ⟨L, lim, mode, A, B', C, D, coast, fr⟩ S = t2 at *
 obtain ⟨L2, l2, m2, A2, B2, C2, D2, o2, f2⟩ := t2
 dsimp only at hmo
 clear hC0 hC hE
 obtain ⟨d0, d1, d2, d3, d4, d5, d6, d7, d8⟩ := fh (yy HD)
 go_enter Tryz.func95, Tryz.ntmps95
 go_wp2_with fail
 refine (yy cL).mono ?_
 rintro e W1 ⟨⟨a2, cap2, rfl, hC2⟩, hx⟩
 clear d0 d1 d2 d3 d4 d5 d6 d7 d8 cL
 have hal : (w.alloc (.cells #[.slice a L.length cap, .int .i64 lim, .int .i64 mode, .int .i64 A, .int .i64 B', .int .i64 C, .int .i64 D, .int .i64 coast, .int .i64 fr, .int .i64 u1, .int .i64 u2, .int .i64 u3, .int .i64 u4] 51)).heap.size = w.heap.size + 1 := by simp
 have hy := an W1 (.cells #[.slice a2 L2.length cap2, .int .i64 l2, .int .i64 m2, .int .i64 A2, .int .i64 B2, .int .i64 C2, .int .i64 D2, .int .i64 o2, .int .i64 f2, .int .i64 code] 36)
 have HO := yz (ap W1 [.slice a2 L2.length cap2, .int .i64 l2, .int .i64 m2, .int .i64 A2, .int .i64 B2, .int .i64 C2, .int .i64 D2, .int .i64 o2, .int .i64 f2, .int .i64 code] 36)
 have HD1 := yz (((yy HD).kept hx).kept hy)
 have HC1 := yz ((cg hC2 (show B ≤ (w.alloc (.cells #[.slice a L.length cap, .int .i64 lim, .int .i64 mode, .int .i64 A, .int .i64 B', .int .i64 C, .int .i64 D, .int .i64 coast, .int .i64 fr, .int .i64 u1, .int .i64 u2, .int .i64 u3, .int .i64 u4] 51)).heap.size by have := (yy HZ).size; omega)).kept (row := none) (aM hy) (by
  rcases hC2.2 with ⟨h1, _⟩ | ⟨g, c', cur, e, _⟩
  ·rw [h1]; exact .inl rfl
  ·rw [e]; exact .inr (fun h => by cases h)))
 have HF : Hid (∀ x, a2 = some x → x.block ≠ w.heap.size) := yz (fun x e => by have := (bX hC2 x e).1; omega)
 have HB1 := yz (ak (ak (yy HZ) hx) hy)
 have hob : w.heap.size < W1.heap.size := by have := hx.size; omega
 clear hx hy hC2 HZ HD hal
 go_upto_region 2 with fail
 generalize W1.alloc (.cells #[.slice a2 L2.length cap2, .int .i64 l2, .int .i64 m2, .int .i64 A2, .int .i64 B2, .int .i64 C2, .int .i64 D2, .int .i64 o2, .int .i64 f2, .int .i64 code] 36) = W3 at *
 generalize W1.heap.size = ob at *
 have e0 := (yy HD1).cell 0 _ rfl
 have z0 := (yy HD1).free 0
 have y0 := (yy HO).cell 0 _ rfl
 have e1 := (yy HD1).cell 1 _ rfl
 have z1 := (yy HD1).free 1
 have y1 := (yy HO).cell 1 _ rfl
 have e2 := (yy HD1).cell 2 _ rfl
 have z2 := (yy HD1).free 2
 have y2 := (yy HO).cell 2 _ rfl
 have e3 := (yy HD1).cell 3 _ rfl
 have z3 := (yy HD1).free 3
 have y3 := (yy HO).cell 3 _ rfl
 have e4 := (yy HD1).cell 4 _ rfl
 have z4 := (yy HD1).free 4
 have y4 := (yy HO).cell 4 _ rfl
 have e5 := (yy HD1).cell 5 _ rfl
 have z5 := (yy HD1).free 5
 have y5 := (yy HO).cell 5 _ rfl
 have e6 := (yy HD1).cell 6 _ rfl
 have z6 := (yy HD1).free 6
 have y6 := (yy HO).cell 6 _ rfl
 have e7 := (yy HD1).cell 7 _ rfl
 have z7 := (yy HD1).free 7
 have y7 := (yy HO).cell 7 _ rfl
 have e8 := (yy HD1).cell 8 _ rfl
 have z8 := (yy HD1).free 8
 have y8 := (yy HO).cell 8 _ rfl
 go_upto_region 3 with fail
 have HD2 := yz (nf (yy HD1) (.slice a2 L2.length cap2) (.int .i64 l2) (.int .i64 m2) (.int .i64 A2) (.int .i64 B2) (.int .i64 C2) (.int .i64 D2) (.int .i64 o2) (.int .i64 f2))
 have hg := ll W3 w.heap.size (.slice a2 L2.length cap2) (.int .i64 l2) (.int .i64 m2) (.int .i64 A2) (.int .i64 B2) (.int .i64 C2) (.int .i64 D2) (.int .i64 o2) (.int .i64 f2)
 have HO2 := yz (Blk.grown (yy HO) hg (fun e => by have := Option.some.inj e; omega))
 have HC2 : Hid (az _ B L2 a2 cap2) := yz (dj (yy HC1) hg (yy HF))
 have HB2 := yz (fY (yy HB1) hg (Nat.le_refl _))
 clear hg HD1 HO HC1 HB1 e0 z0 y0 e1 z1 y1 e2 z2 y2 e3 z3 y3 e4 z4 y4 e5 z5 y5 e6 z6 y6 e7 z7 y7 e8 z8 y8
 generalize (((((((((W3.setCell ⟨w.heap.size, 0, none⟩ (.slice a2 L2.length cap2)).setCell ⟨w.heap.size, 1, none⟩ (.int .i64 l2)).setCell ⟨w.heap.size, 2, none⟩ (.int .i64 m2)).setCell ⟨w.heap.size, 3, none⟩ (.int .i64 A2)).setCell ⟨w.heap.size, 4, none⟩ (.int .i64 B2)).setCell ⟨w.heap.size, 5, none⟩ (.int .i64 C2)).setCell ⟨w.heap.size, 6, none⟩ (.int .i64 D2)).setCell ⟨w.heap.size, 7, none⟩ (.int .i64 o2)).setCell ⟨w.heap.size, 8, none⟩ (.int .i64 f2)) = W4 at *
 have hw4 : w.heap.size < W4.heap.size := (yy HD2).lt
 have ho4 : ob < W4.heap.size := (yy HO2).lt
 have HKS : Hid (∀ w' : World, Below W4.heap.size W4 w' → (w'.cell? ⟨w.heap.size, 0, none⟩ = some (.slice a2 L2.length cap2) ∧ w'.cell? ⟨w.heap.size, 1, none⟩ = some (.int .i64 l2) ∧ w'.cell? ⟨w.heap.size, 2, none⟩ = some (.int .i64 m2) ∧ w'.cell? ⟨w.heap.size, 3, none⟩ = some (.int .i64 A2) ∧ w'.cell? ⟨w.heap.size, 4, none⟩ = some (.int .i64 B2) ∧ w'.cell? ⟨w.heap.size, 5, none⟩ = some (.int .i64 C2) ∧ w'.cell? ⟨w.heap.size, 6, none⟩ = some (.int .i64 D2) ∧ w'.cell? ⟨w.heap.size, 7, none⟩ = some (.int .i64 o2) ∧ w'.cell? ⟨w.heap.size, 8, none⟩ = some (.int .i64 f2) ∧ w'.cell? ⟨w.heap.size, 9, none⟩ = some (.int .i64 u1) ∧ w'.cell? ⟨w.heap.size, 10, none⟩ = some (.int .i64 u2) ∧ w'.cell? ⟨w.heap.size, 11, none⟩ = some (.int .i64 u3) ∧ w'.cell? ⟨w.heap.size, 12, none⟩ = some (.int .i64 u4)) ∧ w'.cell? ⟨ob, 9, none⟩ = some (.int .i64 code)) := yz (fun w' h => ⟨⟨by rw [h.cell hw4]; exact (yy HD2).cell 0 _ rfl, by rw [h.cell hw4]; exact (yy HD2).cell 1 _ rfl, by rw [h.cell hw4]; exact (yy HD2).cell 2 _ rfl, by rw [h.cell hw4]; exact (yy HD2).cell 3 _ rfl, by rw [h.cell hw4]; exact (yy HD2).cell 4 _ rfl, by rw [h.cell hw4]; exact (yy HD2).cell 5 _ rfl, by rw [h.cell hw4]; exact (yy HD2).cell 6 _ rfl, by rw [h.cell hw4]; exact (yy HD2).cell 7 _ rfl, by rw [h.cell hw4]; exact (yy HD2).cell 8 _ rfl, by rw [h.cell hw4]; exact (yy HD2).cell 9 _ rfl, by rw [h.cell hw4]; exact (yy HD2).cell 10 _ rfl, by rw [h.cell hw4]; exact (yy HD2).cell 11 _ rfl, by rw [h.cell hw4]; exact (yy HD2).cell 12 _ rfl⟩, by rw [h.cell ho4]; exact (yy HO2).cell 9 _ rfl⟩)
 obtain ⟨m, rfl⟩ := Int.eq_ofNat_of_zero_le hmo.1
 have hzd := dN (n := m) (by omega)
 have HE4 := yz ((yy HE).kept (yy HB2))
 have cD := yz (fun (W : World) h => jI m W (by omega) h)
 rw [Int.toNat_natCast] at HR
 generalize fz m = xd at *
 refine wp_region_held_drew (S := (fun w' => (w'.cell? ⟨w.heap.size, 0, none⟩ = some (.slice a2 L2.length cap2) ∧ w'.cell? ⟨w.heap.size, 1, none⟩ = some (.int .i64 l2) ∧ w'.cell? ⟨w.heap.size, 2, none⟩ = some (.int .i64 (m : Int)) ∧ w'.cell? ⟨w.heap.size, 3, none⟩ = some (.int .i64 A2) ∧ w'.cell? ⟨w.heap.size, 4, none⟩ = some (.int .i64 B2) ∧ w'.cell? ⟨w.heap.size, 5, none⟩ = some (.int .i64 C2) ∧ w'.cell? ⟨w.heap.size, 6, none⟩ = some (.int .i64 D2) ∧ w'.cell? ⟨w.heap.size, 7, none⟩ = some (.int .i64 o2) ∧ w'.cell? ⟨w.heap.size, 8, none⟩ = some (.int .i64 f2) ∧ w'.cell? ⟨w.heap.size, 9, none⟩ = some (.int .i64 u1) ∧ w'.cell? ⟨w.heap.size, 10, none⟩ = some (.int .i64 u2) ∧ w'.cell? ⟨w.heap.size, 11, none⟩ = some (.int .i64 u3) ∧ w'.cell? ⟨w.heap.size, 12, none⟩ = some (.int .i64 u4)) ∧ w'.cell? ⟨ob, 9, none⟩ = some (.int .i64 code))) (by kernel_rfl) (yy HKS W4 (Below.refl _ _)) (fun hHeld => ?_)
 refine ac 0 rfl ?_
 try simp only [Act.put, ah, ai, aj]
 refine ac 1 rfl ?_
 try simp only [Act.put, ah, ai, aj]
 refine ac 2 rfl ?_
 try simp only [Act.put, ah, ai, aj]
 refine ac 3 rfl ?_
 try simp only [Act.put, ah, ai, aj]
 refine ac 4 rfl ?_
 try simp only [Act.put, ah, ai, aj]
 refine ac 5 rfl ?_
 try simp only [Act.put, ah, ai, aj]
 refine af 6 rfl fun K hK => ?_
 go_simp
 refine ((yy cD) W4.drew ((yy HE4).kept (Below.refl _ _).drew).2).mono ?_
 rintro e V ⟨rfl, hx⟩
 have HV : Hid (Below W4.heap.size W4 V) := yz ((Below.refl W4.heap.size W4).drew.trans hx)
 clear hx
 refine hK.out _ _ (yy HKS _ (yy HV)) (fun hHeld1 => ?_)
 clear hK K hHeld
 refine af 7 rfl fun K hK => ?_
 go_simp
 have HW5 : Hid (fS (V.alloc (.cells #[.string xd] 9)) V.heap.size [xd]) := yz (ap V [.string xd] 9)
 have HV5 := yz (ak (yy HV) (an V (.cells #[.string xd] 9)))
 refine hK.out _ _ (yy HKS _ (yy HV5)) (fun hHeld2 => ?_)
 clear hK K hHeld1
 generalize V.alloc (.cells #[.string xd] 9) = W5 at *
 generalize V.heap.size = wb at *
 clear HV
 have HAB := yz (ak (yy HB2) (yy HV5))
 have HC5 := yz ((yy HC2).kept (yy HV5))
 by_cases hc : code = 0
 ·subst hc
  rw [if_pos rfl] at HR
  refine af 8 rfl fun K hK => ?_
  go_simp
  refine (eL a2 L2.length cap2 l2 (m : Int) A2 B2 C2 D2 o2 f2 u1 u2 u3 u4 (some ⟨wb, 0, none⟩) 1 1 W5).mono ?_
  rintro e V6 ⟨rfl, hx⟩
  have HV6 := yz (ak (yy HV5) hx)
  have HA : Hid (Ans V6 B (⟨L, lim, mode, A, B', C, D, coast, fr⟩, (u1, u2, u3, u4)) ((R.1, (u1, u2, u3, u4)), R.2) (.returned (.iface 87 (.agg #[.slice a2 L2.length cap2, .int .i64 l2, .int .i64 (m : Int), .int .i64 A2, .int .i64 B2, .int .i64 C2, .int .i64 D2, .int .i64 o2, .int .i64 f2, .int .i64 u1, .int .i64 u2, .int .i64 u3, .int .i64 u4, .slice (some ⟨wb, 0, none⟩) 1 1])))) := yz (by
   rw [yy HR]
   exact .inr ⟨a2, cap2, wb, [xd], rfl, az.kept (yy HC5) hx, (yy HW5).kept hx, by simp, by intro x hx; rw [List.mem_singleton] at hx; subst hx; omega, kG _ _⟩)
  have HB6 := yz (ak (yy HAB) hx)
  clear hx
  refine hK.out _ _ (yy HKS _ (yy HV6)) (fun hHeld3 => ?_)
  clear hK K hHeld2
  refine af 9 rfl fun K hK => ?_
  go_simp
  refine hK.out _ _ (yy HKS _ (yy HV6)) (fun hHeld4 => ?_)
  clear hK K hHeld3
  refine wpAnyH_done (by kernel_rfl) ?_ _
  clear hHeld4
  go_wp2_with fail
  go_ret
  exact ⟨yy HA, yy HB6⟩
 ·obtain ⟨k, rfl⟩ := Int.eq_ofNat_of_zero_le hsp.1
  have hc' : (k : Int) ≠ 0 := hc
  rw [if_neg hc', Int.toNat_natCast] at HR
  refine af 8 rfl fun K hK => ?_
  go_simp
  refine (gp a2 L2.length cap2 l2 (m : Int) A2 B2 C2 D2 o2 f2 u1 u2 u3 u4 (k : Int) (some ⟨wb, 0, none⟩) 1 1 W5 hc').mono ?_
  rintro e V6 ⟨rfl, hx⟩
  have HV6 := yz (ak (yy HV5) hx)
  have HA : Hid (Ans V6 B (⟨L, lim, mode, A, B', C, D, coast, fr⟩, (u1, u2, u3, u4)) ((R.1, (u1, u2, u3, u4)), R.2) (.returned (.iface 168 (.agg #[.int .i64 (k : Int)])))) := yz (by
   rw [yy HR]
   exact .inl ⟨k, by omega, by omega, rfl, rfl⟩)
  have HB6 := yz (ak (yy HAB) hx)
  clear hx
  refine hK.out _ _ (yy HKS _ (yy HV6)) (fun hHeld3 => ?_)
  clear hK K hHeld2
  refine af 9 rfl fun K hK => ?_
  go_simp
  refine hK.out _ _ (yy HKS _ (yy HV6)) (fun hHeld4 => ?_)
  clear hK K hHeld3
  refine wpAnyH_done (by kernel_rfl) ?_ _
  clear hHeld4
  go_wp2_with fail
  go_ret
  exact ⟨yy HA, yy HB6⟩
theorem xD (w : World) (B : Nat) (t : Tk) (u : U4) (a : Option Addr) (cap : Nat) (p : Addr) (tx : ByteArray) (n : Int) (hk : aD t = true) (hB : B ≤ w.heap.size) (hC : az w B t.L a cap) (hE : jY p w) :
  Calls Tryz.prog 72 #[.agg #[.slice a t.L.length cap, .int .i64 t.lim, .int .i64 t.mode, .int .i64 t.A, .int .i64 t.B, .int .i64 t.C, .int .i64 t.D, .int .i64 t.coast, .int .i64 t.fr, .int .i64 u.1, .int .i64 u.2.1, .int .i64 u.2.2.1, .int .i64 u.2.2.2], .agg #[.string tx, .int .i64 n]] w fun e w' => Ans w' B (t, u) (((dm t []).1, u), (dm t []).2) e ∧ Below w.heap.size w w' := by
 have HZ := yz (aO w (.cells #[.slice a t.L.length cap, .int .i64 t.lim, .int .i64 t.mode, .int .i64 t.A, .int .i64 t.B, .int .i64 t.C, .int .i64 t.D, .int .i64 t.coast, .int .i64 t.fr, .int .i64 u.1, .int .i64 u.2.1, .int .i64 u.2.2.1, .int .i64 u.2.2.2] 51) (.cells #[.string tx, .int .i64 n] 77))
 have cL := yz (rE _ B t u a cap p [] none 0 (by decide) hk (Nat.le_trans hB (yy HZ).size) (hC.kept (yy HZ)) (hE.kept (yy HZ)) (.inl rfl) (fun y e => by cases e) (by decide) (by decide))
 generalize dm t [] = R at *
 obtain ⟨u1, u2, u3, u4⟩ := u
 obtain ⟨L, lim, mode, A, B', C, D, coast, fr⟩ := t
 dsimp only at cL HZ ⊢
 have HD := yz ((ap w [.slice a L.length cap, .int .i64 lim, .int .i64 mode, .int .i64 A, .int .i64 B', .int .i64 C, .int .i64 D, .int .i64 coast, .int .i64 fr, .int .i64 u1, .int .i64 u2, .int .i64 u3, .int .i64 u4] 51).alloc (.cells #[.string tx, .int .i64 n] 77))
 clear hC hE hk
 obtain ⟨d0, d1, d2, d3, d4, d5, d6, d7, d8, d9, d10, d11, d12⟩ := Bo (yy HD)
 go_enter Tryz.func72, Tryz.ntmps72
 go_wp2_with fail
 refine (yy cL).mono ?_
 rintro e W1 ⟨hA, hx⟩
 obtain ⟨v, rfl⟩ := hA.ret
 have HA := yz hA
 have HB1 := yz (ak (yy HZ) hx)
 clear hx hA d0 d1 d2 d3 d4 d5 d6 d7 d8 d9 d10 d11 d12
 go_wp2_with fail
 go_ret
 exact ⟨yy HA, yy HB1⟩
theorem CH {L : List St} (h : aV L = true) (id : Int) : oS L id = atV L L.length id := by unfold oS; rw [if_pos h]
theorem xo {L : List St} {a b c d cone id : Int} (h : id ∈ eb L a b c d cone) : aV L = true ∧ aA a b c d = true ∧ aL (atV L L.length id).1 (atV L L.length id).2.1 (atV L L.length id).2.2 = true := by
 obtain ⟨h1, h2, i, hi, rfl⟩ := uw h
 exact ⟨h1, h2, yX h1 hi⟩
theorem ur (L : List St) (a b c d cone : Int) : aX L a b c d cone = ((eb L a b c d cone).take (min (eb L a b c d cone).length 6)).map (eX L a b c d) := by
 unfold aX
 congr 1
 by_cases h : (eb L a b c d cone).length ≤ 6
 ·rw [Nat.min_eq_left h, List.take_of_length_le h, List.take_of_length_le (Nat.le_refl _)]
 ·rw [Nat.min_eq_right (by omega)]
theorem pG (w : World) (B : Nat) (t : Tk) (u : U4) (a : Option Addr) (cap : Nat) (p : Addr) (cone : Int) (hk : aD t = true) (hB : B ≤ w.heap.size) (hC : az w B t.L a cap) (hE : jY p w) :
  Calls Tryz.prog 102 #[.agg #[.slice a t.L.length cap, .int .i64 t.lim, .int .i64 t.mode, .int .i64 t.A, .int .i64 t.B, .int .i64 t.C, .int .i64 t.D, .int .i64 t.coast, .int .i64 t.fr, .int .i64 u.1, .int .i64 u.2.1, .int .i64 u.2.2.1, .int .i64 u.2.2.2], .int .i64 cone] w fun e w' => (∃ v, e = .returned v ∧ w'.ownsRow w.heap.size 58 3 v (aX t.L u.1 u.2.1 u.2.2.1 u.2.2.2 cone).length (ek (aX t.L u.1 u.2.1 u.2.2.1 u.2.2.2 cone))) ∧ Below w.heap.size w w' := by
 obtain ⟨i0, hinf, hz0, hz1, hz2⟩ := info_parts vH
 have hm8 : 400 ≤ maxLen := by decide +kernel
 have hmx : maxLen ≤ 9223372036854775807 := by decide +kernel
 have hn : t.L.length ≤ 1048576 := Nat.le_trans (gt hk).1 (by decide)
 obtain ⟨u1, u2, u3, u4⟩ := u
 obtain ⟨L, lim, mode, A, B', C, D, coast, fr⟩ := t
 dsimp only at hn hC ⊢
 have HZ := yz (an w (.cells #[.slice a L.length cap, .int .i64 lim, .int .i64 mode, .int .i64 A, .int .i64 B', .int .i64 C, .int .i64 D, .int .i64 coast, .int .i64 fr, .int .i64 u1, .int .i64 u2, .int .i64 u3, .int .i64 u4] 51))
 have HD := yz (ap w [.slice a L.length cap, .int .i64 lim, .int .i64 mode, .int .i64 A, .int .i64 B', .int .i64 C, .int .i64 D, .int .i64 coast, .int .i64 fr, .int .i64 u1, .int .i64 u2, .int .i64 u3, .int .i64 u4] 51)
 have hcp := gg hC
 have cS := yz (fun (W : World) h1 h2 => BN L u1 u2 u3 u4 cone a cap p W hn hcp.1 (by omega) h1 h2)
 have cA := yz (fun (W : World) (id : Int) h1 h2 => pz L id a cap p W hn hcp.1 (by omega) h1 h2)
 have HC := yz (hC.kept (yy HZ)).stars
 have HE := yz (hE.kept (yy HZ))
 have HSM := yz (fun id h => xo (L := L) (a := u1) (b := u2) (c := u3) (d := u4) (cone := cone) (id := id) h)
 have HST := yz (fun h id => CH (L := L) h id)
 have HSP := yz (ur L u1 u2 u3 u4 cone)
 have HSN := yz (fun k h6 hk => oc L u1 u2 u3 u4 cone (k := k) h6 hk)
 have hsl := qd L u1 u2 u3 u4 cone
 generalize aX L u1 u2 u3 u4 cone = SP at *
 generalize eb L u1 u2 u3 u4 cone = SE at *
 clear hC hE hk hcp
 have d0 := (yy HD).cell 0 _ rfl
 have d9 := (yy HD).cell 9 _ rfl
 have d10 := (yy HD).cell 10 _ rfl
 have d11 := (yy HD).cell 11 _ rfl
 have d12 := (yy HD).cell 12 _ rfl
 go_enter Tryz.func102, Tryz.ntmps102
 go_wp2_with fail
 refine ((yy cS) _ (yy HC) (yy HE).1).mono ?_
 rintro e W1 ⟨v1, rfl, hR1, hx⟩
 obtain ⟨a1, c1, rfl⟩ := dD hR1
 have HR1 := yz hR1
 have HB1 := yz (ak (yy HZ) hx)
 have HC1 := yz ((yy HC).kept hx)
 have HE1 := yz ((yy HE).kept hx)
 have HD1 := yz ((yy HD).kept hx)
 have hwl : w.heap.size < W1.heap.size := (yy HD1).lt
 have hcap1 : SE.length ≤ c1 ∧ c1 ≤ 9223372036854775807 := by
  rcases hR1.2 with ⟨h1, h0⟩ | ⟨g, c', cur, e, _, _, h1, h2, _⟩
  ·injection h1 with _ _ e3; omega
  ·injection e with _ _ e3; omega
 clear hR1 hx d0 d9 d10 d11 d12 HZ HD HC HE cS
 obtain ⟨m, hm⟩ : ∃ m, min SE.length 6 = m := ⟨_, rfl⟩
 rw [hm] at HSP
 have hmi : min (SE.length : Int) 6 = (m : Int) := by omega
 have hm1 : m ≤ SE.length := by omega
 have hm6 : m ≤ 6 := by omega
 have HO : Hid (W1.ownsRow W1.heap.size 58 3 (.slice none 0 0) ((SE.take 0).map (eX L u1 u2 u3 u4)).length (ek ((SE.take 0).map (eX L u1 u2 u3 u4)))) := yz (World.ownsRow_nil _ _ _ _)
 go_wp2_with fail
 go_loopw [6, 23] (fun v kk wr => ∃ k : Nat, k ≤ m ∧ kk = .int .i64 k ∧ Hid (wr.ownsRow W1.heap.size 58 3 v ((SE.take k).map (eX L u1 u2 u3 u4)).length (ek ((SE.take k).map (eX L u1 u2 u3 u4)))) ∧ Hid (Below W1.heap.size W1 wr)) (fun _ kk _ => m - (intOf kk).toNat)
 case atStart => exact ⟨0, by omega, rfl, HO, yz (Below.refl _ _)⟩
 case round =>
  clear HO
  obtain ⟨k, hk, rfl, HO, HW⟩ := hrel
  by_cases hkn : k < m
  ·have hkn2 : (k : Int) < (m : Int) := by omega
   have HSN1 := yz (yy HSN k (by omega) (by omega))
   obtain ⟨PR, HPR⟩ : ∃ PR, Hid ((SE.take k).map (eX L u1 u2 u3 u4) = PR) := ⟨_, yz rfl⟩
   have hpl : PR.length ≤ 6 := by rw [← yy HPR, List.length_map, List.length_take]; omega
   rw [yy HPR] at HO HSN1
   obtain ⟨g, ha, hg1, hg2, ci⟩ := sA (yy HR1) rfl (show k < SE.length by omega)
   subst ha
   have hmem : SE.getD k 0 ∈ SE := by rw [List.getD_eq_getElem?_getD, List.getElem?_eq_getElem (show k < SE.length by omega)]; exact List.getElem_mem (show k < SE.length by omega)
   obtain ⟨hsk, hrt, hsm⟩ := yy HSM _ hmem
   clear hmem
   have hkS : (k : Int) < (SE.length : Int) := by omega
   generalize SE.getD k 0 = id at *
   have HVV : Hid (eX L u1 u2 u3 u4 id = (prI (ax (apD u1 u2 u3 u4 (atV L L.length id)).1 (apD u1 u2 u3 u4 (atV L L.length id)).2.1 (apD u1 u2 u3 u4 (atV L L.length id)).2.2) (gI (apD u1 u2 u3 u4 (atV L L.length id)).1 (apD u1 u2 u3 u4 (atV L L.length id)).2.1 (apD u1 u2 u3 u4 (atV L L.length id)).2.2) (apD u1 u2 u3 u4 (atV L L.length id)).1, prI (ax (apD u1 u2 u3 u4 (atV L L.length id)).1 (apD u1 u2 u3 u4 (atV L L.length id)).2.1 (apD u1 u2 u3 u4 (atV L L.length id)).2.2) (gI (apD u1 u2 u3 u4 (atV L L.length id)).1 (apD u1 u2 u3 u4 (atV L L.length id)).2.1 (apD u1 u2 u3 u4 (atV L L.length id)).2.2) (apD u1 u2 u3 u4 (atV L L.length id)).2.1, prI (ax (apD u1 u2 u3 u4 (atV L L.length id)).1 (apD u1 u2 u3 u4 (atV L L.length id)).2.1 (apD u1 u2 u3 u4 (atV L L.length id)).2.2) (gI (apD u1 u2 u3 u4 (atV L L.length id)).1 (apD u1 u2 u3 u4 (atV L L.length id)).2.1 (apD u1 u2 u3 u4 (atV L L.length id)).2.2) (apD u1 u2 u3 u4 (atV L L.length id)).2.2)) := yz rfl
   have cA1 := yz (fun (W : World) h1 h2 => yy cA W id h1 h2)
   rw [yy HST hsk id] at cA1
   generalize atV L L.length id = q at *
   obtain ⟨x, y, z⟩ := q
   unfold sR at cA1
   dsimp only at hsm cA1
   have cT := yz (fun W => jQ u1 u2 u3 u4 (x, y, z) W hrt hsm)
   dsimp only at cT
   generalize apD u1 u2 u3 u4 (x, y, z) = q2 at *
   obtain ⟨x2, y2, z2⟩ := q2
   dsimp only at cT HVV
   have cP := yz (fun W => nA x2 y2 z2 W)
   generalize prI (ax x2 y2 z2) (gI x2 y2 z2) x2 = r1 at *
   generalize prI (ax x2 y2 z2) (gI x2 y2 z2) y2 = r2 at *
   generalize prI (ax x2 y2 z2) (gI x2 y2 z2) z2 = r3 at *
   clear hsk hrt hsm
   have HDr := yz ((yy HD1).kept (yy HW))
   have d0 := (yy HDr).cell 0 _ rfl
   have dI : wr.cell? ⟨g, k, none⟩ = some (.int .i64 id) := by rw [(yy HW).cell hg2]; exact ci
   clear ci
   go_wp2_with fail
   refine ((yy cA1) wr ((yy HC1).kept (yy HW)) ((yy HE1).1.kept (yy HW))).mono ?_
   rintro e V1 ⟨rfl, hx⟩
   have hy := an V1 (.cells #[.int .i64 x, .int .i64 y, .int .i64 z] 58)
   have HX := yz (ap V1 [.int .i64 x, .int .i64 y, .int .i64 z] 58)
   have HW1 := yz (ak (ak (yy HW) hx) hy)
   have HO1 := yz (bm (bm (yy HO) hx) hy)
   have HD2 := yz (((yy HDr).kept hx).kept hy)
   clear hx hy HO d0 dI HDr
   have d9 := (yy HD2).cell 9 _ rfl
   have d10 := (yy HD2).cell 10 _ rfl
   have d11 := (yy HD2).cell 11 _ rfl
   have d12 := (yy HD2).cell 12 _ rfl
   have x0 := (yy HX).cell 0 _ rfl
   have x1 := (yy HX).cell 1 _ rfl
   have x2' := (yy HX).cell 2 _ rfl
   go_wp2_with fail
   refine ((yy cT) _).mono ?_
   rintro e V2 ⟨rfl, hx⟩
   have HW2 := yz (ak (yy HW1) hx)
   have HO2 := yz (bm (yy HO1) hx)
   clear hx d9 d10 d11 d12 x0 x1 x2' HX HW1 HO1 HD2
   go_wp2_with fail
   refine ((yy cP) _).mono ?_
   rintro e V3 ⟨rfl, hx⟩
   have hy := an V3 (.cells #[.int .i64 r1, .int .i64 r2, .int .i64 r3] 58)
   have HW3 := yz (ak (ak (yy HW2) hx) hy)
   have hown := bm (bm (yy HO2) hx) hy
   have hs3 := (yy HW3).size
   clear hx hy HW2 HO2
   go_wp2_with (at_builtin; refine wpList_append_own _ rfl _ _ 64 rfl W1.heap.size 58 i0 (.agg #[.int .i64 0, .int .i64 0, .int .i64 0]) 3 24 Tryz.underlying64 hinf hz0 hz1 hz2 rfl (by decide) _ _ _ rfl hown ⟨V3.heap.size, 0, none⟩ 1 1 (ek [(r1, r2, r3)]) rfl rfl ?d2 (fun u hu => oW hu) ?d3 ?d4 ?d5 ?_)
   case d2 => exact na _ _ _
   case d3 => omega
   case d4 => omega
   case d5 => exact hs3
   intro v7 V7 hown7 hgrow7 _
   have HW7 := yz (nK (yy HW3) hgrow7 hs3 (fun q e => (hown.lt q e).1))
   have HO7 : Hid (V7.ownsRow W1.heap.size 58 3 v7 ((SE.take (k + 1)).map (eX L u1 u2 u3 u4)).length (ek ((SE.take (k + 1)).map (eX L u1 u2 u3 u4)))) := yz (by rw [yy HSN1, yy HVV, ry, List.length_append]; exact hown7)
   clear hown7 hgrow7 hown HW3
   go_wp2_with fail
   go_roundw
   case rel => exact ⟨k + 1, by omega, by go_num, HO7, HW7⟩
   case measure => simp [intOf] <;> omega
  ·have hke : k = m := by omega
   subst hke
   go_wp2_with fail
   go_ret
   rw [yy HSP]
   exact ⟨⟨_, rfl, cg (yy HO) (Nat.le_of_lt hwl)⟩, ak (yy HB1) (yy HW)⟩
theorem BC (w : World) (B : Nat) (t : Tk) (u : U4) (a : Option Addr) (cap : Nat) (p : Addr) (tx : ByteArray) (n : Int) (hk : aD t = true) (hB : B ≤ w.heap.size) (hC : az w B t.L a cap) (hE : jY p w) :
  Calls Tryz.prog 79 #[.agg #[.slice a t.L.length cap, .int .i64 t.lim, .int .i64 t.mode, .int .i64 t.A, .int .i64 t.B, .int .i64 t.C, .int .i64 t.D, .int .i64 t.coast, .int .i64 t.fr, .int .i64 u.1, .int .i64 u.2.1, .int .i64 u.2.2.1, .int .i64 u.2.2.2], .agg #[.string tx, .int .i64 n]] w fun e w' => Ans w' B (t, u) (((dm t (aX t.L u.1 u.2.1 u.2.2.1 u.2.2.2 n)).1, u), (dm t (aX t.L u.1 u.2.1 u.2.2.1 u.2.2.2 n)).2) e ∧ Below w.heap.size w w' := by
 have hmx : maxLen ≤ 9223372036854775807 := by decide +kernel
 have HZ := yz (aO w (.cells #[.slice a t.L.length cap, .int .i64 t.lim, .int .i64 t.mode, .int .i64 t.A, .int .i64 t.B, .int .i64 t.C, .int .i64 t.D, .int .i64 t.coast, .int .i64 t.fr, .int .i64 u.1, .int .i64 u.2.1, .int .i64 u.2.2.1, .int .i64 u.2.2.2] 51) (.cells #[.string tx, .int .i64 n] 77))
 have HC := yz (hC.kept (yy HZ))
 have HE := yz (hE.kept (yy HZ))
 have hB2 := Nat.le_trans hB (yy HZ).size
 have cS := yz (fun (W : World) hB' h1 h2 => pG W B t u a cap p n hk hB' h1 h2)
 have hs6 := gR t.L u.1 u.2.1 u.2.2.1 u.2.2.2 n
 have cL := yz (fun (W : World) S br dr hn2 hB' h1 h2 => rE W B t u a cap p S br dr hn2 hk hB' h1 h2)
 generalize aX t.L u.1 u.2.1 u.2.2.1 u.2.2.2 n = S at *
 obtain ⟨u1, u2, u3, u4⟩ := u
 obtain ⟨L, lim, mode, A, B', C, D, coast, fr⟩ := t
 dsimp only at cL cS HZ HC hB2 HE ⊢
 have HD := yz ((ap w [.slice a L.length cap, .int .i64 lim, .int .i64 mode, .int .i64 A, .int .i64 B', .int .i64 C, .int .i64 D, .int .i64 coast, .int .i64 fr, .int .i64 u1, .int .i64 u2, .int .i64 u3, .int .i64 u4] 51).alloc (.cells #[.string tx, .int .i64 n] 77))
 have HX : Hid (Blk ((w.alloc (.cells #[.slice a L.length cap, .int .i64 lim, .int .i64 mode, .int .i64 A, .int .i64 B', .int .i64 C, .int .i64 D, .int .i64 coast, .int .i64 fr, .int .i64 u1, .int .i64 u2, .int .i64 u3, .int .i64 u4] 51)).alloc (.cells #[.string tx, .int .i64 n] 77)) (w.heap.size + 1) [.string tx, .int .i64 n] 77) := yz (by have h := ap (w.alloc (.cells #[.slice a L.length cap, .int .i64 lim, .int .i64 mode, .int .i64 A, .int .i64 B', .int .i64 C, .int .i64 D, .int .i64 coast, .int .i64 fr, .int .i64 u1, .int .i64 u2, .int .i64 u3, .int .i64 u4] 51)) [.string tx, .int .i64 n] 77; simpa using h)
 clear hC hE hk
 go_enter Tryz.func79, Tryz.ntmps79
 go_upto_region 1 with fail
 generalize (w.alloc (.cells #[.slice a L.length cap, .int .i64 lim, .int .i64 mode, .int .i64 A, .int .i64 B', .int .i64 C, .int .i64 D, .int .i64 coast, .int .i64 fr, .int .i64 u1, .int .i64 u2, .int .i64 u3, .int .i64 u4] 51)).alloc (.cells #[.string tx, .int .i64 n] 77) = W at *
 have hdl : w.heap.size < W.heap.size := (yy HD).lt
 have hxl : w.heap.size + 1 < W.heap.size := (yy HX).lt
 have HKS : Hid (∀ w' : World, Below W.heap.size W w' → (w'.cell? ⟨w.heap.size, 0, none⟩ = some (.slice a L.length cap) ∧ w'.cell? ⟨w.heap.size, 1, none⟩ = some (.int .i64 lim) ∧ w'.cell? ⟨w.heap.size, 2, none⟩ = some (.int .i64 mode) ∧ w'.cell? ⟨w.heap.size, 3, none⟩ = some (.int .i64 A) ∧ w'.cell? ⟨w.heap.size, 4, none⟩ = some (.int .i64 B') ∧ w'.cell? ⟨w.heap.size, 5, none⟩ = some (.int .i64 C) ∧ w'.cell? ⟨w.heap.size, 6, none⟩ = some (.int .i64 D) ∧ w'.cell? ⟨w.heap.size, 7, none⟩ = some (.int .i64 coast) ∧ w'.cell? ⟨w.heap.size, 8, none⟩ = some (.int .i64 fr) ∧ w'.cell? ⟨w.heap.size, 9, none⟩ = some (.int .i64 u1) ∧ w'.cell? ⟨w.heap.size, 10, none⟩ = some (.int .i64 u2) ∧ w'.cell? ⟨w.heap.size, 11, none⟩ = some (.int .i64 u3) ∧ w'.cell? ⟨w.heap.size, 12, none⟩ = some (.int .i64 u4)) ∧ w'.cell? ⟨w.heap.size + 1, 1, none⟩ = some (.int .i64 n)) := yz (fun w' h => ⟨⟨by rw [h.cell hdl]; exact (yy HD).cell 0 _ rfl, by rw [h.cell hdl]; exact (yy HD).cell 1 _ rfl, by rw [h.cell hdl]; exact (yy HD).cell 2 _ rfl, by rw [h.cell hdl]; exact (yy HD).cell 3 _ rfl, by rw [h.cell hdl]; exact (yy HD).cell 4 _ rfl, by rw [h.cell hdl]; exact (yy HD).cell 5 _ rfl, by rw [h.cell hdl]; exact (yy HD).cell 6 _ rfl, by rw [h.cell hdl]; exact (yy HD).cell 7 _ rfl, by rw [h.cell hdl]; exact (yy HD).cell 8 _ rfl, by rw [h.cell hdl]; exact (yy HD).cell 9 _ rfl, by rw [h.cell hdl]; exact (yy HD).cell 10 _ rfl, by rw [h.cell hdl]; exact (yy HD).cell 11 _ rfl, by rw [h.cell hdl]; exact (yy HD).cell 12 _ rfl⟩, by rw [h.cell hxl]; exact (yy HX).cell 1 _ rfl⟩)
 refine wp_region_held_drew (S := (fun w' => (w'.cell? ⟨w.heap.size, 0, none⟩ = some (.slice a L.length cap) ∧ w'.cell? ⟨w.heap.size, 1, none⟩ = some (.int .i64 lim) ∧ w'.cell? ⟨w.heap.size, 2, none⟩ = some (.int .i64 mode) ∧ w'.cell? ⟨w.heap.size, 3, none⟩ = some (.int .i64 A) ∧ w'.cell? ⟨w.heap.size, 4, none⟩ = some (.int .i64 B') ∧ w'.cell? ⟨w.heap.size, 5, none⟩ = some (.int .i64 C) ∧ w'.cell? ⟨w.heap.size, 6, none⟩ = some (.int .i64 D) ∧ w'.cell? ⟨w.heap.size, 7, none⟩ = some (.int .i64 coast) ∧ w'.cell? ⟨w.heap.size, 8, none⟩ = some (.int .i64 fr) ∧ w'.cell? ⟨w.heap.size, 9, none⟩ = some (.int .i64 u1) ∧ w'.cell? ⟨w.heap.size, 10, none⟩ = some (.int .i64 u2) ∧ w'.cell? ⟨w.heap.size, 11, none⟩ = some (.int .i64 u3) ∧ w'.cell? ⟨w.heap.size, 12, none⟩ = some (.int .i64 u4)) ∧ w'.cell? ⟨w.heap.size + 1, 1, none⟩ = some (.int .i64 n))) (by kernel_rfl) (yy HKS W (Below.refl _ _)) (fun hHeld => ?_)
 refine ac 0 rfl ?_
 try simp only [Act.put, ah, ai, aj]
 refine ac 1 rfl ?_
 try simp only [Act.put, ah, ai, aj]
 refine ac 2 rfl ?_
 try simp only [Act.put, ah, ai, aj]
 refine ac 3 rfl ?_
 try simp only [Act.put, ah, ai, aj]
 refine af 4 rfl fun K hK => ?_
 go_simp
 refine ((yy cS) W.drew hB2 ((yy HC).kept (Below.refl _ _).drew) ((yy HE).kept (Below.refl _ _).drew)).mono ?_
 rintro e V1 ⟨⟨v, rfl, hR⟩, hx⟩
 obtain ⟨aS, cS', rfl⟩ := dD hR
 have HV1 : Hid (Below W.heap.size W V1) := yz ((Below.refl W.heap.size W).drew.trans hx)
 have HR := yz hR
 have hcap : S.length ≤ cS' ∧ cS' ≤ 9223372036854775807 := by
  rcases (co hR).2 with h | h
  ·exact ⟨h.1, Nat.le_trans h.2 hmx⟩
  ·omega
 clear hx hR
 refine hK.out _ _ (yy HKS _ (yy HV1)) (fun hHeld1 => ?_)
 clear hK K hHeld
 refine af 5 rfl fun K hK => ?_
 go_simp
 refine ((yy cL) V1 S aS cS' (by omega) (Nat.le_trans hB2 (yy HV1).size) ((yy HC).kept (yy HV1)) ((yy HE).kept (yy HV1)) (co (yy HR)).1 (fun y e => (bX (yy HR) y e).2) hcap.1 hcap.2).mono ?_
 rintro e V2 ⟨hA, hx⟩
 obtain ⟨v, rfl⟩ := hA.ret
 have HA := yz hA
 have HV2 := yz (ak (yy HV1) hx)
 clear hx hA
 refine hK.out _ _ (yy HKS _ (yy HV2)) (fun hHeld => ?_)
 clear hK K hHeld1
 refine af 6 rfl fun K hK => ?_
 go_simp
 refine hK.out _ _ (yy HKS _ (yy HV2)) (fun hHeld1 => ?_)
 clear hK K hHeld
 refine wpAnyH_done (by kernel_rfl) ?_ _
 clear hHeld1
 go_wp2_with fail
 go_ret
 exact ⟨yy HA, ak (yy HZ) (yy HV2)⟩
end
end Go.Proofs.YtlleafjdgblhcaaGreatDoor
