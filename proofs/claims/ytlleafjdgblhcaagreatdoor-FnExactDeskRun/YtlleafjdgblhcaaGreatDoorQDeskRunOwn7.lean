/- Several texts in one: PairE, PairF, PairM, PairN, MaM, DsN, SeenB, SeenC, ModM, TurnO, TurnD, TurnE. -/
import Derived.Test.YtlleafjdgblhcaaGreatDoorQDeskRunOwn6
import Derived.Test.YtlleafjdgblhcaaGreatDoorQDeskRunOwn3
import Derived.Test.YtlleafjdgblhcaaGreatDoorQDeskRunOwn1
namespace Go.Proofs.YtlleafjdgblhcaaGreatDoor
set_option linter.unusedVariables false
set_option linter.unusedSimpArgs false
set_option maxRecDepth 100000
set_option maxHeartbeats 8000000
section
open Go.RowKit Go.Sort
abbrev Sp := P2 × V3 × V3
def wU (w : World) (b : Nat) (x y a1 a2 a3 b1 b2 b3 : Int) : Prop := w.cell? ⟨b, 0, none⟩ = some (.int .i64 x) ∧ w.cell? ⟨b, 1, none⟩ = some (.int .i64 y) ∧ w.cell? ⟨b, 2, none⟩ = some (.int .i64 a1) ∧ w.cell? ⟨b, 3, none⟩ = some (.int .i64 a2) ∧ w.cell? ⟨b, 4, none⟩ = some (.int .i64 a3) ∧ w.cell? ⟨b, 5, none⟩ = some (.int .i64 b1) ∧ w.cell? ⟨b, 6, none⟩ = some (.int .i64 b2) ∧ w.cell? ⟨b, 7, none⟩ = some (.int .i64 b3)
theorem wU.kept {w w' : World} {b : Nat} {x y a1 a2 a3 b1 b2 b3 : Int} (h : wU w b x y a1 a2 a3 b1 b2 b3) (hB : Below w.heap.size w w') : wU w' b x y a1 a2 a3 b1 b2 b3 := by
 have hb := World.block_lt_of_cell? w _ h.1
 obtain ⟨h0, h1, h2, h3, h4, h5, h6, h7⟩ := h
 exact ⟨by rw [hB.cell (p := ⟨b, 0, none⟩) hb]; exact h0, by rw [hB.cell (p := ⟨b, 1, none⟩) hb]; exact h1, by rw [hB.cell (p := ⟨b, 2, none⟩) hb]; exact h2, by rw [hB.cell (p := ⟨b, 3, none⟩) hb]; exact h3, by rw [hB.cell (p := ⟨b, 4, none⟩) hb]; exact h4, by rw [hB.cell (p := ⟨b, 5, none⟩) hb]; exact h5, by rw [hB.cell (p := ⟨b, 6, none⟩) hb]; exact h6, by rw [hB.cell (p := ⟨b, 7, none⟩) hb]; exact h7⟩
def AN (w : World) (b o : Nat) (s : Sp) : Prop := w.cell? ⟨b, o, none⟩ = some (.int .i64 s.1.1) ∧ w.cell? ⟨b, o + 1, none⟩ = some (.int .i64 s.1.2) ∧ w.cell? ⟨b, o + 2, none⟩ = some (.int .i64 s.2.1.1) ∧ w.cell? ⟨b, o + 3, none⟩ = some (.int .i64 s.2.1.2.1) ∧ w.cell? ⟨b, o + 4, none⟩ = some (.int .i64 s.2.1.2.2) ∧ w.cell? ⟨b, o + 5, none⟩ = some (.int .i64 s.2.2.1) ∧ w.cell? ⟨b, o + 6, none⟩ = some (.int .i64 s.2.2.2.1) ∧ w.cell? ⟨b, o + 7, none⟩ = some (.int .i64 s.2.2.2.2)
theorem AN.kept {w w' : World} {b o : Nat} {s : Sp} (h : AN w b o s) (hB : Below w.heap.size w w') : AN w' b o s := by
 have hb : b < w.heap.size := World.block_lt_of_cell? w _ h.1
 obtain ⟨h0, h1, h2, h3, h4, h5, h6, h7⟩ := h
 exact ⟨by rw [hB.cell (p := ⟨b, o, none⟩) hb]; exact h0, by rw [hB.cell (p := ⟨b, o + 1, none⟩) hb]; exact h1, by rw [hB.cell (p := ⟨b, o + 2, none⟩) hb]; exact h2, by rw [hB.cell (p := ⟨b, o + 3, none⟩) hb]; exact h3, by rw [hB.cell (p := ⟨b, o + 4, none⟩) hb]; exact h4, by rw [hB.cell (p := ⟨b, o + 5, none⟩) hb]; exact h5, by rw [hB.cell (p := ⟨b, o + 6, none⟩) hb]; exact h6, by rw [hB.cell (p := ⟨b, o + 7, none⟩) hb]; exact h7⟩
theorem EA {L : List St} {i : Nat} (h : em L i = true) (hi : 0 < i) : (stA L (i - 1)).1 < (stA L i).1 := by
 unfold em upB at h
 simp only [Bool.and_eq_true, Bool.or_eq_true, decide_eq_true_eq] at h
 omega
theorem uZ {L : List St} (h : aV L = true) : ∀ i, i < L.length → ∀ j, j < i → (stA L j).1 < (stA L i).1
 | 0, _, j, hj => absurd hj (Nat.not_lt_zero _)
 | i + 1, hi, j, hj => by
  have hu := EA ((bQ h).2 (i + 1) hi) (by omega)
  rw [Nat.add_sub_cancel] at hu
  by_cases e : j = i
  ·subst e; exact hu
  ·have := uZ h i (by omega) j (by omega)
   omega
theorem tU {L : List St} (h : aV L = true) {i : Nat} (hi : i < L.length) : atV L L.length (stA L i).1 = (stA L i).2 :=
 wM hi (fun j hj e => by have := uZ h i hi j hj; omega) rfl
end
section
open Go.RowKit
theorem xO (p q : D3) : bN p q = bN q p := by
 unfold bN
 by_cases hp : ax p.1 p.2.1 p.2.2 = true
 ·by_cases hq : ax q.1 q.2.1 q.2.2 = true
  ·exact nS hp hq
  ·rw [Bool.not_eq_true] at hq
   unfold dB
   rw [hq]
   simp
 ·rw [Bool.not_eq_true] at hp
  unfold dB
  rw [hp]
  simp
theorem uX {a1 a2 a3 b1 b2 b3 : Int} (ha : aK 1000000 a1 a2 a3 = true) (hb : aK 1000000 b1 b2 b3 = true) :
  (decide (crW a2 a3 b2 b3 = 0 ∧ crW a3 a1 b3 b1 = 0 ∧ crW a1 a2 b1 b2 = 0) && decide (0 < bx a1 a2 a3 b1 b2 b3)) = dB a1 a2 a3 b1 b2 b3 := by
 unfold dB ax
 rw [ha, hb]
 by_cases za : a1 = 0 ∧ a2 = 0 ∧ a3 = 0
 ·obtain ⟨rfl, rfl, rfl⟩ := za
  have : bx 0 0 0 b1 b2 b3 = 0 := by have z : wrap64 0 = 0 := aq (by omega) (by omega); unfold bx; simp [z]
  rw [this]
  simp [gD]
 ·by_cases zb : b1 = 0 ∧ b2 = 0 ∧ b3 = 0
  ·obtain ⟨rfl, rfl, rfl⟩ := zb
   have : bx a1 a2 a3 0 0 0 = 0 := by have z : wrap64 0 = 0 := aq (by omega) (by omega); unfold bx; simp [z]
   rw [this]
   simp [gD]
  ·have h1 : gD a1 a2 a3 = false := by unfold gD; simp only [decide_eq_false_iff_not]; exact za
   have h2 : gD b1 b2 b3 = false := by unfold gD; simp only [decide_eq_false_iff_not]; exact zb
   rw [h1, h2]
   rfl
theorem nP {x y z : Int} (h : aL x y z = true) : cz x y z = true := by
 obtain ⟨h1, h2⟩ := bz h
 unfold cz
 rw [h1, Bool.true_and, aP]
 rw [aP] at h2
 omega
def apD (a b c d : Int) (v : D3) : D3 := (apX a b c d v.1 v.2.1 v.2.2, apY a b c d v.1 v.2.1 v.2.2, apZ a b c d v.1 v.2.1 v.2.2)
theorem qC {a b c d : Int} {v : D3} (ht : aA a b c d = true) (hv : aL v.1 v.2.1 v.2.2 = true) : aK 1000000 (apD a b c d v).1 (apD a b c d v).2.1 (apD a b c d v).2.2 = true := by
 refine wC (D := 300) ht ?_ (by omega) (by omega)
 have h := dh (bz hv).2 (bz hv).2
 omega
def eH (L : List St) (a b c d : Int) (v : D3) : Nat → Int
 | 0 => 0
 | k + 1 => if bN v (apD a b c d (stA L k).2) = true then (stA L k).1 else eH L a b c d v k
def kF (L : List St) (a b c d : Int) (S : List D3) : Bool := aV L && aA a b c d && aU S
def bH (L : List St) (a b c d : Int) (S : List D3) : List Int := if kF L a b c d S = true then S.map (fun v => eH L a b c d v L.length) else []
theorem zS {L : List St} {a b c d : Int} {S : List D3} (h : aV L = false) : bH L a b c d S = [] := by unfold bH kF; rw [h]; rfl
theorem Al {L : List St} {a b c d : Int} {S : List D3} (h : aA a b c d = false) : bH L a b c d S = [] := by unfold bH kF; rw [h, Bool.and_false]; rfl
theorem zQ {L : List St} {a b c d : Int} {S : List D3} (h : aU S = false) : bH L a b c d S = [] := by unfold bH kF; rw [h, Bool.and_false]; rfl
theorem rr {L : List St} {a b c d : Int} {S : List D3} (h1 : aV L = true) (h2 : aA a b c d = true) (h3 : aU S = true) : bH L a b c d S = S.map (fun v => eH L a b c d v L.length) := by unfold bH kF; rw [h1, h2, h3]; rfl
theorem zP (L : List St) (a b c d : Int) (S : List D3) : (bH L a b c d S).length ≤ 6 := by
 unfold bH
 split
 ·rename_i h
  unfold kF at h
  rw [Bool.and_eq_true] at h
  rw [List.length_map]
  exact (bK h.2).1
 ·simp
def apV (L : List St) (a b c d id : Int) : D3 := apD a b c d (atV L L.length id)
def eX (L : List St) (a b c d id : Int) : D3 :=
 (prI (ax (apV L a b c d id).1 (apV L a b c d id).2.1 (apV L a b c d id).2.2) (gI (apV L a b c d id).1 (apV L a b c d id).2.1 (apV L a b c d id).2.2) (apV L a b c d id).1, prI (ax (apV L a b c d id).1 (apV L a b c d id).2.1 (apV L a b c d id).2.2) (gI (apV L a b c d id).1 (apV L a b c d id).2.1 (apV L a b c d id).2.2) (apV L a b c d id).2.1, prI (ax (apV L a b c d id).1 (apV L a b c d id).2.1 (apV L a b c d id).2.2) (gI (apV L a b c d id).1 (apV L a b c d id).2.1 (apV L a b c d id).2.2) (apV L a b c d id).2.2)
def aX (L : List St) (a b c d cone : Int) : List D3 := ((eb L a b c d cone).take 6).map (eX L a b c d)
theorem gR (L : List St) (a b c d cone : Int) : (aX L a b c d cone).length ≤ 6 := by unfold aX; rw [List.length_map, List.length_take]; omega
theorem lG {L : List St} {a b c d cone id : Int} : ∀ {k : Nat}, id ∈ bw L a b c d cone k → ∃ i, i < k ∧ id = (stA L i).1
 | 0, h => by cases h
 | k + 1, h => by
  unfold bw at h
  split at h
  ·rcases List.mem_append.1 h with h | h
   ·obtain ⟨i, hi, e⟩ := lG h
    exact ⟨i, by omega, e⟩
   ·simp at h
    exact ⟨k, by omega, h⟩
  ·obtain ⟨i, hi, e⟩ := lG h
   exact ⟨i, by omega, e⟩
theorem uw {L : List St} {a b c d cone id : Int} (h : id ∈ eb L a b c d cone) : aV L = true ∧ aA a b c d = true ∧ ∃ i, i < L.length ∧ id = (stA L i).1 := by
 unfold eb at h
 split at h
 ·rename_i hc
  simp only [Bool.and_eq_true] at hc
  exact ⟨hc.1.1, hc.1.2, lG h⟩
 ·cases h
theorem yX {L : List St} (hk : aV L = true) {i : Nat} (hi : i < L.length) : aL (atV L L.length (stA L i).1).1 (atV L L.length (stA L i).1).2.1 (atV L L.length (stA L i).1).2.2 = true := by
 rw [tU hk hi]
 exact fa ((bQ hk).2 i hi)
theorem Bp {a b c d x y z : Int} (ht : aA a b c d = true) (h : aL x y z = true) : ax (apX a b c d x y z) (apY a b c d x y z) (apZ a b c d x y z) = true := by
 have h1 := (bz h).1
 have h2 := aP.1 (bz h).2
 have hd : dot x y z x y z ≤ 300 := by
  have s1 := bJ (A := 10) (B := 10) (a := x) (b := x) (by omega) (by omega)
  have s2 := bJ (A := 10) (B := 10) (a := y) (b := y) (by omega) (by omega)
  have s3 := bJ (A := 10) (B := 10) (a := z) (b := z) (by omega) (by omega)
  unfold dot
  omega
 have hb := wC ht hd (M := 1000000) (by omega) (by omega)
 exact bl.2 ⟨aP.1 hb, Ey ht (bl.1 h1).2⟩
theorem Cv {L : List St} {a b c d cone id : Int} (h : id ∈ eb L a b c d cone) : inT 5 a b c d = true ∧ aK 1800 (atV L L.length id).1 (atV L L.length id).2.1 (atV L L.length id).2.2 = true ∧ ax (apV L a b c d id).1 (apV L a b c d id).2.1 (apV L a b c d id).2.2 = true ∧ 1 ≤ id ∧ id ≤ 9999 := by
 obtain ⟨hk, ht, i, hi, rfl⟩ := uw h
 have hs := yX hk hi
 refine ⟨(aZ.1 ht).1, ?_, Bp ht hs, ?_⟩
 ·have := aP.1 (bz hs).2
  exact aP.2 (by omega)
 ·have := (bQ hk).2 i hi
  unfold em idB at this
  simp only [Bool.and_eq_true, decide_eq_true_eq] at this
  omega
theorem qd (L : List St) (a b c d cone : Int) : (eb L a b c d cone).length ≤ 12 := by
 unfold eb
 split
 ·rename_i h
  have := lO L a b c d cone L.length
  simp only [Bool.and_eq_true] at h
  have := (bQ h.1.1).1
  omega
 ·simp
end
section
open Go.RowKit Go.Sort
theorem tV {w w' : World} (h : Below w.heap.size w w') : w.grownBy w' none := ⟨h.os, h.tape, h.output, h.size, fun k hk _ => h.block k hk⟩
theorem oF {w w' : World} {B : Nat} {t : TypeId} {v : Value} {n m : Nat} {xs : List Value} (h : w.ownsRow B t m v n xs) (hB : Below w.heap.size w w') : w'.ownsRow B t m v n xs :=
 h.kept (tV hB) (by cases hv : v.ownBlock <;> simp)
theorem aJ.grown {w w' : World} {b : Nat} {p q r s : Int} {row : Option Nat} (h : aJ w b p q r s) (hg : w.grownBy w' row) (hne : some b ≠ row) : aJ w' b p q r s := by
 obtain ⟨h0, h1, h2, h3⟩ := h
 exact ⟨hg.cell h0 hne, hg.cell h1 hne, hg.cell h2 hne, hg.cell h3 hne⟩
theorem xB {s : St} {a b c d : Int} (cone : Int) (ht : aA a b c d = true) (hs : aL s.2.1 s.2.2.1 s.2.2.2 = true) :
  apR a b c d s.2.1 s.2.2.1 s.2.2.2 = true := by
 have hw : cz s.2.1 s.2.2.1 s.2.2.2 = true := by
  obtain ⟨h1, h2⟩ := bz hs
  have := aP.1 h2
  unfold cz
  rw [h1]
  have h3 : aK 1800 s.2.1 s.2.2.1 s.2.2.2 = true := aP.2 ⟨by omega, by omega, by omega⟩
  rw [h3]
  rfl
 unfold apR
 rw [ht, hw]
 rfl
theorem BN (L : List St) (a b c d cone : Int) (ar : Option Addr) (cap : Nat) (p : Addr) (w : World) (hn : L.length ≤ 1048576) (hcap : L.length ≤ cap) (hc9 : cap ≤ 9223372036854775807) (hS : aR w ar L L.length) (hE : bu p w) :
  Calls Tryz.prog 131 #[.slice ar L.length cap, .agg #[.int .i64 a, .int .i64 b, .int .i64 c, .int .i64 d], .int .i64 cone] w fun e w' => ∃ v, e = .returned v ∧ w'.ownsRow (w.heap.size + 1) 2 1 v (eb L a b c d cone).length (lz (eb L a b c d cone)) ∧ Below w.heap.size w w' := by
 have cS := yz (fun (W : World) hW hE => eO L ar cap p W hn hcap hc9 hW hE)
 have HS := yz hS
 have HE := yz hE
 clear hS hE
 have HV := yz (show eb L a b c d cone = if (aV L && aA a b c d && (decide (0 ≤ cone) && decide (cone ≤ 100))) = true then bw L a b c d cone L.length else [] from rfl)
 have H12 : Hid (aV L = true → L.length ≤ 12 ∧ un L L.length) := yz (fun h => bQ h)
 generalize L.length = n at *
 obtain ⟨i0, hi, hz0, hz1, hz2⟩ := info_parts vk
 have HB := yz (an w (.cells #[.int .i64 a, .int .i64 b, .int .i64 c, .int .i64 d] 32))
 have HA := yz (aH w a b c d 32)
 go_enter Tryz.func131, Tryz.ntmps131
 go_wp2_with fail
 refine (yy cS _ ((yy HS).kept (yy HB)) ((yy HE).kept (yy HB))).mono ?_
 rintro e w1 ⟨rfl, hx⟩
 have HB1 := yz (ak (yy HB) hx)
 have HA1 := yz ((yy HA).kept (by simp) hx)
 clear hx HB HA
 cases hk : aV L
 ·rw [hk] at HV
  clear hk
  go_wp2_with fail
  go_ret
  exact ⟨_, rfl, by rw [yy HV]; exact World.ownsRow_nil _ _ _ _, yy HB1⟩
 obtain ⟨h12, hok⟩ := yy H12 hk
 have HO := yz hok
 rw [hk] at HV
 clear hk hok
 have va := yy HA1
 obtain ⟨c0, c1, c2, c3⟩ := va
 go_wp2_with fail
 refine (bj a b c d _).mono ?_
 rintro e w2 ⟨rfl, hx⟩
 have HB2 := yz (ak (yy HB1) hx)
 have HA2 := yz ((yy HA1).kept (yy HA1).lt hx)
 clear hx HB1 HA1 c0 c1 c2 c3
 cases hr : aA a b c d
 ·rw [hr] at HV
  clear hr
  go_wp2_with fail
  go_ret
  exact ⟨_, rfl, by rw [yy HV]; exact World.ownsRow_nil _ _ _ _, yy HB2⟩
 rw [hr] at HV
 by_cases hc0 : cone < 0
 ·have hd : decide (0 ≤ cone) = false := by simp; omega
  rw [hd] at HV
  clear hd hr
  go_wp2_with fail
  go_ret
  exact ⟨_, rfl, by rw [yy HV]; exact World.ownsRow_nil _ _ _ _, yy HB2⟩
 by_cases hc1 : 100 < cone
 ·have hd : decide (cone ≤ 100) = false := by simp; omega
  rw [hd, Bool.and_false] at HV
  have hc0' : decide (cone < 0) = false := by simpa using hc0
  clear hd hr
  go_wp2_with fail
  go_ret
  exact ⟨_, rfl, by rw [yy HV]; exact World.ownsRow_nil _ _ _ _, yy HB2⟩
 have hd0 : decide (0 ≤ cone) = true := by simp; omega
 have hd1 : decide (cone ≤ 100) = true := by simp; omega
 rw [hd0, hd1] at HV
 have HV' : Hid (eb L a b c d cone = bw L a b c d cone n) := yz (by rw [yy HV]; rfl)
 have HR := yz hr
 have hc0' : decide (cone < 0) = false := by simpa using hc0
 clear HV hd0 hd1 hr
 rcases yy HS with rfl | ⟨b0, o, rfl, hb, hc⟩
 ·go_wp2_with fail
  refine wp_loop_rounds 1 ?_
  rw [rounds_succ]
  go_wp2_with fail
  go_ret
  exact ⟨_, rfl, by rw [yy HV']; exact World.ownsRow_nil _ _ _ _, yy HB2⟩
 have HC := yz hc
 clear hc
 go_wp2_with fail
 clear hc0' hc0 hc1
 go_loopw [7, 28] (fun v i wr => ∃ k : Nat, k ≤ n ∧ i = .int .i64 k ∧ Hid (wr.ownsRow (w.heap.size + 1) 2 1 v (bw L a b c d cone k).length (lz (bw L a b c d cone k))) ∧ Hid (Below w.heap.size w wr) ∧ Hid (aJ wr w.heap.size a b c d)) (fun _ i _ => n - (intOf i).toNat)
 case atStart => exact ⟨0, by omega, rfl, yz (World.ownsRow_nil _ _ _ _), HB2, HA2⟩
 case round =>
  clear HB2 HA2
  obtain ⟨k, hk, rfl, HW, HB, HA⟩ := hrel
  by_cases hkn : k < n
  ·obtain ⟨⟨s1, s2, s3, s4⟩, hs⟩ : ∃ s, stA L k = s := ⟨_, rfl⟩
   have hst := ((yy HC) k hkn).kept hb (yy HB)
   have hsm := fa ((yy HO) k hkn)
   rw [hs] at hst hsm
   obtain ⟨c0, c1, c2, c3⟩ := hst
   have hap : apR a b c d s2 s3 s4 = true := xB (s := (s1, s2, s3, s4)) cone (yy HR) hsm
   have cA : Hid (∀ W : World, Calls Tryz.prog 134 #[.agg #[.int .i64 a, .int .i64 b, .int .i64 c, .int .i64 d], .agg #[.int .i64 s2, .int .i64 s3, .int .i64 s4]] W fun e w' => e = .returned (.agg #[.int .i64 (apX a b c d s2 s3 s4), .int .i64 (apY a b c d s2 s3 s4), .int .i64 (apZ a b c d s2 s3 s4)]) ∧ Below W.heap.size W w') := yz (fun W => (rR a b c d s2 s3 s4 W).mono fun e w' h => ⟨by rw [h.1, hap]; rfl, h.2⟩)
   have HQ : Hid (sB (stA L k) a b c d cone = lj (apX a b c d s2 s3 s4) (apY a b c d s2 s3 s4) (apZ a b c d s2 s3 s4) cone) := yz (by rw [hs]; rfl)
   have HT := yz hs
   generalize apX a b c d s2 s3 s4 = x at cA HQ
   generalize apY a b c d s2 s3 s4 = y at cA HQ
   generalize apZ a b c d s2 s3 s4 = z at cA HQ
   clear hs hsm hap
   have B1 := yz ((yy HB).alloc (yy HB).size (.cells #[.int .i64 s1, .int .i64 s2, .int .i64 s3, .int .i64 s4] 60))
   have A1 := yz ((yy HA).alloc (.cells #[.int .i64 s1, .int .i64 s2, .int .i64 s3, .int .i64 s4] 60))
   have N1 := yz (fk wr (s1, s2, s3, s4) 60)
   have W1 := yz ((yy HW).alloc (.cells #[.int .i64 s1, .int .i64 s2, .int .i64 s3, .int .i64 s4] 60))
   obtain ⟨d0, d1, d2, d3⟩ := yy A1
   go_wp2_with fail
   clear c0 c1 c2 c3 d0 d1 d2 d3 HW HB HA
   generalize wr.alloc (.cells #[.int .i64 s1, .int .i64 s2, .int .i64 s3, .int .i64 s4] 60) = V1 at B1 A1 N1 W1 ⊢
   generalize wr.heap.size = bs at N1 ⊢
   refine (yy cA _).mono ?_
   rintro e V2 ⟨rfl, hx⟩
   have B2 := yz (ak (yy B1) hx)
   have A2 := yz ((yy A1).kept (yy A1).lt hx)
   have N2 := yz ((yy N1).kept (World.block_lt_of_cell? _ _ (yy N1).1) hx)
   have W2 := yz (oF (yy W1) hx)
   clear hx B1 A1 N1 W1 cA
   go_wp2_with fail
   refine (ya x y z cone _).mono ?_
   rintro e V3 ⟨rfl, hx⟩
   have B3 := yz (ak (yy B2) hx)
   have A3 := yz ((yy A2).kept (yy A2).lt hx)
   have N3 := yz ((yy N2).kept (World.block_lt_of_cell? _ _ (yy N2).1) hx)
   have hown := oF (yy W2) hx
   clear hx B2 A2 N2 W2
   rw [← yy HQ]
   have hlen := lO L a b c d cone k
   cases hq : sB (stA L k) a b c d cone
   ·have HE2 : Hid (bw L a b c d cone (k + 1) = bw L a b c d cone k) := yz (by show (if _ then _ else _) = _; rw [hq]; rfl)
    have W3 := yz hown
    clear hown hq
    go_wp2_with fail
    go_roundw
    case rel => exact ⟨k + 1, by omega, by go_num, by rw [yy HE2]; exact W3, B3, A3⟩
    case measure => simp [intOf]; omega
   ·have HE2 : Hid (bw L a b c d cone (k + 1) = bw L a b c d cone k ++ [s1]) := yz (by show (if _ then _ else _) = _; rw [hq, yy HT]; rfl)
    clear hq
    obtain ⟨e0, _, _, _⟩ := yy N3
    have hsz := (yy B3).size
    have hbl : w.heap.size < V3.heap.size := (yy A3).lt
    go_wp2_with (at_builtin; refine wpList_append_own _ rfl _ _ 67 rfl (w.heap.size + 1) 2 i0 (.int .i64 0) 1 8 Tryz.underlying67 hi hz0 hz1 hz2 rfl (by decide) _ _ _ rfl (hown.alloc _) ⟨V3.heap.size, 0, none⟩ 1 1 [.int .i64 s1] rfl rfl ?c1 ?c2 ?c3 ?c4 ?c5 ?_)
    case c1 =>
     intro j x hj
     match j, hj with
     | 0, hj => simp at hj; subst hj; simp [Addr.add]
    case c2 => intro x hx; simp at hx; subst hx; rfl
    case c3 => unfold maxLen; omega
    case c4 => omega
    case c5 => simp; omega
    intro v' V4 hown' hgrow _
    have hne : some w.heap.size ≠ u7.ownBlock := fun e => by have := (hown.lt _ e.symm).1; omega
    have A4 := yz (((yy A3).alloc (.cells #[.int .i64 s1] 2)).grown hgrow hne)
    have B4 := yz (uA (w2 := V4) ((yy B3).alloc (yy B3).size (.cells #[.int .i64 s1] 2)) (by simp; omega) (World.ownsRow_weak (hown.alloc (.cells #[.int .i64 s1] 2))) hgrow)
    have W4 : Hid (V4.ownsRow (w.heap.size + 1) 2 1 v' (bw L a b c d cone (k + 1)).length (lz (bw L a b c d cone (k + 1)))) := yz (by rw [yy HE2]; simpa [lz] using hown')
    clear hown' hown hgrow hne A3 B3 N3 e0
    go_wp2_with fail
    go_roundw
    case rel => exact ⟨k + 1, by omega, by go_num, W4, B4, A4⟩
    case measure => simp [intOf]; omega
  ·have hkn' : k = n := by omega
   subst hkn'
   go_wp2_with fail
   go_ret
   exact ⟨_, rfl, by rw [yy HV']; exact yy HW, yy HB⟩
theorem wq {wr wx : World} {A b o1 o2 o3 : Nat} {p q r s x y z : Int} (ht : aJ wr A p q r s) (h1 : wr.cell? ⟨b, o1, none⟩ = some (.int .i64 x)) (h2 : wr.cell? ⟨b, o2, none⟩ = some (.int .i64 y)) (h3 : wr.cell? ⟨b, o3, none⟩ = some (.int .i64 z)) (h : Below wr.heap.size wr wx) :
  ((wx.cell? ⟨A, 0, none⟩ = some (.int .i64 p) ∧ wx.cell? ⟨A, 1, none⟩ = some (.int .i64 q) ∧ wx.cell? ⟨A, 2, none⟩ = some (.int .i64 r) ∧ wx.cell? ⟨A, 3, none⟩ = some (.int .i64 s)) ∧ (wx.cell? ⟨b, o1, none⟩ = some (.int .i64 x) ∧ wx.cell? ⟨b, o2, none⟩ = some (.int .i64 y) ∧ wx.cell? ⟨b, o3, none⟩ = some (.int .i64 z))) ∧ Below wr.heap.size wr wx := by
 have hb := World.block_lt_of_cell? wr _ h1
 obtain ⟨k0, k1, k2, k3⟩ := ht.kept ht.lt h
 exact ⟨⟨⟨k0, k1, k2, k3⟩, by rw [h.cell (p := ⟨b, o1, none⟩) hb]; exact h1, by rw [h.cell (p := ⟨b, o2, none⟩) hb]; exact h2, by rw [h.cell (p := ⟨b, o3, none⟩) hb]; exact h3⟩, h⟩
theorem uu (L : List St) (a b c d cone : Int) (ar : Option Addr) (cap : Nat) (w : World) (hk : aV L = true) (hr : aA a b c d = true) (hS : aR w ar L L.length) :
  Calls Tryz.prog 62 #[.slice ar L.length cap, .agg #[.int .i64 a, .int .i64 b, .int .i64 c, .int .i64 d], .int .i64 cone] w fun e w' => ∃ v, e = .returned v ∧ w'.ownsRow (w.heap.size + 1) 2 1 v (bw L a b c d cone L.length).length (lz (bw L a b c d cone L.length)) ∧ Below w.heap.size w w' := by
 obtain ⟨h12, hok⟩ := bQ hk
 have HO := yz hok
 have HR := yz hr
 have HI : Hid (inT 5 a b c d = true) := yz (aZ.1 hr).1
 clear hk hok hr
 generalize L.length = n at *
 obtain ⟨i0, hi, hz0, hz1, hz2⟩ := info_parts vk
 have HB0 := yz ((an w (.cells #[.int .i64 a, .int .i64 b, .int .i64 c, .int .i64 d] 32)).alloc (by simp) (.cells #[] 2))
 have HA0 := yz ((aH w a b c d 32).alloc (.cells #[] 2))
 have HW0 := yz (World.ownsRow_lit (base := w.heap.size + 1) (e := 2) (size := 1) (w.alloc (.cells #[.int .i64 a, .int .i64 b, .int .i64 c, .int .i64 d] 32)) #[] 0 (by simp) (by simp [maxLen]) rfl)
 go_enter Tryz.func62, Tryz.ntmps62
 go_wp2_with fail
 rcases hS with rfl | ⟨b0, o, rfl, hb, hc⟩
 ·refine wp_loop_rounds 1 ?_
  rw [rounds_succ]
  go_wp2_with fail
  go_ret
  exact ⟨_, rfl, by simpa [bw, lz] using yy HW0, yy HB0⟩
 have HC := yz hc
 clear hc
 go_loopw [7, 8] (fun v i wr => ∃ k : Nat, k ≤ n ∧ i = .int .i64 k ∧ Hid (wr.ownsRow (w.heap.size + 1) 2 1 v (bw L a b c d cone k).length (lz (bw L a b c d cone k))) ∧ Hid (Below w.heap.size w wr) ∧ Hid (aJ wr w.heap.size a b c d)) (fun _ i _ => n - (intOf i).toNat)
 case atStart => exact ⟨0, by omega, rfl, yz (by simpa [bw, lz] using yy HW0), HB0, HA0⟩
 case round =>
  clear HB0 HA0 HW0
  obtain ⟨k, hk, rfl, HW, HB, HA⟩ := hrel
  by_cases hkn : k < n
  ·obtain ⟨⟨s1, s2, s3, s4⟩, hs⟩ : ∃ s, stA L k = s := ⟨_, rfl⟩
   have hst := ((yy HC) k hkn).kept hb (yy HB)
   have hsm := fa ((yy HO) k hkn)
   rw [hs] at hst hsm
   have HST := yz hst
   obtain ⟨c0, c1, c2, c3⟩ := hst
   have hw18 : aK 1800 s2 s3 s4 = true := by
    have hsm2 : aL s2 s3 s4 = true := hsm
    have := aP.1 (bz hsm2).2
    exact aP.2 ⟨by omega, by omega, by omega⟩
   have cA := yz (fun W => jE a b c d s2 s3 s4 W (yy HI) hw18)
   have HQ : Hid (sB (stA L k) a b c d cone = lj (apX a b c d s2 s3 s4) (apY a b c d s2 s3 s4) (apZ a b c d s2 s3 s4) cone) := yz (by rw [hs]; rfl)
   have HT := yz hs
   generalize apX a b c d s2 s3 s4 = x at cA HQ
   generalize apY a b c d s2 s3 s4 = y at cA HQ
   generalize apZ a b c d s2 s3 s4 = z at cA HQ
   have hkn2 : (k : Int) < (n : Int) := by omega
   clear hs hsm hw18
   go_wp2_with fail
   have K1 := yz c1
   have K2 := yz c2
   have K3 := yz c3
   clear c0 c1 c2 c3
   go_cut [9] (fun s wx => ∃ bb, s = .pointer (some ⟨bb, 0, none⟩) ∧ aG wx bb x y z ∧ Below wr.heap.size wr wx)
   case first =>
    go_region_held (fun w' => ((w'.cell? ⟨w.heap.size, 0, none⟩ = some (.int .i64 a) ∧ w'.cell? ⟨w.heap.size, 1, none⟩ = some (.int .i64 b) ∧ w'.cell? ⟨w.heap.size, 2, none⟩ = some (.int .i64 c) ∧ w'.cell? ⟨w.heap.size, 3, none⟩ = some (.int .i64 d)) ∧ (w'.cell? ⟨b0, o + k * 4 + 1, none⟩ = some (.int .i64 s2) ∧ w'.cell? ⟨b0, o + k * 4 + 2, none⟩ = some (.int .i64 s3) ∧ w'.cell? ⟨b0, o + k * 4 + 3, none⟩ = some (.int .i64 s4))) ∧ Below wr.heap.size wr w') (first | exact wq (yy HA) (yy K1) (yy K2) (yy K3) (Below.refl _ _).drew | exact wq (yy HA) (yy K1) (yy K2) (yy K3) (zq (by assumption) _) | exact wq (yy HA) (yy K1) (yy K2) (yy K3) (by assumption) | exact wq (yy HA) (yy K1) (yy K2) (yy K3) (pR (by assumption) _) | exact wq (yy HA) (yy K1) (yy K2) (yy K3) (Bu (by assumption) (by first | exact Nat.le_refl _ | exact Below.size (by assumption)) _ _ _)) ((go_at_call 41; refine (yy cA _).mono ?_; rintro e wn ⟨rfl, hx⟩; have hw := AF (w1 := wr) hx (by assumption); first | (have hr : AB wn wr.heap.size := CP hx; have hr2 := hr; obtain ⟨⟨r0, r1, r2⟩, f0, f1, f2⟩ := hr2) | (have hr := Eg hx; have hr2 := hr; obtain ⟨⟨r0, r1, r2⟩, f0, f1, f2⟩ := hr2) | (have hr := CO (by assumption) hx; have hr2 := hr; obtain ⟨⟨r0, r1, r2⟩, f0, f1, f2⟩ := hr2) | skip))
    all_goals (go_wp2_with fail; go_meet; refine ⟨_, rfl, ?_, ?_⟩)
    all_goals first | (with_reducible exact aF _ _ _ _ _) | (with_reducible exact pR (by assumption) _) | (with_reducible exact xH (by assumption) _ _ _) | (with_reducible exact vx (by assumption) (by first | exact Nat.le_refl _ | exact Below.size (by assumption)) _ _ _) | trace_state
   case rest =>
    obtain ⟨bb, rfl, v5, hx⟩ := hcut
    have B2 := yz (ak (yy HB) hx)
    have A2 := yz ((yy HA).kept (yy HA).lt hx)
    have W2 := yz (oF (yy HW) hx)
    have S2 := yz ((yy HST).kept (World.block_lt_of_cell? _ _ (yy HST).1) hx)
    obtain ⟨v0, v1, v2⟩ := v5
    have r0 := cell_regrown v0
    have r1 := cell_regrown v1
    have r2 := cell_regrown v2
    have cQ := yz (fun W => fj x y z x y z W)
    have HD : Hid (lj x y z cone = (decide (0 < z) && decide (wrap64 (wrap64 (cone * cone) * bx x y z x y z) ≤ wrap64 (wrap64 (10000 * z) * z)))) := yz rfl
    generalize bx x y z x y z = dd at cQ HD
    obtain ⟨m1, hm1⟩ : ∃ m, wrap64 (10000 * z) = m := ⟨_, rfl⟩
    obtain ⟨m2, hm2⟩ : ∃ m, wrap64 (m1 * z) = m := ⟨_, rfl⟩
    obtain ⟨m3, hm3⟩ : ∃ m, wrap64 (cone * cone) = m := ⟨_, rfl⟩
    obtain ⟨m4, hm4⟩ : ∃ m, wrap64 (m3 * dd) = m := ⟨_, rfl⟩
    rw [hm1, hm2, hm3, hm4] at HD
    clear hx HB HA HW HST K1 K2 K3 cA v0 v1 v2
    have hlen := lO L a b c d cone k
    go_wp2_with fail
    go_cut [42] (fun s wx => s = .bool (sB (stA L k) a b c d cone) ∧ Below wc.heap.size wc wx)
    case first =>
     by_cases hz : 0 < z
     ·have HC2 : Hid (lj x y z cone = decide (m4 ≤ m2)) := yz (by rw [yy HD]; simp [hz])
      refine wp_region_quiet_below (by kernel_rfl) (by kernel_rfl) ?_
      repeat (go_big_quiet_step (first | (with_reducible exact Calls.regrown_of (yy cQ _))))
      refine wpQuiet_nil ?_
      intro _ hw'
      obtain ⟨⟨dq, osq⟩, hw''⟩ := hw'
      subst hw''
      have hx := below_regrown wc dq osq
      go_wp2_with fail
      go_meet
      case rel => exact ⟨by rw [yy HQ, yy HC2], hx⟩
     ·have hz' : decide (0 < z) = false := by simpa using hz
      have HC2 : Hid (lj x y z cone = false) := yz (by rw [yy HD, hz']; rfl)
      refine wp_region_quiet_below (by kernel_rfl) (by kernel_rfl) ?_
      repeat (go_big_quiet_step (first | (with_reducible exact Calls.regrown_of (yy cQ _))))
      refine wpQuiet_nil ?_
      intro _ hw'
      obtain ⟨⟨dq, osq⟩, hw''⟩ := hw'
      subst hw''
      have hx := below_regrown wc dq osq
      go_wp2_with fail
      go_meet
      case rel => exact ⟨by rw [yy HQ, yy HC2], hx⟩
    case rest =>
     obtain ⟨rfl, hx⟩ := hcut
     have B3 := yz (ak (yy B2) hx)
     have A3 := yz ((yy A2).kept (yy A2).lt hx)
     have S3 := yz ((yy S2).kept (World.block_lt_of_cell? _ _ (yy S2).1) hx)
     have hown := oF (yy W2) hx
     clear hx B2 A2 W2 S2 r0 r1 r2 cQ HD hm1 hm2 hm3 hm4
     cases hq : sB (stA L k) a b c d cone
     ·have HE2 : Hid (bw L a b c d cone (k + 1) = bw L a b c d cone k) := yz (by show (if _ then _ else _) = _; rw [hq]; rfl)
      have W3 := yz hown
      clear hown hq
      go_wp2_with fail
      go_roundw
      case rel => exact ⟨k + 1, by omega, by go_num, by rw [yy HE2]; exact W3, B3, A3⟩
      case measure => simp [intOf]; omega
     ·have HE2 : Hid (bw L a b c d cone (k + 1) = bw L a b c d cone k ++ [s1]) := yz (by show (if _ then _ else _) = _; rw [hq, yy HT]; rfl)
      clear hq
      obtain ⟨e0, _, _, _⟩ := yy S3
      have hsz := (yy B3).size
      have hbl : w.heap.size < wc.heap.size := (yy A3).lt
      go_wp2_with (at_builtin; refine wpList_append_own _ rfl _ _ 67 rfl (w.heap.size + 1) 2 i0 (.int .i64 0) 1 8 Tryz.underlying67 hi hz0 hz1 hz2 rfl (by decide) _ _ _ rfl (hown.alloc _) ⟨wc.heap.size, 0, none⟩ 1 1 [.int .i64 s1] rfl rfl ?c1 ?c2 ?c3 ?c4 ?c5 ?_)
      case c2 => rfl
      case c3 => unfold maxLen; omega
      case c4 => omega
      intro v' V4 hown' hgrow _
      have hne : some w.heap.size ≠ u7.ownBlock := fun e => by have := (hown.lt _ e.symm).1; omega
      have A4 := yz (((yy A3).alloc (.cells #[.int .i64 s1] 2)).grown hgrow hne)
      have B4 := yz (uA (w2 := V4) ((yy B3).alloc (yy B3).size (.cells #[.int .i64 s1] 2)) (by simp; omega) (World.ownsRow_weak (hown.alloc (.cells #[.int .i64 s1] 2))) hgrow)
      have W4 : Hid (V4.ownsRow (w.heap.size + 1) 2 1 v' (bw L a b c d cone (k + 1)).length (lz (bw L a b c d cone (k + 1)))) := yz (by rw [yy HE2]; simpa [lz] using hown')
      clear hown' hown hgrow hne A3 B3 S3 e0
      go_wp2_with fail
      go_roundw
      case rel => exact ⟨k + 1, by omega, by go_num, W4, B4, A4⟩
      case measure => simp [intOf]; omega
  ·have hkn' : k = n := by omega
   subst hkn'
   go_wp2_with fail
   go_ret
   exact ⟨_, rfl, yy HW, yy HB⟩
theorem tM (L : List St) (a b c d cone : Int) (ar : Option Addr) (cap : Nat) (w : World) (hn : L.length ≤ 1048576) (hS : aR w ar L L.length) :
  Calls Tryz.prog 40 #[.slice ar L.length cap, .agg #[.int .i64 a, .int .i64 b, .int .i64 c, .int .i64 d], .int .i64 cone] w fun e w' => ∃ v, e = .returned v ∧ w'.ownsRow (w.heap.size + 1) 2 1 v (eb L a b c d cone).length (lz (eb L a b c d cone)) ∧ Below w.heap.size w w' := by
 have cS := yz (fun (W : World) hW => iC L ar cap W hn hW)
 have cA := yz (fun (W : World) hk hr hW => uu L a b c d cone ar cap W hk hr hW)
 have HS := yz hS
 clear hS
 have HV := yz (show eb L a b c d cone = if (aV L && aA a b c d && (decide (0 ≤ cone) && decide (cone ≤ 100))) = true then bw L a b c d cone L.length else [] from rfl)
 have H12 : Hid (aV L = true → L.length ≤ 12) := yz (fun h => (bQ h).1)
 generalize L.length = n at *
 have HB := yz (an w (.cells #[.int .i64 a, .int .i64 b, .int .i64 c, .int .i64 d] 32))
 have HA := yz (aH w a b c d 32)
 have none : ∀ (W : World), Below w.heap.size w W → w.heap.size + 1 ≤ W.heap.size → (W.alloc (.cells #[] 2)).ownsRow (w.heap.size + 1) 2 1 (.slice (some ⟨W.heap.size, 0, none⟩) 0 0) 0 [] ∧ Below w.heap.size w (W.alloc (.cells #[] 2)) := fun W h1 h2 =>
  ⟨World.ownsRow_lit W #[] 0 h2 (by simp [maxLen]) rfl, h1.alloc h1.size _⟩
 have HN := yz none
 clear none
 by_cases hbig : (400 : Int) < (n : Int)
 ·have hk : aV L = false := by cases h : aV L with | false => rfl | true => have := yy H12 h; omega
  rw [hk] at HV
  clear hk
  go_enter Tryz.func40, Tryz.ntmps40
  go_wp2_with fail
  go_ret
  exact ⟨_, rfl, by rw [yy HV]; simpa using yy HN _ (yy HB) (by simp)⟩
 have hbig' : decide ((400 : Int) < (n : Int)) = false := by simpa using hbig
 go_enter Tryz.func40, Tryz.ntmps40
 go_wp2_with fail
 refine (yy cS _ ((yy HS).kept (yy HB))).mono ?_
 rintro e w1 ⟨rfl, hx⟩
 have HB1 := yz (ak (yy HB) hx)
 have HA1 := yz ((yy HA).kept (by simp) hx)
 clear hx HB HA
 have hl1 : w.heap.size + 1 ≤ w1.heap.size := (yy HA1).lt
 cases hk : aV L
 ·rw [hk] at HV
  clear hk
  go_wp2_with fail
  go_ret
  exact ⟨_, rfl, by rw [yy HV]; exact yy HN _ (yy HB1) hl1⟩
 rw [hk] at HV
 have va := yy HA1
 obtain ⟨c0, c1, c2, c3⟩ := va
 have HK := yz hk
 clear hk
 go_wp2_with fail
 refine (bf a b c d _).mono ?_
 rintro e w2 ⟨rfl, hx⟩
 have HB2 := yz (ak (yy HB1) hx)
 have HA2 := yz ((yy HA1).kept (yy HA1).lt hx)
 clear hx HB1 HA1 c0 c1 c2 c3
 have hl2 : w.heap.size + 1 ≤ w2.heap.size := (yy HA2).lt
 cases hr : aA a b c d
 ·rw [hr] at HV
  clear hr
  go_wp2_with fail
  go_ret
  exact ⟨_, rfl, by rw [yy HV]; exact yy HN _ (yy HB2) hl2⟩
 rw [hr] at HV
 have HR := yz hr
 clear hr
 go_wp2_with fail
 refine (dE cone 0 100 _).mono ?_
 rintro e w3 ⟨rfl, hw⟩
 rw [hw]
 clear hw w3
 cases hc : (decide (0 ≤ cone) && decide (cone ≤ 100))
 ·rw [hc] at HV
  clear hc
  go_wp2_with fail
  go_ret
  exact ⟨_, rfl, by rw [yy HV]; exact yy HN _ (yy HB2) hl2⟩
 rw [hc] at HV
 have HV' : Hid (eb L a b c d cone = bw L a b c d cone n) := yz (by rw [yy HV]; rfl)
 clear hc HV
 have va := yy HA2
 obtain ⟨c0, c1, c2, c3⟩ := va
 go_wp2_with fail
 refine (yy cA _ (yy HK) (yy HR) ((yy HS).kept (yy HB2))).mono ?_
 rintro e w4 ⟨v, rfl, ho, hx⟩
 have HO : Hid (w4.ownsRow (w.heap.size + 1) 2 1 v (bw L a b c d cone n).length (lz (bw L a b c d cone n))) := yz (World.ownsRow_less ho (by omega))
 have HB4 := yz (ak (yy HB2) hx)
 clear hx ho c0 c1 c2 c3
 go_wp2_with fail
 go_ret
 exact ⟨_, rfl, by rw [yy HV']; exact yy HO, yy HB4⟩
end
section
structure Tk where
 L : List St
 lim : Int
 mode : Int
 A : Int
 B : Int
 C : Int
 D : Int
 coast : Int
 fr : Int
def dv (lo hi x : Int) : Bool := decide (lo ≤ x) && decide (x ≤ hi)
def iB (t : Tk) : Bool :=
 if t.mode = 0 then eqT t.A t.B t.C t.D 0 0 0 0 && decide (t.coast = 0)
 else if t.mode = 1 then aA t.A t.B t.C t.D && decide (t.coast = 0)
 else if t.mode = 2 then aA t.A t.B t.C t.D && dv 1 t.lim t.coast
 else false
def lV (t : Tk) : Bool := aV t.L && dv 1 5 t.lim && dv 0 1000000 t.fr
def aD (t : Tk) : Bool := lV t && iB t
theorem mf {lo hi x : Int} (h1 : lo ≤ x) (h2 : x ≤ hi) : dv lo hi x = true := by unfold dv; rw [decide_eq_true h1, decide_eq_true h2]; rfl
theorem qk {lo hi x : Int} (h : ¬ lo ≤ x) : dv lo hi x = false := by unfold dv; rw [decide_eq_false h]; rfl
theorem rz {lo hi x : Int} (h : ¬ x ≤ hi) : dv lo hi x = false := by unfold dv; rw [decide_eq_false h]; simp
theorem mB {lo hi x : Int} : dv lo hi x = true ↔ lo ≤ x ∧ x ≤ hi := by unfold dv; simp
theorem kz {t : Tk} (h : aV t.L = false) : aD t = false := by unfold aD lV; rw [h]; rfl
theorem kM {t : Tk} (h : dv 1 5 t.lim = false) : aD t = false := by unfold aD lV; rw [h]; simp
theorem kB {t : Tk} (h : dv 0 1000000 t.fr = false) : aD t = false := by unfold aD lV; rw [h]; simp
theorem ly {t : Tk} (h1 : aV t.L = true) (h2 : dv 1 5 t.lim = true) (h3 : dv 0 1000000 t.fr = true) : aD t = iB t := by unfold aD lV; rw [h1, h2, h3]; rfl
theorem xl {t : Tk} (h : t.mode = 0) : iB t = (eqT t.A t.B t.C t.D 0 0 0 0 && decide (t.coast = 0)) := by unfold iB; rw [if_pos h]
theorem kh {t : Tk} (h : t.mode = 1) : iB t = (aA t.A t.B t.C t.D && decide (t.coast = 0)) := by unfold iB; rw [if_neg (by omega), if_pos h]
theorem lQ {t : Tk} (h : t.mode = 2) : iB t = (aA t.A t.B t.C t.D && dv 1 t.lim t.coast) := by unfold iB; rw [if_neg (by omega), if_neg (by omega), if_pos h]
theorem mY {t : Tk} (h0 : t.mode ≠ 0) (h1 : t.mode ≠ 1) (h2 : t.mode ≠ 2) : iB t = false := by unfold iB; rw [if_neg h0, if_neg h1, if_neg h2]
theorem zZ {t : Tk} (h : aD t = true) : aV t.L = true := by
 cases hq : aV t.L
 ·rw [kz hq] at h; cases h
 ·rfl
theorem CE {t : Tk} (h : aD t = true) : 0 ≤ t.fr ∧ t.fr ≤ 1000000 := by
 cases hq : dv 0 1000000 t.fr
 ·rw [kB hq] at h; cases h
 ·exact mB.1 hq
theorem ju {t : Tk} (h : aD t = true) : iB t = true := by unfold aD at h; rw [Bool.and_eq_true] at h; exact h.2
theorem lC {t : Tk} (h : aD t = true) (h0 : t.mode ≠ 0) : aA t.A t.B t.C t.D = true := by
 have hm := ju h
 by_cases h1 : t.mode = 1
 ·rw [kh h1, Bool.and_eq_true] at hm; exact hm.1
 ·by_cases h2 : t.mode = 2
  ·rw [lQ h2, Bool.and_eq_true] at hm; exact hm.1
  ·rw [mY h0 h1 h2] at hm; cases hm
def qq (t : Tk) : Tk := { t with mode := 0, A := 0, B := 0, C := 0, D := 0, coast := 0 }
def eY : Tk := ⟨[], 0, 0, 0, 0, 0, 0, 0, 0⟩
end
section
open Go.RowKit
def fD (w : World) (b : Nat) (p q r s k : Int) : Prop := w.cell? ⟨b, 0, none⟩ = some (.int .i64 p) ∧ w.cell? ⟨b, 1, none⟩ = some (.int .i64 q) ∧ w.cell? ⟨b, 2, none⟩ = some (.int .i64 r) ∧ w.cell? ⟨b, 3, none⟩ = some (.int .i64 s) ∧ w.cell? ⟨b, 4, none⟩ = some (.int .i64 k)
def ix (w : World) (b : Nat) : Prop := w.frozen? ⟨b, 0, none⟩ = false ∧ w.frozen? ⟨b, 1, none⟩ = false ∧ w.frozen? ⟨b, 2, none⟩ = false ∧ w.frozen? ⟨b, 3, none⟩ = false ∧ w.frozen? ⟨b, 4, none⟩ = false
theorem fD.lt {w : World} {b : Nat} {p q r s k : Int} (h : fD w b p q r s k) : b < w.heap.size := World.block_lt_of_cell? w _ h.1
theorem fD.kept {w w' : World} {b : Nat} {p q r s k : Int} (h : fD w b p q r s k) (hB : Below w.heap.size w w') : fD w' b p q r s k := by
 have hb := h.lt
 obtain ⟨h0, h1, h2, h3, h4⟩ := h
 exact ⟨by rw [hB.cell (p := ⟨b, 0, none⟩) hb]; exact h0, by rw [hB.cell (p := ⟨b, 1, none⟩) hb]; exact h1, by rw [hB.cell (p := ⟨b, 2, none⟩) hb]; exact h2, by rw [hB.cell (p := ⟨b, 3, none⟩) hb]; exact h3, by rw [hB.cell (p := ⟨b, 4, none⟩) hb]; exact h4⟩
theorem ix.kept {w w' : World} {b : Nat} (h : ix w b) (hb : b < w.heap.size) (hB : Below w.heap.size w w') : ix w' b := by
 obtain ⟨h0, h1, h2, h3, h4⟩ := h
 exact ⟨by rw [hB.frozen (p := ⟨b, 0, none⟩) hb]; exact h0, by rw [hB.frozen (p := ⟨b, 1, none⟩) hb]; exact h1, by rw [hB.frozen (p := ⟨b, 2, none⟩) hb]; exact h2, by rw [hB.frozen (p := ⟨b, 3, none⟩) hb]; exact h3, by rw [hB.frozen (p := ⟨b, 4, none⟩) hb]; exact h4⟩
theorem ec (w : World) (p q r s k : Int) (t : TypeId) : fD (w.alloc (.cells #[.int .i64 p, .int .i64 q, .int .i64 r, .int .i64 s, .int .i64 k] t)) w.heap.size p q r s k := by
 refine ⟨?_, ?_, ?_, ?_, ?_⟩ <;> simp
theorem fs (w : World) (p q r s k : Int) (t : TypeId) : ix (w.alloc (.cells #[.int .i64 p, .int .i64 q, .int .i64 r, .int .i64 s, .int .i64 k] t)) w.heap.size := by
 refine ⟨?_, ?_, ?_, ?_, ?_⟩ <;> simp
theorem fD.alloc {w : World} {b : Nat} {p q r s k : Int} (h : fD w b p q r s k) (o : Obj) : fD (w.alloc o) b p q r s k := h.kept (an _ _)
end
section
open Go.RowKit Go.Sort
theorem oI {a b c d : Int} (h : (inT 1000 a b c d && !hU a b c d) = false) : Value.agg #[.int .i64 (ofP a b c d a), .int .i64 (ofP a b c d b), .int .i64 (ofP a b c d c), .int .i64 (ofP a b c d d), .int .i64 (ofC a b c d)] = Value.agg #[.int .i64 0, .int .i64 0, .int .i64 0, .int .i64 0, .int .i64 1] := by
 unfold ofP
 rw [BO h]
 rfl
theorem sV {a b c d : Int} (h1 : inT 1000 a b c d = true) (h2 : hU a b c d = false) (h : aA (a.tdiv (sT a b c d)) (b.tdiv (sT a b c d)) (c.tdiv (sT a b c d)) (d.tdiv (sT a b c d)) = false) : Value.agg #[.int .i64 (ofP a b c d a), .int .i64 (ofP a b c d b), .int .i64 (ofP a b c d c), .int .i64 (ofP a b c d d), .int .i64 (ofC a b c d)] = Value.agg #[.int .i64 0, .int .i64 0, .int .i64 0, .int .i64 0, .int .i64 9] := by
 have e : ofC a b c d = 9 := by unfold ofC; rw [h1, h2, h]; rfl
 unfold ofP
 rw [e]
 rfl
theorem Cx {a b c d : Int} (h1 : inT 1000 a b c d = true) (h2 : hU a b c d = false) (h : aA (a.tdiv (sT a b c d)) (b.tdiv (sT a b c d)) (c.tdiv (sT a b c d)) (d.tdiv (sT a b c d)) = true) : Value.agg #[.int .i64 (ofP a b c d a), .int .i64 (ofP a b c d b), .int .i64 (ofP a b c d c), .int .i64 (ofP a b c d d), .int .i64 (ofC a b c d)] = Value.agg #[.int .i64 (a.tdiv (sT a b c d)), .int .i64 (b.tdiv (sT a b c d)), .int .i64 (c.tdiv (sT a b c d)), .int .i64 (d.tdiv (sT a b c d)), .int .i64 0] := by
 have e : ofC a b c d = 0 := by unfold ofC; rw [h1, h2, h]; rfl
 unfold ofP
 rw [e]
 rfl
theorem xR (a b c d : Int) (w : World) :
  Calls Tryz.prog 125 #[.int .i64 a, .int .i64 b, .int .i64 c, .int .i64 d] w fun e w' => e = .returned (.agg #[.int .i64 (ofP a b c d a), .int .i64 (ofP a b c d b), .int .i64 (ofP a b c d c), .int .i64 (ofP a b c d d), .int .i64 (ofC a b c d)]) ∧ Below w.heap.size w w' := by
 have he := fun w => mh a b c d 0 0 0 0 w
 cases hz : eqT a b c d 0 0 0 0
 ·rw [hz] at he
  have HZ := yz (show hU a b c d = false from hz)
  clear hz
  go_enter Tryz.func125, Tryz.ntmps125
  go_wp2_with fail
  refine (jZ 1000 a b c d _ (by omega) (by omega)).mono ?_
  rintro e w1 ⟨rfl, hB1⟩
  have vr : fD w1 w.heap.size 0 0 0 0 0 := ((ec w 0 0 0 0 0 _).alloc _).kept hB1
  have fr : ix w1 w.heap.size := ((fs w 0 0 0 0 0 _).kept (by simp) (an _ _)).kept (by simp; omega) hB1
  have va : aJ w1 (w.heap.size + 1) a b c d := (by simpa using aH (w.alloc _) a b c d _ : aJ _ (w.heap.size + 1) a b c d).kept (by simp) hB1
  have hB : Below w.heap.size w w1 := ak (aO _ _ _) hB1
  clear hB1 he
  cases hi : inT 1000 a b c d
  ·have HR := yz (oI (a := a) (b := b) (c := c) (d := d) (by rw [hi]; rfl))
   obtain ⟨cr0, cr1, cr2, cr3, cr4⟩ := vr
   obtain ⟨fr0, fr1, fr2, fr3, fr4⟩ := fr
   go_wp2_with fail
   exact bodyPost_ret (v := .agg #[.int .i64 0, .int .i64 0, .int .i64 0, .int .i64 0, .int .i64 1]) (by simp [results, Tryz.results125, go_sem, cr0, cr1, cr2, cr3, cr4]) rfl ⟨by rw [yy HR], aW hB (by omega) _ _ _ _ _⟩
  ·have hva := va
   obtain ⟨ca0, ca1, ca2, ca3⟩ := va
   go_wp2_with fail
   refine (og a b c d _ hi (kv (yy HZ))).mono ?_
   rintro e w2 ⟨rfl, hB2⟩
   have hlt := vr.lt
   replace vr := vr.kept hB2
   replace fr := fr.kept hlt hB2
   replace hB := ak hB hB2
   clear hB2 hva ca0 ca1 ca2 ca3
   cases hr : aA (a.tdiv (sT a b c d)) (b.tdiv (sT a b c d)) (c.tdiv (sT a b c d)) (d.tdiv (sT a b c d))
   ·have HR := yz (sV hi (yy HZ) hr)
    generalize a.tdiv (sT a b c d) = p at hr ⊢
    generalize b.tdiv (sT a b c d) = q at hr ⊢
    generalize c.tdiv (sT a b c d) = r at hr ⊢
    generalize d.tdiv (sT a b c d) = s at hr ⊢
    have vr1 := vr.alloc (.cells #[.int .i64 p, .int .i64 q, .int .i64 r, .int .i64 s] 32)
    have fr1 := fr.kept vr.lt (an w2 (.cells #[.int .i64 p, .int .i64 q, .int .i64 r, .int .i64 s] 32))
    have hB1 := hB.alloc (Nat.le_of_lt (vr.lt)) (.cells #[.int .i64 p, .int .i64 q, .int .i64 r, .int .i64 s] 32)
    go_wp2_with fail
    refine (bj p q r s _).mono ?_
    rintro e w3 ⟨rfl, hB3⟩
    rw [hr]
    have hlt := vr1.lt
    replace vr := vr1.kept hB3
    replace fr := fr1.kept hlt hB3
    replace hB := ak hB1 hB3
    clear hB3 vr1 fr1 hB1
    obtain ⟨cr0, cr1, cr2, cr3, cr4⟩ := vr
    obtain ⟨fr0, fr1, fr2, fr3, fr4⟩ := fr
    go_wp2_with fail
    exact bodyPost_ret (v := .agg #[.int .i64 0, .int .i64 0, .int .i64 0, .int .i64 0, .int .i64 9]) (by simp [results, Tryz.results125, go_sem, cr0, cr1, cr2, cr3, cr4]) rfl ⟨by rw [yy HR], aW hB (by omega) _ _ _ _ _⟩
   ·have HR := yz (Cx hi (yy HZ) hr)
    generalize a.tdiv (sT a b c d) = p at hr HR ⊢
    generalize b.tdiv (sT a b c d) = q at hr HR ⊢
    generalize c.tdiv (sT a b c d) = r at hr HR ⊢
    generalize d.tdiv (sT a b c d) = s at hr HR ⊢
    have vr1 := vr.alloc (.cells #[.int .i64 p, .int .i64 q, .int .i64 r, .int .i64 s] 32)
    have fr1 := fr.kept vr.lt (an w2 (.cells #[.int .i64 p, .int .i64 q, .int .i64 r, .int .i64 s] 32))
    have vt1 := aH w2 p q r s 32
    have hB1 := hB.alloc (Nat.le_of_lt (vr.lt)) (.cells #[.int .i64 p, .int .i64 q, .int .i64 r, .int .i64 s] 32)
    go_wp2_with fail
    refine (bj p q r s _).mono ?_
    rintro e w3 ⟨rfl, hB3⟩
    rw [hr]
    have hlt := vr1.lt
    replace vr := vr1.kept hB3
    replace fr := fr1.kept hlt hB3
    have vt := vt1.kept vt1.lt hB3
    replace hB := ak hB1 hB3
    clear hB3 vr1 fr1 hB1 vt1
    obtain ⟨cr0, cr1, cr2, cr3, cr4⟩ := vr
    obtain ⟨fr0, fr1, fr2, fr3, fr4⟩ := fr
    obtain ⟨ct0, ct1, ct2, ct3⟩ := vt
    go_wp2_with fail
    exact bodyPost_ret (v := .agg #[.int .i64 p, .int .i64 q, .int .i64 r, .int .i64 s, .int .i64 0]) (by simp [results, Tryz.results125, go_sem, cr0, cr1, cr2, cr3, cr4]) rfl ⟨by rw [yy HR], aW hB (by omega) _ _ _ _ _⟩
 ·rw [hz] at he
  have HR := yz (oI (a := a) (b := b) (c := c) (d := d) (by rw [show hU a b c d = true from hz]; simp))
  go_enter Tryz.func125, Tryz.ntmps125
  go_wp2_with fail
  exact bodyPost_ret (v := .agg #[.int .i64 0, .int .i64 0, .int .i64 0, .int .i64 0, .int .i64 1]) (by simp [results, Tryz.results125, go_sem]) rfl ⟨by rw [yy HR], aO _ _ _⟩
theorem ED {a b c d : Int} (h : inT 1000 a b c d = true) (g : Int) (hg : g = sT a b c d) : wrap64 (a.tdiv g) = a.tdiv (sT a b c d) ∧ wrap64 (b.tdiv g) = b.tdiv (sT a b c d) ∧ wrap64 (c.tdiv g) = c.tdiv (sT a b c d) ∧ wrap64 (d.tdiv g) = d.tdiv (sT a b c d) := by
 subst hg
 obtain ⟨x1, x2, x3, x4⟩ := bR.1 h
 have key : ∀ (x s : Int), -1000 ≤ x ∧ x ≤ 1000 → wrap64 (x.tdiv s) = x.tdiv s := fun x s hx => by have := yB (s := s) hx; exact aq (by omega) (by omega)
 exact ⟨key _ _ x1, key _ _ x2, key _ _ x3, key _ _ x4⟩
theorem zg (a b c d : Int) (w : World) (h : inT 1000 a b c d = true) (hz : hU a b c d = false) :
  Calls Tryz.prog 112 #[.agg #[.int .i64 a, .int .i64 b, .int .i64 c, .int .i64 d]] w fun e w' => e = .returned (.agg #[.int .i64 (ofP a b c d a), .int .i64 (ofP a b c d b), .int .i64 (ofP a b c d c), .int .i64 (ofP a b c d d), .int .i64 (ofC a b c d)]) ∧ Below w.heap.size w w' := by
 have HI := yz h
 have HZ := yz hz
 have HN : Hid (sT a b c d ≠ 0) := yz (DO (kv hz))
 have HW := yz (ED h)
 have hw : wrap64 (-gT a b c d) = -gT a b c d := by have := mZ h 4; rw [show gS4 a b c d 4 = gT a b c d from oY a b c d] at this; exact aq (by omega) (by omega)
 clear h hz
 go_enter Tryz.func112, Tryz.ntmps112
 go_wp2_with fail
 refine (qD a b c d _ (yy HI)).mono ?_
 rintro e w1 ⟨rfl, hB1⟩
 have va : aJ w1 w.heap.size a b c d := ((aH w a b c d _).alloc _).kept (by simp; omega) hB1
 have vr : fD w1 (w.heap.size + 1) 0 0 0 0 0 := (by simpa using ec (w.alloc _) 0 0 0 0 0 _ : fD _ (w.heap.size + 1) 0 0 0 0 0).kept hB1
 have fr : ix w1 (w.heap.size + 1) := (by simpa using fs (w.alloc _) 0 0 0 0 0 _ : ix _ (w.heap.size + 1)).kept (by simp) hB1
 have hB : Below w.heap.size w w1 := ak (aO _ _ _) hB1
 clear hB1
 have hva := va
 obtain ⟨ca0, ca1, ca2, ca3⟩ := va
 go_wp2_with fail
 refine (jz a b c d _).mono ?_
 rintro e w2 ⟨rfl, hB2⟩
 have hlt := vr.lt
 have va := hva.kept hva.lt hB2
 replace vr := vr.kept hB2
 replace fr := fr.kept hlt hB2
 replace hB := ak hB hB2
 clear hB2 hva ca0 ca1 ca2 ca3 hlt
 by_cases hf : fT a b c d < 0
 ·have hs : sT a b c d = -gT a b c d := by unfold sT; rw [if_pos hf]
  have HG := yz hs.symm
  rw [hs] at HN
  have va2 := va.alloc (.cells #[.int .i64 0, .int .i64 0, .int .i64 0, .int .i64 0] 32)
  obtain ⟨ca0, ca1, ca2, ca3⟩ := va
  obtain ⟨cb0, cb1, cb2, cb3⟩ := va2
  go_wp2_with fail
  rw [hw]
  generalize -gT a b c d = g at HN HG ⊢
  clear hw hs hf
  have hne : g ≠ 0 := yy HN
  have hz0 : (g == 0) = false := by simpa using hne
  go_region
  go_wp2_with fail
  obtain ⟨e1, e2, e3, e4⟩ := yy HW g (yy HG)
  rw [e1, e2, e3, e4]
  clear e1 e2 e3 e4 HW cb0 cb1 cb2 cb3 ca0 ca1 ca2 ca3
  cases hr : aA (a.tdiv (sT a b c d)) (b.tdiv (sT a b c d)) (c.tdiv (sT a b c d)) (d.tdiv (sT a b c d))
  ·have HR := yz (sV (yy HI) (yy HZ) hr)
   generalize a.tdiv (sT a b c d) = p at hr ⊢
   generalize b.tdiv (sT a b c d) = q at hr ⊢
   generalize c.tdiv (sT a b c d) = r at hr ⊢
   generalize d.tdiv (sT a b c d) = s at hr ⊢
   have hx := (an w2 (.cells #[.int .i64 p, .int .i64 q, .int .i64 r, .int .i64 s] 32)).drew
   have hlt := vr.lt
   replace vr := vr.kept hx
   replace fr := fr.kept hlt hx
   replace hB := ak hB hx
   clear hx hlt
   refine (bf p q r s _).mono ?_
   rintro e w3 ⟨rfl, hB3⟩
   rw [hr]
   have hlt := vr.lt
   replace vr := vr.kept hB3
   replace fr := fr.kept hlt hB3
   replace hB := ak hB hB3
   clear hB3 hlt
   obtain ⟨cr0, cr1, cr2, cr3, cr4⟩ := vr
   obtain ⟨fr0, fr1, fr2, fr3, fr4⟩ := fr
   go_wp2_with fail
   exact bodyPost_ret (v := .agg #[.int .i64 0, .int .i64 0, .int .i64 0, .int .i64 0, .int .i64 9]) (by simp [results, Tryz.results112, go_sem, cr0, cr1, cr2, cr3, cr4]) rfl ⟨by rw [yy HR], aW hB (by omega) _ _ _ _ _⟩
  ·have HR := yz (Cx (yy HI) (yy HZ) hr)
   generalize a.tdiv (sT a b c d) = p at hr HR ⊢
   generalize b.tdiv (sT a b c d) = q at hr HR ⊢
   generalize c.tdiv (sT a b c d) = r at hr HR ⊢
   generalize d.tdiv (sT a b c d) = s at hr HR ⊢
   have hx := (an w2 (.cells #[.int .i64 p, .int .i64 q, .int .i64 r, .int .i64 s] 32)).drew
   have hlt := vr.lt
   have vt1 : aJ (w2.alloc (.cells #[.int .i64 p, .int .i64 q, .int .i64 r, .int .i64 s] 32)).drew w2.heap.size p q r s := aH w2 p q r s _
   replace vr := vr.kept hx
   replace fr := fr.kept hlt hx
   replace hB := ak hB hx
   clear hx hlt
   refine (bf p q r s _).mono ?_
   rintro e w3 ⟨rfl, hB3⟩
   rw [hr]
   have hlt := vr.lt
   replace vr := vr.kept hB3
   replace fr := fr.kept hlt hB3
   replace vt1 := vt1.kept vt1.lt hB3
   obtain ⟨ct0, ct1, ct2, ct3⟩ := vt1
   replace hB := ak hB hB3
   clear hB3 hlt
   obtain ⟨cr0, cr1, cr2, cr3, cr4⟩ := vr
   obtain ⟨fr0, fr1, fr2, fr3, fr4⟩ := fr
   go_wp2_with fail
   exact bodyPost_ret (v := .agg #[.int .i64 p, .int .i64 q, .int .i64 r, .int .i64 s, .int .i64 0]) (by simp [results, Tryz.results112, go_sem, cr0, cr1, cr2, cr3, cr4]) rfl ⟨by rw [yy HR], aW hB (by omega) _ _ _ _ _⟩
 ·have hs : sT a b c d = gT a b c d := by unfold sT; rw [if_neg hf]
  have HG := yz hs.symm
  rw [hs] at HN
  have va2 := va.alloc (.cells #[.int .i64 0, .int .i64 0, .int .i64 0, .int .i64 0] 32)
  obtain ⟨ca0, ca1, ca2, ca3⟩ := va
  obtain ⟨cb0, cb1, cb2, cb3⟩ := va2
  go_wp2_with fail
  generalize gT a b c d = g at HN HG ⊢
  clear hw hs hf
  have hne : g ≠ 0 := yy HN
  have hz0 : (g == 0) = false := by simpa using hne
  go_region
  go_wp2_with fail
  obtain ⟨e1, e2, e3, e4⟩ := yy HW g (yy HG)
  rw [e1, e2, e3, e4]
  clear e1 e2 e3 e4 HW cb0 cb1 cb2 cb3 ca0 ca1 ca2 ca3
  cases hr : aA (a.tdiv (sT a b c d)) (b.tdiv (sT a b c d)) (c.tdiv (sT a b c d)) (d.tdiv (sT a b c d))
  ·have HR := yz (sV (yy HI) (yy HZ) hr)
   generalize a.tdiv (sT a b c d) = p at hr ⊢
   generalize b.tdiv (sT a b c d) = q at hr ⊢
   generalize c.tdiv (sT a b c d) = r at hr ⊢
   generalize d.tdiv (sT a b c d) = s at hr ⊢
   have hx := (an w2 (.cells #[.int .i64 p, .int .i64 q, .int .i64 r, .int .i64 s] 32)).drew
   have hlt := vr.lt
   replace vr := vr.kept hx
   replace fr := fr.kept hlt hx
   replace hB := ak hB hx
   clear hx hlt
   refine (bf p q r s _).mono ?_
   rintro e w3 ⟨rfl, hB3⟩
   rw [hr]
   have hlt := vr.lt
   replace vr := vr.kept hB3
   replace fr := fr.kept hlt hB3
   replace hB := ak hB hB3
   clear hB3 hlt
   obtain ⟨cr0, cr1, cr2, cr3, cr4⟩ := vr
   obtain ⟨fr0, fr1, fr2, fr3, fr4⟩ := fr
   go_wp2_with fail
   exact bodyPost_ret (v := .agg #[.int .i64 0, .int .i64 0, .int .i64 0, .int .i64 0, .int .i64 9]) (by simp [results, Tryz.results112, go_sem, cr0, cr1, cr2, cr3, cr4]) rfl ⟨by rw [yy HR], aW hB (by omega) _ _ _ _ _⟩
  ·have HR := yz (Cx (yy HI) (yy HZ) hr)
   generalize a.tdiv (sT a b c d) = p at hr HR ⊢
   generalize b.tdiv (sT a b c d) = q at hr HR ⊢
   generalize c.tdiv (sT a b c d) = r at hr HR ⊢
   generalize d.tdiv (sT a b c d) = s at hr HR ⊢
   have hx := (an w2 (.cells #[.int .i64 p, .int .i64 q, .int .i64 r, .int .i64 s] 32)).drew
   have hlt := vr.lt
   have vt1 : aJ (w2.alloc (.cells #[.int .i64 p, .int .i64 q, .int .i64 r, .int .i64 s] 32)).drew w2.heap.size p q r s := aH w2 p q r s _
   replace vr := vr.kept hx
   replace fr := fr.kept hlt hx
   replace hB := ak hB hx
   clear hx hlt
   refine (bf p q r s _).mono ?_
   rintro e w3 ⟨rfl, hB3⟩
   rw [hr]
   have hlt := vr.lt
   replace vr := vr.kept hB3
   replace fr := fr.kept hlt hB3
   replace vt1 := vt1.kept vt1.lt hB3
   obtain ⟨ct0, ct1, ct2, ct3⟩ := vt1
   replace hB := ak hB hB3
   clear hB3 hlt
   obtain ⟨cr0, cr1, cr2, cr3, cr4⟩ := vr
   obtain ⟨fr0, fr1, fr2, fr3, fr4⟩ := fr
   go_wp2_with fail
   exact bodyPost_ret (v := .agg #[.int .i64 p, .int .i64 q, .int .i64 r, .int .i64 s, .int .i64 0]) (by simp [results, Tryz.results112, go_sem, cr0, cr1, cr2, cr3, cr4]) rfl ⟨by rw [yy HR], aW hB (by omega) _ _ _ _ _⟩
theorem pq (a b c d : Int) (w : World) :
  Calls Tryz.prog 83 #[.int .i64 a, .int .i64 b, .int .i64 c, .int .i64 d] w fun e w' => e = .returned (.agg #[.int .i64 (ofP a b c d a), .int .i64 (ofP a b c d b), .int .i64 (ofP a b c d c), .int .i64 (ofP a b c d d), .int .i64 (ofC a b c d)]) ∧ Below w.heap.size w w' := by
 go_enter Tryz.func83, Tryz.ntmps83
 go_wp2_with fail
 refine (le 1000 a b c d _ (by omega) (by omega)).mono ?_
 rintro e w1 ⟨rfl, hB1⟩
 have vr : fD w1 w.heap.size 0 0 0 0 0 := ((ec w 0 0 0 0 0 _).alloc _).kept hB1
 have fr : ix w1 w.heap.size := ((fs w 0 0 0 0 0 _).kept (by simp) (an _ _)).kept (by simp; omega) hB1
 have va : aJ w1 (w.heap.size + 1) a b c d := (by simpa using aH (w.alloc _) a b c d _ : aJ _ (w.heap.size + 1) a b c d).kept (by simp) hB1
 have hB : Below w.heap.size w w1 := ak (aO _ _ _) hB1
 clear hB1
 cases hi : inT 1000 a b c d
 ·have HR := yz (oI (a := a) (b := b) (c := c) (d := d) (by rw [hi]; rfl))
  obtain ⟨cr0, cr1, cr2, cr3, cr4⟩ := vr
  obtain ⟨fr0, fr1, fr2, fr3, fr4⟩ := fr
  go_wp2_with fail
  exact bodyPost_ret (v := .agg #[.int .i64 0, .int .i64 0, .int .i64 0, .int .i64 0, .int .i64 1]) (by simp [results, Tryz.results83, go_sem, cr0, cr1, cr2, cr3, cr4]) rfl ⟨by rw [yy HR], aW hB (by omega) _ _ _ _ _⟩
 ·have hva := va
  obtain ⟨ca0, ca1, ca2, ca3⟩ := va
  go_wp2_with fail
  refine (jz a b c d _).mono ?_
  rintro e w2 ⟨rfl, hB2⟩
  have hlt := vr.lt
  replace vr := vr.kept hB2
  replace fr := fr.kept hlt hB2
  have va := hva.kept hva.lt hB2
  replace hB := ak hB hB2
  clear hB2 hva ca0 ca1 ca2 ca3 hlt
  by_cases hf : fT a b c d = 0
  ·have HR := yz (oI (a := a) (b := b) (c := c) (d := d) (by rw [iQ.2 (oH.1 hf)]; simp))
   rw [hf]
   obtain ⟨cr0, cr1, cr2, cr3, cr4⟩ := vr
   obtain ⟨fr0, fr1, fr2, fr3, fr4⟩ := fr
   go_wp2_with fail
   exact bodyPost_ret (v := .agg #[.int .i64 0, .int .i64 0, .int .i64 0, .int .i64 0, .int .i64 1]) (by simp [results, Tryz.results83, go_sem, cr0, cr1, cr2, cr3, cr4]) rfl ⟨by rw [yy HR], aW hB (by omega) _ _ _ _ _⟩
  ·have HZ : Hid (hU a b c d = false) := yz (by rw [← Bool.not_eq_true, iQ]; exact fun e => hf (oH.2 e))
   have hb : (fT a b c d == 0) = false := by simpa using hf
   clear hf
   obtain ⟨ca0, ca1, ca2, ca3⟩ := va
   go_wp2_with fail
   refine (zg a b c d _ hi (yy HZ)).mono ?_
   rintro e w3 ⟨rfl, hB3⟩
   have hlt := vr.lt
   replace vr := vr.kept hB3
   replace fr := fr.kept hlt hB3
   replace hB := ak hB hB3
   clear hB3 ca0 ca1 ca2 ca3 hlt
   obtain ⟨cr0, cr1, cr2, cr3, cr4⟩ := vr
   obtain ⟨fr0, fr1, fr2, fr3, fr4⟩ := fr
   go_wp2_with fail
   exact bodyPost_ret (v := .agg #[.int .i64 (ofP a b c d a), .int .i64 (ofP a b c d b), .int .i64 (ofP a b c d c), .int .i64 (ofP a b c d d), .int .i64 (ofC a b c d)]) (by simp [results, Tryz.results83, go_sem, cr0, cr1, cr2, cr3, cr4]) rfl ⟨rfl, aW hB (by omega) _ _ _ _ _⟩
end
end Go.Proofs.YtlleafjdgblhcaaGreatDoor
