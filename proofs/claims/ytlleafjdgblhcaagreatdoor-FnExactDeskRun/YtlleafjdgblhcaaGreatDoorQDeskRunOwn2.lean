/- Several texts in one: VecI, SkyB, SkyC, SkyD, SkyE, SkyF, SkyG, TurnMath, FrA. -/
import Derived.Lib.QuietBelow
import Derived.BigQuiet
import Derived.OwnWalk
import Derived.Laws.OwnMore
import Derived.Deep.QuietTactic
import Derived.Test.YtlleafjdgblhcaaGreatDoorQDeskRunOwn1
namespace Go.Proofs.YtlleafjdgblhcaaGreatDoor
set_option linter.unusedVariables false
set_option linter.unusedSimpArgs false
set_option maxRecDepth 100000
set_option maxHeartbeats 8000000
section
open Go.RowKit Go.Sort
theorem lB (x y z : Int) (w : World) :
  Calls Tryz.prog 169 #[.agg #[.int .i64 x, .int .i64 y, .int .i64 z]] w fun e w' => e = .returned (.int .i64 (bx x y z x y z)) ∧ Below w.heap.size w w' := by
 go_enter Tryz.func169, Tryz.ntmps169
 go_wp2_with fail
 refine (nC x y z x y z _).mono ?_
 rintro e w1 ⟨rfl, hB1⟩
 have hB : Below w.heap.size w w1 := ak (an _ _) hB1
 go_wp2_with fail
 go_ret
 exact ⟨rfl, hB⟩
theorem jv (x y z : Int) (w : World) :
  Calls Tryz.prog 148 #[.agg #[.int .i64 x, .int .i64 y, .int .i64 z]] w fun e w' => e = .returned (.bool (cz x y z)) ∧ Below w.heap.size w w' := by
 go_enter Tryz.func148, Tryz.ntmps148
 go_wp2_with fail
 refine (bZ x y z _).mono ?_
 rintro e w1 ⟨rfl, hB1⟩
 have hB : Below w.heap.size w w1 := ak (an _ _) hB1
 have va : aG w1 w.heap.size x y z := (aF w x y z _).kept (by simp) hB1
 clear hB1
 obtain ⟨ca0, ca1, ca2⟩ := va
 cases ha : ax x y z
 ·go_wp2_with fail
  go_ret
  exact ⟨by simp [cz, ha], hB⟩
 ·go_wp2_with fail
  refine (lJ 1800 x y z _ (by omega) (by omega)).mono ?_
  rintro e w2 ⟨rfl, hB2⟩
  replace hB := ak hB hB2
  go_wp2_with fail
  go_ret
  exact ⟨by simp [cz, ha], hB⟩
theorem fp (x y z : Int) (w : World) :
  Calls Tryz.prog 158 #[.agg #[.int .i64 x, .int .i64 y, .int .i64 z]] w fun e w' => e = .returned (.bool (aL x y z)) ∧ Below w.heap.size w w' := by
 go_enter Tryz.func158, Tryz.ntmps158
 go_wp2_with fail
 refine (bZ x y z _).mono ?_
 rintro e w1 ⟨rfl, hB1⟩
 have hB : Below w.heap.size w w1 := ak (an _ _) hB1
 have va : aG w1 w.heap.size x y z := (aF w x y z _).kept (by simp) hB1
 clear hB1
 obtain ⟨ca0, ca1, ca2⟩ := va
 cases ha : ax x y z
 ·go_wp2_with fail
  go_ret
  exact ⟨by simp [aL, ha], hB⟩
 ·go_wp2_with fail
  refine (lJ 10 x y z _ (by omega) (by omega)).mono ?_
  rintro e w2 ⟨rfl, hB2⟩
  replace hB := ak hB hB2
  go_wp2_with fail
  go_ret
  exact ⟨by simp [aL, ha], hB⟩
theorem pD (n : Int) (w : World) :
  Calls Tryz.prog 197 #[.int .i64 n] w fun e w' => e = .returned (.int .i64 (oq n)) ∧ w' = w := by
 by_cases h : n < 0
 ·have HS := yz (show oq n = wrap64 (wrap64 (-n) * n) by unfold oq; rw [if_pos h])
  go_enter Tryz.func197, Tryz.ntmps197
  go_wp2
  go_ret
  exact ⟨by rw [yy HS]; rfl, rfl⟩
 ·have HS := yz (show oq n = wrap64 (n * n) by unfold oq; rw [if_neg h])
  go_enter Tryz.func197, Tryz.ntmps197
  go_wp2
  go_ret
  exact ⟨by rw [yy HS]; rfl, rfl⟩
theorem ng (a b : Int) (w : World) :
  Calls Tryz.prog 193 #[.int .i64 a, .int .i64 b] w fun e w' => e = .returned (.int .i64 (gB a b)) ∧ w' = w := by
 by_cases h : a < b
 ·have HS := yz (show gB a b = -1 by unfold gB; rw [if_pos h])
  go_enter Tryz.func193, Tryz.ntmps193
  go_wp2
  go_ret
  exact ⟨by rw [yy HS]; rfl, rfl⟩
 ·by_cases h2 : b < a
  ·have HS := yz (show gB a b = 1 by unfold gB; rw [if_neg h, if_pos h2])
   go_enter Tryz.func193, Tryz.ntmps193
   go_wp2
   go_ret
   exact ⟨by rw [yy HS]; rfl, rfl⟩
  ·have HS := yz (show gB a b = 0 by unfold gB; rw [if_neg h, if_neg h2])
   go_enter Tryz.func193, Tryz.ntmps193
   go_wp2
   go_ret
   exact ⟨by rw [yy HS]; rfl, rfl⟩
theorem nR (a1 a2 a3 b1 b2 b3 : Int) (w : World) :
  Calls Tryz.prog 198 #[.func (.func 169) #[.agg #[.int .i64 a1, .int .i64 a2, .int .i64 a3]] #[], .func (.func 169) #[.agg #[.int .i64 b1, .int .i64 b2, .int .i64 b3]] #[]] w fun e w' => e = .returned (.int .i64 (wrap64 (bx a1 a2 a3 a1 a2 a3 * bx b1 b2 b3 b1 b2 b3))) ∧ Below w.heap.size w w' := by
 go_enter Tryz.func198, Tryz.ntmps198
 go_wp2_with fail
 refine (lB a1 a2 a3 _).mono ?_
 rintro e w1 ⟨rfl, hB1⟩
 go_wp2_with fail
 refine (lB b1 b2 b3 _).mono ?_
 rintro e w2 ⟨rfl, hB2⟩
 go_wp2_with fail
 go_ret
 exact ⟨rfl, ak hB1 hB2⟩
theorem fm {x y z : Int} (h : cz x y z = true) : ax x y z = true ∧ aK 1800 x y z = true := by simpa [cz] using h
theorem eE {x y z : Int} (h : aL x y z = true) : ax x y z = true ∧ aK 10 x y z = true := by simpa [aL] using h
theorem Ep {a1 a2 a3 b1 b2 b3 c1 c2 c3 d1 d2 d3 : Int} (ha : cz a1 a2 a3 = true) (hb : cz b1 b2 b3 = true) (hc : aL c1 c2 c3 = true) (hd : aL d1 d2 d3 = true) :
  nB a1 a2 a3 b1 b2 b3 c1 c2 c3 d1 d2 d3 = gB (wrap64 (oq (sS a1 a2 a3 b1 b2 b3) * wrap64 (bx c1 c2 c3 c1 c2 c3 * bx d1 d2 d3 d1 d2 d3))) (wrap64 (oq (sS c1 c2 c3 d1 d2 d3) * wrap64 (bx a1 a2 a3 a1 a2 a3 * bx b1 b2 b3 b1 b2 b3))) := by
 have h := Bv (fm ha).2 (fm hb).2 (eE hc).2 (eE hd).2
 unfold nB sS
 rw [(fm ha).1, (fm hb).1, (eE hc).1, (eE hd).1, ha, hb, hc, hd, if_pos (by rfl), if_pos (by rfl), if_pos (by rfl), h.1, h.2]
end
section
open Go.RowKit
def mW (w : World) (b o : Nat) (s : St) : Prop := w.cell? ⟨b, o, none⟩ = some (.int .i64 s.1) ∧ w.cell? ⟨b, o + 1, none⟩ = some (.int .i64 s.2.1) ∧ w.cell? ⟨b, o + 2, none⟩ = some (.int .i64 s.2.2.1) ∧ w.cell? ⟨b, o + 3, none⟩ = some (.int .i64 s.2.2.2)
def aR (w : World) (a : Option Addr) (L : List St) (n : Nat) : Prop := n = 0 ∨ ∃ b o, a = some ⟨b, o, none⟩ ∧ b < w.heap.size ∧ ∀ i, i < n → mW w b (o + i * 4) (stA L i)
theorem mW.kept {w w' : World} {b o : Nat} {s : St} (h : mW w b o s) (hb : b < w.heap.size) (hB : Below w.heap.size w w') : mW w' b o s := by
 obtain ⟨h0, h1, h2, h3⟩ := h
 exact ⟨by rw [hB.cell (p := ⟨b, o, none⟩) hb]; exact h0, by rw [hB.cell (p := ⟨b, o + 1, none⟩) hb]; exact h1, by rw [hB.cell (p := ⟨b, o + 2, none⟩) hb]; exact h2, by rw [hB.cell (p := ⟨b, o + 3, none⟩) hb]; exact h3⟩
theorem aR.kept {w w' : World} {a : Option Addr} {L : List St} {n : Nat} (h : aR w a L n) (hB : Below w.heap.size w w') : aR w' a L n := by
 rcases h with h | ⟨b, o, ha, hb, hc⟩
 ·exact .inl h
 ·exact .inr ⟨b, o, ha, Nat.lt_of_lt_of_le hb hB.size, fun i hi => (hc i hi).kept hb hB⟩
theorem vlt {w : World} {b : Nat} {x y z : Int} (h : aG w b x y z) : b < w.heap.size := World.block_lt_of_cell? w _ h.1
theorem aR.less {w : World} {a : Option Addr} {L : List St} {n m : Nat} (h : aR w a L n) (hm : m ≤ n) : aR w a L m := by
 rcases h with h | ⟨b, o, ha, hb, hc⟩
 ·exact .inl (by omega)
 ·exact .inr ⟨b, o, ha, hb, fun i hi => hc i (by omega)⟩
theorem od (L : List St) (n : Nat) (x y z : Int) (a : Option Addr) (c : Nat) (w : World) (hn : n ≤ 1048576) (hS : aR w a L n) :
  Calls Tryz.prog 159 #[.agg #[.int .i64 x, .int .i64 y, .int .i64 z], .slice a n c] w fun e w' => e = .returned (.bool (ey L (0, x, y, z) n)) ∧ Below w.heap.size w w' := by
 rcases hS with rfl | ⟨b, o, rfl, hb, hc⟩
 ·go_enter Tryz.func159, Tryz.ntmps159
  go_wp2_with fail
  refine wp_loop_rounds 1 ?_
  rw [rounds_succ]
  go_wp2_with fail
  go_ret
  exact ⟨rfl, an _ _⟩
 ·have HC := yz hc
  clear hc
  have V0 := yz (aF w x y z 58)
  have B0 := yz (an w (.cells #[.int .i64 x, .int .i64 y, .int .i64 z] 58))
  go_enter Tryz.func159, Tryz.ntmps159
  go_wp2_with fail
  go_loopw [9] (fun i wr => ∃ k : Nat, k ≤ n ∧ i = .int .i64 k ∧ Hid (nt L (0, x, y, z) k) ∧ Hid (Below w.heap.size w wr) ∧ Hid (aG wr w.heap.size x y z)) (fun i _ => n - (intOf i).toNat)
  case atStart => exact ⟨0, by omega, rfl, yz (fun j hj => absurd hj (Nat.not_lt_zero _)), B0, V0⟩
  case round =>
   obtain ⟨k, hk, rfl, HF, HB, HV⟩ := hrel
   by_cases hkn : k < n
   ·obtain ⟨⟨s1, s2, s3, s4⟩, hs⟩ : ∃ s, stA L k = s := ⟨_, rfl⟩
    have hst := ((yy HC) k hkn).kept hb (yy HB)
    rw [hs] at hst
    obtain ⟨c0, c1, c2, c3⟩ := hst
    have HS := yz hs
    clear hs
    have V1 := yz (aG.alloc (yy HV) (vlt (yy HV)) (.cells #[.int .i64 s1, .int .i64 s2, .int .i64 s3, .int .i64 s4] 60))
    have B1 := yz ((yy HB).alloc (yy HB).size (.cells #[.int .i64 s1, .int .i64 s2, .int .i64 s3, .int .i64 s4] 60))
    obtain ⟨v0, v1, v2⟩ := yy V1
    go_wp2_with fail
    refine (iz x y z s2 s3 s4 _).mono ?_
    rintro e w2 ⟨rfl, hx⟩
    have HV2 := yz ((yy V1).kept (vlt (yy V1)) hx)
    have HB2 := yz (ak (yy B1) hx)
    clear hx c0 c1 c2 c3 v0 v1 v2 V1 B1 HB HV
    have HR : Hid (nY (0, x, y, z) (stA L k) = dB x y z s2 s3 s4) := yz (by rw [yy HS]; rfl)
    cases hq : dB x y z s2 s3 s4
    ·rw [hq] at HR
     go_wp2_with fail
     go_roundw
     case rel => exact ⟨k + 1, by omega, by go_num, yz (rC (yy HF) (yy HR)), HB2, HV2⟩
     case measure => simp [intOf]; omega
    ·rw [hq] at HR
     go_wp2_with fail
     go_ret
     exact ⟨by rw [rP hkn (yy HR)]; rfl, yy HB2⟩
   ·have hkn' : k = n := by omega
    subst hkn'
    go_wp2_with fail
    go_ret
    exact ⟨by rw [pv (yy HF)]; rfl, yy HB⟩
end
section
open Go.RowKit Go.Sort
def BF : ByteArray := ⟨#[97, 110, 32, 73, 100, 32, 105, 115, 32, 110, 111, 116, 32, 49, 32, 116, 111, 32, 57, 57, 57, 57]⟩
def DE : ByteArray := ⟨#[116, 104, 101, 32, 73, 100, 115, 32, 97, 114, 101, 32, 110, 111, 116, 32, 114, 105, 115, 105, 110, 103]⟩
def vM : ByteArray := ⟨#[97, 32, 115, 116, 97, 114, 32, 105, 115, 32, 97, 116, 32, 110, 111, 32, 115, 109, 97, 108, 108, 32, 100, 105, 114, 101, 99, 116, 105, 111, 110, 32, 116, 104, 97, 116, 32, 105, 115, 32, 105, 116, 115, 32, 111, 119, 110, 32, 112, 114, 105, 109, 101]⟩
def xh : ByteArray := ⟨#[116, 119, 111, 32, 115, 116, 97, 114, 115, 32, 97, 114, 101, 32, 116, 104, 101, 32, 115, 97, 109, 101, 32, 119, 97, 121]⟩
def yJ : ByteArray := ⟨#[116, 104, 101, 114, 101, 32, 97, 114, 101, 32, 116, 111, 111, 32, 109, 97, 110, 121, 32, 115, 116, 97, 114, 115]⟩
def ej (why : ByteArray) : Value := .iface 194 (.agg #[.string why])
def fN (L : List St) (i : Nat) : Value :=
 if idB (stA L i).1 = false then ej BF else if upB L i = false then ej DE
 else if (aL (stA L i).2.1 (stA L i).2.2.1 (stA L i).2.2.2 && eV (stA L i).2.1 (stA L i).2.2.1 (stA L i).2.2.2) = false then ej vM
 else if ey L (stA L i) i = true then ej xh else .nilIface
theorem Dx {L : List St} {i : Nat} (h : em L i = true) : fN L i = .nilIface := by
 unfold em at h
 simp only [Bool.and_eq_true, Bool.not_eq_true'] at h
 obtain ⟨⟨⟨h1, h2⟩, h3, h4⟩, h5⟩ := h
 unfold fN
 simp [h1, h2, h3, h4, h5]
theorem yl {L : List St} {i : Nat} (h : em L i = false) : ∃ why, fN L i = ej why := by
 unfold fN
 split
 ·exact ⟨_, rfl⟩
 ·split
  ·exact ⟨_, rfl⟩
  ·split
   ·exact ⟨_, rfl⟩
   ·split
    ·exact ⟨_, rfl⟩
    ·rename_i h1 h2 h3 h4
     exfalso
     simp only [Bool.not_eq_false, Bool.not_eq_true] at h1 h2 h3 h4
     unfold em at h
     rw [h1, h2, h3, h4] at h
     simp at h
theorem fk (w : World) (s : St) (t : TypeId) : mW (w.alloc (.cells #[.int .i64 s.1, .int .i64 s.2.1, .int .i64 s.2.2.1, .int .i64 s.2.2.2] t)) w.heap.size 0 s := by
 refine ⟨?_, ?_, ?_, ?_⟩ <;> simp
theorem qZ (L : List St) (i : Nat) (s1 s2 s3 s4 : Int) (a : Option Addr) (c : Nat) (w : World) (hi : i ≤ 1048576) (hs : stA L i = (s1, s2, s3, s4)) (hS : aR w a L i) :
  Calls Tryz.prog 144 #[.agg #[.int .i64 s1, .int .i64 s2, .int .i64 s3, .int .i64 s4], .slice a i c] w fun e w' => e = .returned (fN L i) ∧ Below w.heap.size w w' := by
 have HS := yz hs
 clear hs
 have HA := yz hS
 clear hS
 have HB := yz (an w (.cells #[.int .i64 s1, .int .i64 s2, .int .i64 s3, .int .i64 s4] 60))
 have HN := yz (fk w (s1, s2, s3, s4) 60)
 by_cases h1 : s1 < 1
 ·have HO : Hid (fN L i = ej BF) := yz (by unfold fN; rw [if_pos (by rw [yy HS]; unfold idB; simp; omega)])
  go_enter Tryz.func144, Tryz.ntmps144
  go_wp2
  go_ret
  exact ⟨by rw [yy HO]; rfl, yy HB⟩
 by_cases h2 : 9999 < s1
 ·have HO : Hid (fN L i = ej BF) := yz (by unfold fN; rw [if_pos (by rw [yy HS]; unfold idB; simp; omega)])
  go_enter Tryz.func144, Tryz.ntmps144
  go_wp2
  go_ret
  exact ⟨by rw [yy HO]; rfl, yy HB⟩
 have K0 : Hid (¬ idB (stA L i).1 = false) := yz (by rw [yy HS]; unfold idB; simp; omega)
 by_cases hu : upB L i = false
 ·have HO : Hid (fN L i = ej DE) := yz (by unfold fN; rw [if_neg (yy K0), if_pos hu])
  obtain ⟨j, rfl⟩ : ∃ j, i = j + 1 := ⟨i - 1, by unfold upB at hu; simp at hu; omega⟩
  obtain ⟨⟨p1, p2, p3, p4⟩, hp⟩ : ∃ s, stA L j = s := ⟨_, rfl⟩
  have hle : s1 ≤ p1 := by unfold upB at hu; rw [yy HS] at hu; simp [hp] at hu; omega
  rcases yy HA with h0 | ⟨b, o, rfl, hb, hc⟩
  ·omega
  have hst := (hc j (by omega)).kept hb (yy HB)
  rw [hp] at hst
  obtain ⟨c0, _, _, _⟩ := hst
  have hj1 : (j : Int) + 1 - 1 = (j : Int) := by omega
  have hj2 : (0 : Int) < (j : Int) + 1 := by omega
  clear hu hp hc
  go_enter Tryz.func144, Tryz.ntmps144
  go_wp2_with fail
  go_quiet (fail)
  go_wp2_with fail
  go_ret
  exact ⟨by rw [yy HO]; rfl, ak (yy HB) (dg _ _)⟩
 have K1 := yz hu
 clear hu
 rcases Nat.eq_zero_or_pos i with hi0 | hi0
 ·subst hi0
  go_enter Tryz.func144, Tryz.ntmps144
  go_wp2_with fail
  go_quiet (fail)
  go_wp2_with fail
  have hx := ak (yy HB) (dg (w.alloc (.cells #[.int .i64 s1, .int .i64 s2, .int .i64 s3, .int .i64 s4] 60)) nq)
  have hn' := (yy HN).kept (by simp) (dg _ nq)
  generalize (w.alloc (.cells #[.int .i64 s1, .int .i64 s2, .int .i64 s3, .int .i64 s4] 60)).drewN nq = W1 at hx hn' ⊢
  have HB1 := yz hx
  have HN1 := yz hn'
  clear hx hn' HB HN
  obtain ⟨_, c1, c2, c3⟩ := yy HN1
  simp only [Nat.zero_add] at c1 c2 c3
  have r1 := cell_regrown c1
  have r2 := cell_regrown c2
  have r3 := cell_regrown c3
  clear c1 c2 c3
  cases hsm : aL s2 s3 s4
  ·have HO : Hid (fN L 0 = ej vM) := yz (by unfold fN; rw [if_neg (yy K0), if_neg (yy K1), if_pos (by rw [yy HS]; simp [hsm])])
   have cS : Hid (∀ W : World, Calls Tryz.prog 158 #[.agg #[.int .i64 s2, .int .i64 s3, .int .i64 s4]] W fun e w' => e = .returned (.bool false) ∧ Below W.heap.size W w') := yz (fun W => (fp s2 s3 s4 W).mono fun e w' h => ⟨by rw [h.1, hsm], h.2⟩)
   clear hsm
   refine wp_region_quiet_below (by kernel_rfl) (by kernel_rfl) ?_
   repeat (quiet_step (first | (with_reducible exact Calls.regrown_of (yy cS _))))
   refine wpQuiet_nil ?_
   intro _ hw'
   obtain ⟨⟨dq, osq⟩, hw''⟩ := hw'
   subst hw''
   have hx := ak (yy HB1) (below_regrown W1 dq osq)
   go_wp2_with fail
   go_ret
   exact ⟨by rw [yy HO]; rfl, hx⟩
  ·have cS : Hid (∀ W : World, Calls Tryz.prog 158 #[.agg #[.int .i64 s2, .int .i64 s3, .int .i64 s4]] W fun e w' => e = .returned (.bool true) ∧ Below W.heap.size W w') := yz (fun W => (fp s2 s3 s4 W).mono fun e w' h => ⟨by rw [h.1, hsm], h.2⟩)
   have cP := yz (fun W => nA s2 s3 s4 W)
   have hq := fun W => kS s2 s3 s4 (prI (ax s2 s3 s4) (gI s2 s3 s4) s2) (prI (ax s2 s3 s4) (gI s2 s3 s4) s3) (prI (ax s2 s3 s4) (gI s2 s3 s4) s4) W
   have hq2 : eqB s2 s3 s4 (prI (ax s2 s3 s4) (gI s2 s3 s4) s2) (prI (ax s2 s3 s4) (gI s2 s3 s4) s3) (prI (ax s2 s3 s4) (gI s2 s3 s4) s4) = eV s2 s3 s4 := rfl
   rw [hq2] at hq
   clear hq2
   generalize prI (ax s2 s3 s4) (gI s2 s3 s4) s2 = t2 at cP hq
   generalize prI (ax s2 s3 s4) (gI s2 s3 s4) s3 = t3 at cP hq
   generalize prI (ax s2 s3 s4) (gI s2 s3 s4) s4 = t4 at cP hq
   cases hpr : eV s2 s3 s4
   ·have HO : Hid (fN L 0 = ej vM) := yz (by unfold fN; rw [if_neg (yy K0), if_neg (yy K1), if_pos (by rw [yy HS]; simp [hpr])])
    rw [hpr] at hq
    refine wp_region_quiet_below (by kernel_rfl) (by kernel_rfl) ?_
    repeat (quiet_step (first | (with_reducible exact Calls.regrown_of (yy cS _)) | (with_reducible exact Calls.regrown_of (yy cP _))))
    refine wpQuiet_nil ?_
    intro _ hw'
    obtain ⟨⟨dq, osq⟩, hw''⟩ := hw'
    subst hw''
    have hx := below_regrown W1 dq osq
    replace hx := ak (yy HB1) hx
    go_wp2_with fail
    go_ret
    exact ⟨by rw [yy HO]; rfl, hx⟩
   ·have K2 : Hid (¬ (aL (stA L 0).2.1 (stA L 0).2.2.1 (stA L 0).2.2.2 && eV (stA L 0).2.1 (stA L 0).2.2.1 (stA L 0).2.2.2) = false) := yz (by rw [yy HS]; simp [hsm, hpr])
    clear hsm
    rw [hpr] at hq
    refine wp_region_quiet_below (by kernel_rfl) (by kernel_rfl) ?_
    repeat (quiet_step (first | (with_reducible exact Calls.regrown_of (yy cS _)) | (with_reducible exact Calls.regrown_of (yy cP _))))
    refine wpQuiet_nil ?_
    intro _ hw'
    obtain ⟨⟨dq, osq⟩, hw''⟩ := hw'
    subst hw''
    have hx := below_regrown W1 dq osq
    have hn2 := (yy HN1).kept (World.block_lt_of_cell? _ _ (yy HN1).1) hx
    have hb2 := ak (yy HB1) hx
    generalize grow (redrawn W1 dq) osq = W2 at hx hn2 hb2 ⊢
    have HB2 := yz hb2
    clear hx hb2 r1 r2 r3 hq cS cP HN1 HB1
    obtain ⟨_, c1, c2, c3⟩ := hn2
    simp only [Nat.zero_add] at c1 c2 c3
    go_wp2_with fail
    refine (od L 0 s2 s3 s4 _ _ _ hi ((yy HA).kept (yy HB2))).mono ?_
    rintro e w3 ⟨rfl, hx⟩
    replace hx := ak (yy HB2) hx
    clear HB2 c1 c2 c3
    have ht : ey L (0, s2, s3, s4) 0 = ey L (stA L 0) 0 := by rw [yy HS]; rfl
    rw [ht]
    clear ht
    cases htk : ey L (stA L 0) 0
    ·have HO : Hid (fN L 0 = .nilIface) := yz (by unfold fN; rw [if_neg (yy K0), if_neg (yy K1), if_neg (yy K2), if_neg (by rw [htk]; simp)])
     go_wp2_with fail
     go_ret
     exact ⟨by rw [yy HO]; rfl, hx⟩
    ·have HO : Hid (fN L 0 = ej xh) := yz (by unfold fN; rw [if_neg (yy K0), if_neg (yy K1), if_neg (yy K2), if_pos htk])
     go_wp2_with fail
     go_ret
     exact ⟨by rw [yy HO]; rfl, hx⟩
 ·obtain ⟨j, rfl⟩ : ∃ j, i = j + 1 := ⟨i - 1, by omega⟩
  obtain ⟨⟨p1, p2, p3, p4⟩, hp⟩ : ∃ s, stA L j = s := ⟨_, rfl⟩
  have hle : p1 < s1 := by have hu := yy K1; unfold upB at hu; rw [yy HS] at hu; simp [hp] at hu; omega
  rcases yy HA with h0 | ⟨b, o, rfl, hb, hc⟩
  ·omega
  have hst := (hc j (by omega)).kept hb (yy HB)
  rw [hp] at hst
  obtain ⟨c0, _, _, _⟩ := hst
  have hj1 : (j : Int) + 1 - 1 = (j : Int) := by omega
  have hj2 : (0 : Int) < (j : Int) + 1 := by omega
  clear hp hc
  go_enter Tryz.func144, Tryz.ntmps144
  go_wp2_with fail
  go_quiet (fail)
  go_wp2_with fail
  clear c0
  have hx := ak (yy HB) (dg (w.alloc (.cells #[.int .i64 s1, .int .i64 s2, .int .i64 s3, .int .i64 s4] 60)) nq)
  have hn' := (yy HN).kept (by simp) (dg _ nq)
  generalize (w.alloc (.cells #[.int .i64 s1, .int .i64 s2, .int .i64 s3, .int .i64 s4] 60)).drewN nq = W1 at hx hn' ⊢
  have HB1 := yz hx
  have HN1 := yz hn'
  clear hx hn' HB HN
  obtain ⟨_, c1, c2, c3⟩ := yy HN1
  simp only [Nat.zero_add] at c1 c2 c3
  have r1 := cell_regrown c1
  have r2 := cell_regrown c2
  have r3 := cell_regrown c3
  clear c1 c2 c3
  cases hsm : aL s2 s3 s4
  ·have HO : Hid (fN L (j + 1) = ej vM) := yz (by unfold fN; rw [if_neg (yy K0), if_neg (yy K1), if_pos (by rw [yy HS]; simp [hsm])])
   have cS : Hid (∀ W : World, Calls Tryz.prog 158 #[.agg #[.int .i64 s2, .int .i64 s3, .int .i64 s4]] W fun e w' => e = .returned (.bool false) ∧ Below W.heap.size W w') := yz (fun W => (fp s2 s3 s4 W).mono fun e w' h => ⟨by rw [h.1, hsm], h.2⟩)
   clear hsm
   refine wp_region_quiet_below (by kernel_rfl) (by kernel_rfl) ?_
   repeat (quiet_step (first | (with_reducible exact Calls.regrown_of (yy cS _))))
   refine wpQuiet_nil ?_
   intro _ hw'
   obtain ⟨⟨dq, osq⟩, hw''⟩ := hw'
   subst hw''
   have hx := ak (yy HB1) (below_regrown W1 dq osq)
   go_wp2_with fail
   go_ret
   exact ⟨by rw [yy HO]; rfl, hx⟩
  ·have cS : Hid (∀ W : World, Calls Tryz.prog 158 #[.agg #[.int .i64 s2, .int .i64 s3, .int .i64 s4]] W fun e w' => e = .returned (.bool true) ∧ Below W.heap.size W w') := yz (fun W => (fp s2 s3 s4 W).mono fun e w' h => ⟨by rw [h.1, hsm], h.2⟩)
   have cP := yz (fun W => nA s2 s3 s4 W)
   have hq := fun W => kS s2 s3 s4 (prI (ax s2 s3 s4) (gI s2 s3 s4) s2) (prI (ax s2 s3 s4) (gI s2 s3 s4) s3) (prI (ax s2 s3 s4) (gI s2 s3 s4) s4) W
   have hq2 : eqB s2 s3 s4 (prI (ax s2 s3 s4) (gI s2 s3 s4) s2) (prI (ax s2 s3 s4) (gI s2 s3 s4) s3) (prI (ax s2 s3 s4) (gI s2 s3 s4) s4) = eV s2 s3 s4 := rfl
   rw [hq2] at hq
   clear hq2
   generalize prI (ax s2 s3 s4) (gI s2 s3 s4) s2 = t2 at cP hq
   generalize prI (ax s2 s3 s4) (gI s2 s3 s4) s3 = t3 at cP hq
   generalize prI (ax s2 s3 s4) (gI s2 s3 s4) s4 = t4 at cP hq
   cases hpr : eV s2 s3 s4
   ·have HO : Hid (fN L (j + 1) = ej vM) := yz (by unfold fN; rw [if_neg (yy K0), if_neg (yy K1), if_pos (by rw [yy HS]; simp [hpr])])
    rw [hpr] at hq
    refine wp_region_quiet_below (by kernel_rfl) (by kernel_rfl) ?_
    repeat (quiet_step (first | (with_reducible exact Calls.regrown_of (yy cS _)) | (with_reducible exact Calls.regrown_of (yy cP _))))
    refine wpQuiet_nil ?_
    intro _ hw'
    obtain ⟨⟨dq, osq⟩, hw''⟩ := hw'
    subst hw''
    have hx := below_regrown W1 dq osq
    replace hx := ak (yy HB1) hx
    go_wp2_with fail
    go_ret
    exact ⟨by rw [yy HO]; rfl, hx⟩
   ·have K2 : Hid (¬ (aL (stA L (j + 1)).2.1 (stA L (j + 1)).2.2.1 (stA L (j + 1)).2.2.2 && eV (stA L (j + 1)).2.1 (stA L (j + 1)).2.2.1 (stA L (j + 1)).2.2.2) = false) := yz (by rw [yy HS]; simp [hsm, hpr])
    clear hsm
    rw [hpr] at hq
    refine wp_region_quiet_below (by kernel_rfl) (by kernel_rfl) ?_
    repeat (quiet_step (first | (with_reducible exact Calls.regrown_of (yy cS _)) | (with_reducible exact Calls.regrown_of (yy cP _))))
    refine wpQuiet_nil ?_
    intro _ hw'
    obtain ⟨⟨dq, osq⟩, hw''⟩ := hw'
    subst hw''
    have hx := below_regrown W1 dq osq
    have hn2 := (yy HN1).kept (World.block_lt_of_cell? _ _ (yy HN1).1) hx
    have hb2 := ak (yy HB1) hx
    generalize grow (redrawn W1 dq) osq = W2 at hx hn2 hb2 ⊢
    have HB2 := yz hb2
    clear hx hb2 r1 r2 r3 hq cS cP HN1 HB1
    obtain ⟨_, c1, c2, c3⟩ := hn2
    simp only [Nat.zero_add] at c1 c2 c3
    go_wp2_with fail
    refine (od L (j + 1) s2 s3 s4 _ _ _ hi ((yy HA).kept (yy HB2))).mono ?_
    rintro e w3 ⟨rfl, hx⟩
    replace hx := ak (yy HB2) hx
    clear HB2 c1 c2 c3
    have ht : ey L (0, s2, s3, s4) (j + 1) = ey L (stA L (j + 1)) (j + 1) := by rw [yy HS]; rfl
    rw [ht]
    clear ht
    cases htk : ey L (stA L (j + 1)) (j + 1)
    ·have HO : Hid (fN L (j + 1) = .nilIface) := yz (by unfold fN; rw [if_neg (yy K0), if_neg (yy K1), if_neg (yy K2), if_neg (by rw [htk]; simp)])
     go_wp2_with fail
     go_ret
     exact ⟨by rw [yy HO]; rfl, hx⟩
    ·have HO : Hid (fN L (j + 1) = ej xh) := yz (by unfold fN; rw [if_neg (yy K0), if_neg (yy K1), if_neg (yy K2), if_pos htk])
     go_wp2_with fail
     go_ret
     exact ⟨by rw [yy HO]; rfl, hx⟩
def ia (L : List St) : Value := if 12 < L.length then ej yJ else match (List.range L.length).find? (fun i => !em L i) with | none => .nilIface | some i => fN L i
theorem nz {L : List St} (hl : L.length ≤ 12) (h : un L L.length) : ia L = .nilIface := by
 unfold ia
 rw [if_neg (by omega)]
 have : (List.range L.length).find? (fun i => !em L i) = none := by
  rw [List.find?_eq_none]
  intro j hj
  rw [h j (List.mem_range.1 hj)]
  simp
 rw [this]
theorem As {L : List St} {k : Nat} (hl : L.length ≤ 12) (hk : k < L.length) (h : un L k) (h1 : em L k = false) : ia L = fN L k := by
 unfold ia
 rw [if_neg (by omega)]
 have : (List.range L.length).find? (fun i => !em L i) = some k := by
  rw [List.find?_range_eq_some]
  refine ⟨by rw [h1]; rfl, List.mem_range.2 hk, fun j hj => ?_⟩
  rw [h j hj]
  rfl
 rw [this]
theorem zJ {L : List St} (h : aV L = false) : ∃ why, ia L = ej why := by
 unfold ia
 split
 ·exact ⟨_, rfl⟩
 ·rename_i hl
  cases hf : (List.range L.length).find? (fun i => !em L i) with
  | none =>
   exfalso
   rw [List.find?_eq_none] at hf
   have : aV L = true := tG (by omega) (fun j hj => by have := hf j (List.mem_range.2 hj); simpa using this)
   rw [h] at this
   cases this
  | some i =>
   rw [List.find?_range_eq_some] at hf
   exact yl (by simpa using hf.1)
theorem xU {L : List St} (h : aV L = true) : ia L = .nilIface := nz (bQ h).1 (bQ h).2
theorem mK (L : List St) (a : Option Addr) (c : Nat) (w : World) (hn : L.length ≤ 1048576) (hcap : L.length ≤ c) (hc9 : c ≤ 9223372036854775807) (hS : aR w a L L.length) :
  Calls Tryz.prog 109 #[.slice a L.length c] w fun e w' => e = .returned (ia L) ∧ Below w.heap.size w w' := by
 obtain ⟨n, hnl⟩ : ∃ n, L.length = n := ⟨_, rfl⟩
 rw [hnl] at hn hcap hS ⊢
 have HL := yz hnl
 clear hnl
 by_cases h12 : 12 < n
 ·have h12' : (12 : Int) < (n : Int) := by omega
  have HO : Hid (ia L = ej yJ) := yz (by unfold ia; rw [if_pos (by rw [yy HL]; exact h12)])
  clear hS
  go_enter Tryz.func109, Tryz.ntmps109
  go_wp2
  go_ret
  exact ⟨by rw [yy HO]; rfl, Below.refl _ _⟩
 have h12' : ¬ (12 : Int) < (n : Int) := by omega
 rcases hS with rfl | ⟨b, o, rfl, hb, hc⟩
 ·have HO : Hid (ia L = .nilIface) := yz (nz (by rw [yy HL]; omega) (by rw [yy HL]; intro j hj; omega))
  go_enter Tryz.func109, Tryz.ntmps109
  go_wp2_with fail
  refine wp_loop_rounds 1 ?_
  rw [rounds_succ]
  go_wp2_with fail
  go_ret
  exact ⟨by rw [yy HO]; rfl, Below.refl _ _⟩
 have HC := yz hc
 have HS : Hid (aR w (some ⟨b, o, none⟩) L n) := yz (.inr ⟨b, o, rfl, hb, hc⟩)
 clear hc
 go_enter Tryz.func109, Tryz.ntmps109
 go_wp2_with fail
 go_loopw [13] (fun i wr => ∃ k : Nat, k ≤ n ∧ i = .int .i64 k ∧ Hid (un L k) ∧ Hid (Below w.heap.size w wr)) (fun i _ => n - (intOf i).toNat)
 case atStart => exact ⟨0, by omega, rfl, yz (fun j hj => absurd hj (Nat.not_lt_zero _)), yz (Below.refl _ _)⟩
 case round =>
  obtain ⟨k, hk, rfl, HF, HB⟩ := hrel
  by_cases hkn : k < n
  ·obtain ⟨⟨s1, s2, s3, s4⟩, hs⟩ : ∃ s, stA L k = s := ⟨_, rfl⟩
   have hst := ((yy HC) k hkn).kept hb (yy HB)
   rw [hs] at hst
   obtain ⟨c0, c1, c2, c3⟩ := hst
   have HT := yz hs
   clear hs
   have B1 := yz ((yy HB).alloc (yy HB).size (.cells #[.int .i64 s1, .int .i64 s2, .int .i64 s3, .int .i64 s4] 60))
   have N1 := yz (fk wr (s1, s2, s3, s4) 60)
   go_wp2_with fail
   clear c0 c1 c2 c3
   have hb1 := yy B1
   have hn1 := yy N1
   generalize hwe : wr.alloc (.cells #[.int .i64 s1, .int .i64 s2, .int .i64 s3, .int .i64 s4] 60) = W1 at hb1 hn1 ⊢
   have HB1 := yz hb1
   clear hwe hb1 B1 N1
   obtain ⟨c0, c1, c2, c3⟩ := hn1
   simp only [Nat.zero_add] at c0 c1 c2 c3
   have r0 := cell_regrown c0
   have r1 := cell_regrown c1
   have r2 := cell_regrown c2
   have r3 := cell_regrown c3
   clear c0 c1 c2 c3
   have cW := yz (fun (W : World) (hW : aR W (some ⟨b, o, none⟩) L k) => qZ L k s1 s2 s3 s4 (some ⟨b, o, none⟩) k W (by omega) (yy HT) hW)
   have HSk := yz (((yy HS).less (Nat.le_of_lt hkn)).kept (yy HB1))
   have hkc : (k : Int) ≤ (c : Int) := by omega
   refine wp_region_quiet_below (by kernel_rfl) (by kernel_rfl) ?_
   repeat (quiet_step (first | (with_reducible exact Calls.regrown_of (yy cW _ ((yy HSk).kept (below_regrown _ _ _))))))
   refine wpQuiet_nil ?_
   intro _ hw'
   obtain ⟨⟨dq, osq⟩, hw''⟩ := hw'
   subst hw''
   have hx := ak (yy HB1) (below_regrown W1 dq osq)
   generalize grow (redrawn W1 dq) osq = W2 at hx ⊢
   have HB2 := yz hx
   clear hx HB1 HB cW HSk r0 r1 r2 r3
   cases hok : em L k
   ·obtain ⟨why, hwhy⟩ := yl hok
    have HO := yz (As (by rw [yy HL]; omega) (by rw [yy HL]; exact hkn) (yy HF) hok)
    rw [hwhy] at HO ⊢
    unfold ej at HO ⊢
    clear hok hwhy
    go_wp2_with fail
    go_ret
    exact ⟨by rw [yy HO]; rfl, yy HB2⟩
   ·rw [Dx hok]
    have HF2 := yz (sN (yy HF) hok)
    clear hok
    go_wp2_with fail
    go_roundw
    case rel => exact ⟨k + 1, by omega, by go_num, HF2, HB2⟩
    case measure => simp [intOf]; omega
  ·have hkn' : k = n := by omega
   subst hkn'
   have HO := yz (nz (L := L) (by rw [yy HL]; omega) (by rw [yy HL]; exact yy HF))
   go_wp2_with fail
   go_ret
   exact ⟨by rw [yy HO]; rfl, yy HB⟩
theorem eO (L : List St) (a : Option Addr) (c : Nat) (p : Addr) (w : World) (hn : L.length ≤ 1048576) (hcap : L.length ≤ c) (hc9 : c ≤ 9223372036854775807) (hS : aR w a L L.length) (hE : bu p w) :
  Calls Tryz.prog 81 #[.slice a L.length c] w fun e w' => e = .returned (.bool (aV L)) ∧ Below w.heap.size w w' := by
 have r0 := cell_regrown (show w.cell? ⟨1, 0, none⟩ = some (.iface 258 (.pointer (some p))) from hE)
 have HS := yz hS
 have HE := yz hE
 clear hS hE
 cases hk : aV L
 ·obtain ⟨why, hwhy⟩ := zJ hk
  have cW : Hid (∀ W : World, aR W a L L.length → Calls Tryz.prog 109 #[.slice a L.length c] W fun e w' => e = .returned (.iface 194 (.agg #[.string why])) ∧ Below W.heap.size W w') := yz (fun W hW => (mK L a c W hn hcap hc9 hW).mono fun e w' h => ⟨by rw [h.1, hwhy]; rfl, h.2⟩)
  have cI := yz (fun (W : World) (hW : bu p W) => AH why p W hW)
  clear hwhy hk
  go_enter Tryz.func81, Tryz.ntmps81
  go_wp2_with fail
  refine wp_region_quiet_below (by kernel_rfl) (by kernel_rfl) ?_
  repeat (quiet_step (first | (with_reducible exact Calls.regrown_of (yy cW _ ((yy HS).kept (below_regrown _ _ _)))) | (with_reducible exact Calls.regrown_of (yy cI _ ((yy HE).kept (below_regrown _ _ _))))))
  refine wpQuiet_nil ?_
  intro _ hw'
  obtain ⟨⟨dq, osq⟩, hw''⟩ := hw'
  subst hw''
  have hx := below_regrown w dq osq
  go_wp2_with fail
  go_ret
  exact ⟨rfl, hx⟩
 ·have cW : Hid (∀ W : World, aR W a L L.length → Calls Tryz.prog 109 #[.slice a L.length c] W fun e w' => e = .returned .nilIface ∧ Below W.heap.size W w') := yz (fun W hW => (mK L a c W hn hcap hc9 hW).mono fun e w' h => ⟨by rw [h.1, xU hk], h.2⟩)
  have cI : Hid (∀ W : World, Calls Tryz.prog 108 #[.nilIface, .iface 258 (.pointer (some p))] W fun e w' => e = .returned (.bool false) ∧ Below W.heap.size W w') := yz (fun W => (Er p W).mono fun e w' h => ⟨h.1, by rw [h.2]; exact Below.refl _ _⟩)
  clear hk
  go_enter Tryz.func81, Tryz.ntmps81
  go_wp2_with fail
  refine wp_region_quiet_below (by kernel_rfl) (by kernel_rfl) ?_
  repeat (quiet_step (first | (with_reducible exact Calls.regrown_of (yy cW _ ((yy HS).kept (below_regrown _ _ _)))) | (with_reducible exact Calls.regrown_of (yy cI _))))
  refine wpQuiet_nil ?_
  intro _ hw'
  obtain ⟨⟨dq, osq⟩, hw''⟩ := hw'
  subst hw''
  have hx := below_regrown w dq osq
  go_wp2_with fail
  go_ret
  exact ⟨rfl, hx⟩
theorem uo (a1 a2 a3 b1 b2 b3 : Int) : eqB a1 a2 a3 b1 b2 b3 = eqI b1 b2 b3 a1 a2 a3 := by
 unfold eqB eqI
 congr 1
 apply propext
 constructor <;> rintro ⟨h1, h2, h3⟩ <;> exact ⟨h1.symm, h2.symm, h3.symm⟩
theorem uD {L : List St} {i : Nat} {s1 s2 s3 s4 : Int} (hs : stA L i = (s1, s2, s3, s4)) (h : idB s1 = false) : em L i = false := by unfold em; rw [hs]; simp [h]
theorem CB {L : List St} {i : Nat} (h : upB L i = false) : em L i = false := by unfold em; simp [h]
theorem mp {L : List St} {i : Nat} {s1 s2 s3 s4 : Int} (hs : stA L i = (s1, s2, s3, s4)) (h : aL s2 s3 s4 = false) : em L i = false := by unfold em; rw [hs]; simp [h]
theorem wD {L : List St} {i : Nat} {s1 s2 s3 s4 : Int} (hs : stA L i = (s1, s2, s3, s4)) (h : eV s2 s3 s4 = false) : em L i = false := by unfold em; rw [hs]; simp [h]
theorem CD {L : List St} {i : Nat} (h : ey L (stA L i) i = true) : em L i = false := by unfold em; simp [h]
theorem uG {L : List St} {i : Nat} {s1 s2 s3 s4 : Int} (hs : stA L i = (s1, s2, s3, s4)) (h1 : idB s1 = true) (h2 : upB L i = true) (h3 : aL s2 s3 s4 = true) (h4 : eV s2 s3 s4 = true) (h5 : ey L (stA L i) i = false) : em L i = true := by
 unfold em
 rw [h5, h2, hs]
 simp [h1, h3, h4]
theorem iC (L : List St) (a : Option Addr) (c : Nat) (w : World) (hn : L.length ≤ 1048576) (hS : aR w a L L.length) :
  Calls Tryz.prog 16 #[.slice a L.length c] w fun e w' => e = .returned (.bool (aV L)) ∧ Below w.heap.size w w' := by
 obtain ⟨n, hnl⟩ : ∃ n, L.length = n := ⟨_, rfl⟩
 rw [hnl] at hn hS ⊢
 have HL := yz hnl
 clear hnl
 by_cases h12 : 12 < n
 ·have h12' : (12 : Int) < (n : Int) := by omega
  have HO : Hid (aV L = false) := yz (AY (by rw [yy HL]; exact h12))
  clear hS
  go_enter Tryz.func16, Tryz.ntmps16
  go_wp2
  go_ret
  exact ⟨by rw [yy HO]; rfl, Below.refl _ _⟩
 have h12' : ¬ (12 : Int) < (n : Int) := by omega
 rcases hS with rfl | ⟨b, o, rfl, hb, hc⟩
 ·have HO : Hid (aV L = true) := yz (tG (by rw [yy HL]; omega) (by rw [yy HL]; intro j hj; omega))
  go_enter Tryz.func16, Tryz.ntmps16
  go_wp2_with fail
  refine wp_loop_rounds 1 ?_
  rw [rounds_succ]
  go_wp2_with fail
  go_ret
  exact ⟨by rw [yy HO]; rfl, Below.refl _ _⟩
 have HC := yz hc
 clear hc
 go_enter Tryz.func16, Tryz.ntmps16
 go_wp2_with fail
 go_loopw [3] (fun i wr => ∃ k : Nat, k ≤ n ∧ i = .int .i64 k ∧ Hid (un L k) ∧ Hid (Below w.heap.size w wr)) (fun i _ => n - (intOf i).toNat)
 case atStart => exact ⟨0, by omega, rfl, yz (fun j hj => absurd hj (Nat.not_lt_zero _)), yz (Below.refl _ _)⟩
 case round =>
  obtain ⟨k, hk, rfl, HF, HB⟩ := hrel
  by_cases hkn : k < n
  ·obtain ⟨⟨s1, s2, s3, s4⟩, hs⟩ : ∃ s, stA L k = s := ⟨_, rfl⟩
   have hst := ((yy HC) k hkn).kept hb (yy HB)
   rw [hs] at hst
   obtain ⟨c0, c1, c2, c3⟩ := hst
   have HT := yz hs
   clear hs
   have hkn2 : (k : Int) < (n : Int) := by omega
   have B1 := yz ((yy HB).alloc (yy HB).size (.cells #[.int .i64 s2, .int .i64 s3, .int .i64 s4] 58))
   have N1 := yz (aF wr s2 s3 s4 58)
   rcases Nat.eq_zero_or_pos k with hk0 | hk0
   ·subst hk0
    go_wp2_with fail
    clear c0 c1 c2 c3
    have hb1 := yy B1
    have hn1 := yy N1
    generalize hwe : wr.alloc (.cells #[.int .i64 s2, .int .i64 s3, .int .i64 s4] 58) = W1 at hb1 hn1 ⊢
    generalize hwb : wr.heap.size = vb at hn1 ⊢
    have HB1 := yz hb1
    have HN1 := yz hn1
    clear hwe hwb hb1 hn1 B1 N1 HB
    obtain ⟨v0, v1, v2⟩ := yy HN1
    have r0 := cell_regrown v0
    have r1 := cell_regrown v1
    have r2 := cell_regrown v2
    clear v0 v1 v2
    have hst := ((yy HC) (0) hkn).kept hb (yy HB1)
    rw [yy HT] at hst
    have hst1 := hst.1
    simp only [Nat.zero_mul, Nat.add_zero] at hst1
    have q0 := cell_regrown hst1
    clear hst hst1
    have cI : Hid (∀ W : World, Calls Tryz.prog 17 #[.int .i64 s1, .int .i64 1, .int .i64 9999] W fun e w' => e = .returned (.bool (idB s1)) ∧ Below W.heap.size W w') := yz (fun W => (dE s1 1 9999 W).mono fun e w' h => ⟨h.1, by rw [h.2]; exact Below.refl _ _⟩)
    have cR := yz (fun W => iN s2 s3 s4 W)
    have cW := yz (fun W => gn 10 s2 s3 s4 W (by omega) (by omega))
    cases hid : idB s1
    ·have HO : Hid (aV L = false) := yz (iK (k := 0) (by rw [yy HL]; exact hkn) (uD (yy HT) hid))
     rw [hid] at cI
     refine wp_region_quiet_below (by kernel_rfl) (by kernel_rfl) ?_
     repeat (go_big_quiet_step (first | (with_reducible exact Calls.regrown_of (yy cI _))))
     refine wpQuiet_nil ?_
     intro _ hw'
     obtain ⟨⟨dq, osq⟩, hw''⟩ := hw'
     subst hw''
     have hx := ak (yy HB1) (below_regrown W1 dq osq)
     go_wp2_with fail
     go_ret
     exact ⟨by rw [yy HO]; rfl, hx⟩
    ·rw [hid] at cI
     have HU : Hid (upB L 0 = true) := yz rfl
     cases hr : ax s2 s3 s4
     ·have HO : Hid (aV L = false) := yz (iK (k := 0) (by rw [yy HL]; exact hkn) (mp (yy HT) (by unfold aL; rw [hr]; rfl)))
      rw [hr] at cR
      refine wp_region_quiet_below (by kernel_rfl) (by kernel_rfl) ?_
      repeat (go_big_quiet_step (first | (with_reducible exact Calls.regrown_of (yy cI _)) | (with_reducible exact Calls.regrown_of (yy cR _))))
      refine wpQuiet_nil ?_
      intro _ hw'
      obtain ⟨⟨dq, osq⟩, hw''⟩ := hw'
      subst hw''
      have hx := ak (yy HB1) (below_regrown W1 dq osq)
      go_wp2_with fail
      go_ret
      exact ⟨by rw [yy HO]; rfl, hx⟩
     ·rw [hr] at cR
      have cP := yz (fun W => jG s2 s3 s4 W hr)
      cases hwi : aK 10 s2 s3 s4
      ·have HO : Hid (aV L = false) := yz (iK (k := 0) (by rw [yy HL]; exact hkn) (mp (yy HT) (by unfold aL; rw [hwi]; simp)))
       rw [hwi] at cW
       refine wp_region_quiet_below (by kernel_rfl) (by kernel_rfl) ?_
       repeat (go_big_quiet_step (first | (with_reducible exact Calls.regrown_of (yy cI _)) | (with_reducible exact Calls.regrown_of (yy cR _)) | (with_reducible exact Calls.regrown_of (yy cW _))))
       refine wpQuiet_nil ?_
       intro _ hw'
       obtain ⟨⟨dq, osq⟩, hw''⟩ := hw'
       subst hw''
       have hx := ak (yy HB1) (below_regrown W1 dq osq)
       go_wp2_with fail
       go_ret
       exact ⟨by rw [yy HO]; rfl, hx⟩
      ·rw [hwi] at cW
       have hq := fun W => kS (wrap64 (s2.tdiv (gI s2 s3 s4))) (wrap64 (s3.tdiv (gI s2 s3 s4))) (wrap64 (s4.tdiv (gI s2 s3 s4))) s2 s3 s4 W
       have hq2 : eqB (wrap64 (s2.tdiv (gI s2 s3 s4))) (wrap64 (s3.tdiv (gI s2 s3 s4))) (wrap64 (s4.tdiv (gI s2 s3 s4))) s2 s3 s4 = eV s2 s3 s4 := by rw [uo]; unfold eV prI; rw [hr]; rfl
       rw [hq2] at hq
       clear hq2
       generalize wrap64 (s2.tdiv (gI s2 s3 s4)) = t2 at cP hq
       generalize wrap64 (s3.tdiv (gI s2 s3 s4)) = t3 at cP hq
       generalize wrap64 (s4.tdiv (gI s2 s3 s4)) = t4 at cP hq
       cases hpr : eV s2 s3 s4
       ·have HO : Hid (aV L = false) := yz (iK (k := 0) (by rw [yy HL]; exact hkn) (wD (yy HT) hpr))
        rw [hpr] at hq
        refine wp_region_quiet_below (by kernel_rfl) (by kernel_rfl) ?_
        repeat (go_big_quiet_step (first | (with_reducible exact Calls.regrown_of (yy cI _)) | (with_reducible exact Calls.regrown_of (yy cR _)) | (with_reducible exact Calls.regrown_of (yy cW _)) | (with_reducible exact Calls.regrown_of (yy cP _))))
        refine wpQuiet_nil ?_
        intro _ hw'
        obtain ⟨⟨dq, osq⟩, hw''⟩ := hw'
        subst hw''
        have hx := ak (yy HB1) (below_regrown W1 dq osq)
        go_wp2_with fail
        go_ret
        exact ⟨by rw [yy HO]; rfl, hx⟩
       ·rw [hpr] at hq
        have HM : Hid (aL s2 s3 s4 = true) := yz (by unfold aL; rw [hr, hwi]; rfl)
        have HI := yz hid
        have HPR := yz hpr
        refine wp_region_quiet_below (by kernel_rfl) (by kernel_rfl) ?_
        repeat (go_big_quiet_step (first | (with_reducible exact Calls.regrown_of (yy cI _)) | (with_reducible exact Calls.regrown_of (yy cR _)) | (with_reducible exact Calls.regrown_of (yy cW _)) | (with_reducible exact Calls.regrown_of (yy cP _))))
        refine wpQuiet_nil ?_
        intro _ hw'
        obtain ⟨⟨dq, osq⟩, hw''⟩ := hw'
        subst hw''
        have hx := below_regrown W1 dq osq
        have hb2 := ak (yy HB1) hx
        have hn2 := (yy HN1).kept (vlt (yy HN1)) hx
        generalize grow (redrawn W1 dq) osq = W2 at hb2 hn2 hx ⊢
        have HB2 := yz hb2
        have HN2 := yz hn2
        clear hx hb2 hn2 r0 r1 r2 q0 hq cI cR cW cP hid hpr hwi hr HB1 HN1
        go_wp2_with fail
        go_loopw [5] (fun i wr => ∃ m : Nat, m ≤ 0 ∧ i = .int .i64 m ∧ Hid (nt L (stA L (0)) m) ∧ Hid (Below w.heap.size w wr) ∧ Hid (aG wr vb s2 s3 s4)) (fun i _ => (0) - (intOf i).toNat)
        case atStart => exact ⟨0, by omega, rfl, yz (fun j hj => absurd hj (Nat.not_lt_zero _)), HB2, HN2⟩
        case round =>
         obtain ⟨m, hm, rfl, HE, HB3, HN3⟩ := hrel
         by_cases hmk : m < 0
         ·omega
         ·have hmk' : m = 0 := by omega
          subst hmk'
          have HF2 := yz (sN (yy HF) (uG (yy HT) (yy HI) (yy HU) (yy HM) (yy HPR) (pv (yy HE))))
          go_wp2_with fail
          go_roundw
          case rel => exact ⟨0 + 1, by omega, by go_num, HF2, HB3⟩
          case measure => simp [intOf]; omega
   ·obtain ⟨j, hkj⟩ : ∃ j, k = j + 1 := ⟨k - 1, by omega⟩
    have HK : Hid (k - 1 = j) := yz (by omega)
    have HKJ := yz hkj
    have hjk : j < k := by omega
    clear hkj
    obtain ⟨⟨p1, p2, p3, p4⟩, hp⟩ : ∃ s, stA L j = s := ⟨_, rfl⟩
    have HP := yz hp
    clear hp
    go_wp2_with fail
    clear c0 c1 c2 c3
    have hb1 := yy B1
    have hn1 := yy N1
    generalize hwe : wr.alloc (.cells #[.int .i64 s2, .int .i64 s3, .int .i64 s4] 58) = W1 at hb1 hn1 ⊢
    generalize hwb : wr.heap.size = vb at hn1 ⊢
    have HB1 := yz hb1
    have HN1 := yz hn1
    clear hwe hwb hb1 hn1 B1 N1 HB
    obtain ⟨v0, v1, v2⟩ := yy HN1
    have r0 := cell_regrown v0
    have r1 := cell_regrown v1
    have r2 := cell_regrown v2
    clear v0 v1 v2
    have hst := ((yy HC) (k) hkn).kept hb (yy HB1)
    rw [yy HT] at hst
    have q0 := cell_regrown hst.1
    clear hst
    have hst := ((yy HC) j (by omega)).kept hb (yy HB1)
    rw [yy HP] at hst
    have q1 := cell_regrown hst.1
    clear hst
    have hj1 : (k : Int) - 1 = (j : Int) := by have := yy HKJ; omega
    have hj2 : (0 : Int) < (k : Int) := by omega
    have hj3 : (j : Int) < (n : Int) := by omega
    have cI : Hid (∀ W : World, Calls Tryz.prog 17 #[.int .i64 s1, .int .i64 1, .int .i64 9999] W fun e w' => e = .returned (.bool (idB s1)) ∧ Below W.heap.size W w') := yz (fun W => (dE s1 1 9999 W).mono fun e w' h => ⟨h.1, by rw [h.2]; exact Below.refl _ _⟩)
    have cR := yz (fun W => iN s2 s3 s4 W)
    have cW := yz (fun W => gn 10 s2 s3 s4 W (by omega) (by omega))
    cases hid : idB s1
    ·have HO : Hid (aV L = false) := yz (iK (k := k) (by rw [yy HL]; exact hkn) (uD (yy HT) hid))
     rw [hid] at cI
     refine wp_region_quiet_below (by kernel_rfl) (by kernel_rfl) ?_
     repeat (go_big_quiet_step (first | (with_reducible exact Calls.regrown_of (yy cI _))))
     refine wpQuiet_nil ?_
     intro _ hw'
     obtain ⟨⟨dq, osq⟩, hw''⟩ := hw'
     subst hw''
     have hx := ak (yy HB1) (below_regrown W1 dq osq)
     go_wp2_with fail
     go_ret
     exact ⟨by rw [yy HO]; rfl, hx⟩
    ·rw [hid] at cI
     by_cases hup : s1 ≤ p1
     ·have HO : Hid (aV L = false) := yz (iK (k := k) (by rw [yy HL]; exact hkn) (CB (by unfold upB; rw [yy HK, yy HT]; simp [yy HP]; omega)))
      refine wp_region_quiet_below (by kernel_rfl) (by kernel_rfl) ?_
      repeat (go_big_quiet_step (first | (with_reducible exact Calls.regrown_of (yy cI _))))
      refine wpQuiet_nil ?_
      intro _ hw'
      obtain ⟨⟨dq, osq⟩, hw''⟩ := hw'
      subst hw''
      have hx := ak (yy HB1) (below_regrown W1 dq osq)
      go_wp2_with fail
      go_ret
      exact ⟨by rw [yy HO]; rfl, hx⟩
     have HU : Hid (upB L k = true) := yz (by unfold upB; rw [yy HK, yy HT]; simp [yy HP]; omega)
     have hup2 : decide (s1 ≤ p1) = false := by simp; omega
     clear hup
     cases hr : ax s2 s3 s4
     ·have HO : Hid (aV L = false) := yz (iK (k := k) (by rw [yy HL]; exact hkn) (mp (yy HT) (by unfold aL; rw [hr]; rfl)))
      rw [hr] at cR
      refine wp_region_quiet_below (by kernel_rfl) (by kernel_rfl) ?_
      repeat (go_big_quiet_step (first | (with_reducible exact Calls.regrown_of (yy cI _)) | (with_reducible exact Calls.regrown_of (yy cR _))))
      refine wpQuiet_nil ?_
      intro _ hw'
      obtain ⟨⟨dq, osq⟩, hw''⟩ := hw'
      subst hw''
      have hx := ak (yy HB1) (below_regrown W1 dq osq)
      go_wp2_with fail
      go_ret
      exact ⟨by rw [yy HO]; rfl, hx⟩
     ·rw [hr] at cR
      have cP := yz (fun W => jG s2 s3 s4 W hr)
      cases hwi : aK 10 s2 s3 s4
      ·have HO : Hid (aV L = false) := yz (iK (k := k) (by rw [yy HL]; exact hkn) (mp (yy HT) (by unfold aL; rw [hwi]; simp)))
       rw [hwi] at cW
       refine wp_region_quiet_below (by kernel_rfl) (by kernel_rfl) ?_
       repeat (go_big_quiet_step (first | (with_reducible exact Calls.regrown_of (yy cI _)) | (with_reducible exact Calls.regrown_of (yy cR _)) | (with_reducible exact Calls.regrown_of (yy cW _))))
       refine wpQuiet_nil ?_
       intro _ hw'
       obtain ⟨⟨dq, osq⟩, hw''⟩ := hw'
       subst hw''
       have hx := ak (yy HB1) (below_regrown W1 dq osq)
       go_wp2_with fail
       go_ret
       exact ⟨by rw [yy HO]; rfl, hx⟩
      ·rw [hwi] at cW
       have hq := fun W => kS (wrap64 (s2.tdiv (gI s2 s3 s4))) (wrap64 (s3.tdiv (gI s2 s3 s4))) (wrap64 (s4.tdiv (gI s2 s3 s4))) s2 s3 s4 W
       have hq2 : eqB (wrap64 (s2.tdiv (gI s2 s3 s4))) (wrap64 (s3.tdiv (gI s2 s3 s4))) (wrap64 (s4.tdiv (gI s2 s3 s4))) s2 s3 s4 = eV s2 s3 s4 := by rw [uo]; unfold eV prI; rw [hr]; rfl
       rw [hq2] at hq
       clear hq2
       generalize wrap64 (s2.tdiv (gI s2 s3 s4)) = t2 at cP hq
       generalize wrap64 (s3.tdiv (gI s2 s3 s4)) = t3 at cP hq
       generalize wrap64 (s4.tdiv (gI s2 s3 s4)) = t4 at cP hq
       cases hpr : eV s2 s3 s4
       ·have HO : Hid (aV L = false) := yz (iK (k := k) (by rw [yy HL]; exact hkn) (wD (yy HT) hpr))
        rw [hpr] at hq
        refine wp_region_quiet_below (by kernel_rfl) (by kernel_rfl) ?_
        repeat (go_big_quiet_step (first | (with_reducible exact Calls.regrown_of (yy cI _)) | (with_reducible exact Calls.regrown_of (yy cR _)) | (with_reducible exact Calls.regrown_of (yy cW _)) | (with_reducible exact Calls.regrown_of (yy cP _))))
        refine wpQuiet_nil ?_
        intro _ hw'
        obtain ⟨⟨dq, osq⟩, hw''⟩ := hw'
        subst hw''
        have hx := ak (yy HB1) (below_regrown W1 dq osq)
        go_wp2_with fail
        go_ret
        exact ⟨by rw [yy HO]; rfl, hx⟩
       ·rw [hpr] at hq
        have HM : Hid (aL s2 s3 s4 = true) := yz (by unfold aL; rw [hr, hwi]; rfl)
        have HI := yz hid
        have HPR := yz hpr
        refine wp_region_quiet_below (by kernel_rfl) (by kernel_rfl) ?_
        repeat (go_big_quiet_step (first | (with_reducible exact Calls.regrown_of (yy cI _)) | (with_reducible exact Calls.regrown_of (yy cR _)) | (with_reducible exact Calls.regrown_of (yy cW _)) | (with_reducible exact Calls.regrown_of (yy cP _))))
        refine wpQuiet_nil ?_
        intro _ hw'
        obtain ⟨⟨dq, osq⟩, hw''⟩ := hw'
        subst hw''
        have hx := below_regrown W1 dq osq
        have hb2 := ak (yy HB1) hx
        have hn2 := (yy HN1).kept (vlt (yy HN1)) hx
        generalize grow (redrawn W1 dq) osq = W2 at hb2 hn2 hx ⊢
        have HB2 := yz hb2
        have HN2 := yz hn2
        clear hx hb2 hn2 r0 r1 r2 q0 hq cI cR cW cP hid hpr hwi hr HB1 HN1 q1 hup2
        go_wp2_with fail
        go_loopw [5] (fun i wr => ∃ m : Nat, m ≤ k ∧ i = .int .i64 m ∧ Hid (nt L (stA L (k)) m) ∧ Hid (Below w.heap.size w wr) ∧ Hid (aG wr vb s2 s3 s4)) (fun i _ => (k) - (intOf i).toNat)
        case atStart => exact ⟨0, by omega, rfl, yz (fun j hj => absurd hj (Nat.not_lt_zero _)), HB2, HN2⟩
        case round =>
         obtain ⟨m, hm, rfl, HE, HB3, HN3⟩ := hrel
         by_cases hmk : m < k
         ·obtain ⟨⟨t1, t2, t3, t4⟩, ht⟩ : ∃ s, stA L m = s := ⟨_, rfl⟩
          have hst := ((yy HC) m (by omega)).kept hb (yy HB3)
          rw [ht] at hst
          have hmn : (m : Int) < (n : Int) := by omega
          have hmj : (m : Int) < (k : Int) := by omega
          obtain ⟨_, g1, g2, g3⟩ := hst
          have k1 := cell_regrown g1
          have k2 := cell_regrown g2
          have k3 := cell_regrown g3
          clear g1 g2 g3
          obtain ⟨v0, v1, v2⟩ := yy HN3
          have r0 := cell_regrown v0
          have r1 := cell_regrown v1
          have r2 := cell_regrown v2
          clear v0 v1 v2
          have HQ : Hid (nY (stA L k) (stA L m) = (eqB (crW t3 t4 s3 s4) (crW t4 t2 s4 s2) (crW t2 t3 s2 s3) 0 0 0 && decide (0 < bx t2 t3 t4 s2 s3 s4))) := yz (by
           have hsm := fa ((yy HF) m (by omega))
           rw [ht] at hsm
           have e := Dl hsm (yy HM)
           rw [xc hsm (yy HM)] at e
           rw [ht, yy HT]
           exact e.symm)
          have cE := yz (fun W => kr t2 t3 t4 s2 s3 s4 W)
          generalize (eqB (crW t3 t4 s3 s4) (crW t4 t2 s4 s2) (crW t2 t3 s2 s3) 0 0 0 && decide (0 < bx t2 t3 t4 s2 s3 s4)) = y at HQ cE
          clear ht
          go_wp2_with fail
          refine wp_region_quiet_below (by kernel_rfl) (by kernel_rfl) ?_
          repeat (go_big_quiet_step (first | (with_reducible exact Calls.regrown_of (yy cE _))))
          refine wpQuiet_nil ?_
          intro _ hw'
          obtain ⟨⟨dq, osq⟩, hw''⟩ := hw'
          subst hw''
          have hx := below_regrown wr dq osq
          have hb4 := ak (yy HB3) hx
          have hn4 := (yy HN3).kept (vlt (yy HN3)) hx
          generalize grow (redrawn wr dq) osq = W4 at hx hb4 hn4 ⊢
          have HB4 := yz hb4
          have HN4 := yz hn4
          clear hx hb4 hn4 r0 r1 r2 k1 k2 k3 cE HB3 HN3
          cases y
          ·go_wp2_with fail
           go_roundw
           case rel => exact ⟨m + 1, by omega, by go_num, yz (rC (yy HE) (yy HQ)), HB4, HN4⟩
           case measure => simp [intOf]; omega
          ·have HO : Hid (aV L = false) := yz (iK (k := k) (by rw [yy HL]; exact hkn) (CD (rP hmk (yy HQ))))
           go_wp2_with fail
           go_ret
           exact ⟨by rw [yy HO]; rfl, yy HB4⟩
         ·have hmk' : m = k := by omega
          subst hmk'
          have HF2 := yz (sN (yy HF) (uG (yy HT) (yy HI) (yy HU) (yy HM) (yy HPR) (pv (yy HE))))
          go_wp2_with fail
          go_roundw
          case rel => exact ⟨m + 1, by omega, by go_num, HF2, HB3⟩
          case measure => simp [intOf]; omega
  ·have hkn' : k = n := by omega
   subst hkn'
   have HO := yz (tG (L := L) (by rw [yy HL]; omega) (by rw [yy HL]; exact yy HF))
   go_wp2_with fail
   go_ret
   exact ⟨by rw [yy HO]; rfl, yy HB⟩
def AS (w : World) (b o : Nat) : Prop := w.frozen? ⟨b, o, none⟩ = false ∧ w.frozen? ⟨b, o + 1, none⟩ = false ∧ w.frozen? ⟨b, o + 2, none⟩ = false ∧ w.frozen? ⟨b, o + 3, none⟩ = false
theorem AS.kept {w w' : World} {b o : Nat} (h : AS w b o) (hb : b < w.heap.size) (hB : Below w.heap.size w w') : AS w' b o := by
 obtain ⟨h0, h1, h2, h3⟩ := h
 exact ⟨by rw [hB.frozen (p := ⟨b, o, none⟩) hb]; exact h0, by rw [hB.frozen (p := ⟨b, o + 1, none⟩) hb]; exact h1, by rw [hB.frozen (p := ⟨b, o + 2, none⟩) hb]; exact h2, by rw [hB.frozen (p := ⟨b, o + 3, none⟩) hb]; exact h3⟩
def mc (w : World) (b n : Nat) (L : List St) (k : Nat) : Prop := ∃ cur : Array Value, w.heap[b]? = some (.cells cur 60 (0, 0)) ∧ cur.size = n * 4 ∧
 ∀ j, j < k → cur[j * 4]? = some (.int .i64 (stA L j).1) ∧ cur[j * 4 + 1]? = some (.int .i64 (stA L j).2.1) ∧ cur[j * 4 + 2]? = some (.int .i64 (stA L j).2.2.1) ∧ cur[j * 4 + 3]? = some (.int .i64 (stA L j).2.2.2)
theorem mc.lt {w : World} {b n k : Nat} {L : List St} (h : mc w b n L k) : b < w.heap.size := by
 obtain ⟨cur, hc, _⟩ := h
 exact (Array.getElem?_eq_some_iff.1 hc).1
theorem mc.kept {w w' : World} {b n k : Nat} {L : List St} (h : mc w b n L k) (hB : Below w.heap.size w w') : mc w' b n L k := by
 have hl := h.lt
 obtain ⟨cur, hc, r⟩ := h
 exact ⟨cur, by rw [hB.block b hl]; exact hc, r⟩
theorem mc.stars {w : World} {b n k : Nat} {L : List St} (h : mc w b n L k) : aR w (some ⟨b, 0, none⟩) L k := by
 have hl := h.lt
 obtain ⟨cur, hc, _, hs⟩ := h
 refine .inr ⟨b, 0, rfl, hl, fun i hi => ?_⟩
 obtain ⟨h0, h1, h2, h3⟩ := hs i hi
 rw [Nat.zero_add]
 exact ⟨by rw [cell_of_row w b _ cur _ _ hc]; exact h0, by rw [cell_of_row w b _ cur _ _ hc]; exact h1, by rw [cell_of_row w b _ cur _ _ hc]; exact h2, by rw [cell_of_row w b _ cur _ _ hc]; exact h3⟩
theorem mc.free {w : World} {b n k : Nat} {L : List St} (h : mc w b n L k) (i : Nat) : w.frozen? ⟨b, i, none⟩ = false := by
 obtain ⟨cur, hc, _⟩ := h
 exact frozen_of_row w b i cur _ hc
theorem nF : (Tryz.prog.info? 60).map (fun i => (i.zero, i.size, i.bytes)) = some (some (.agg #[.int .i64 0, .int .i64 0, .int .i64 0, .int .i64 0]), 4, 32) := by kernel_rfl
end
section
open Go.RowKit
def inT (m a b c d : Int) : Bool := inB m a && inB m b && inB m c && inB m d
def hU (a b c d : Int) : Bool := decide (a = 0 ∧ b = 0 ∧ c = 0 ∧ d = 0)
def fT (a b c d : Int) : Int := if a ≠ 0 then a else if b ≠ 0 then b else if c ≠ 0 then c else d
def gT (a b c d : Int) : Int := ((Int.gcd ((Int.gcd a b : Nat) : Int) ((Int.gcd c d : Nat) : Int) : Nat) : Int)
def sT (a b c d : Int) : Int := if fT a b c d < 0 then -gT a b c d else gT a b c d
def aA (a b c d : Int) : Bool := inT 5 a b c d && decide (0 < fT a b c d) && decide (gT a b c d = 1)
def eqT (a b c d a' b' c' d' : Int) : Bool := decide (a = a' ∧ b = b' ∧ c = c' ∧ d = d')
theorem bR {m a b c d : Int} : inT m a b c d = true ↔ (-m ≤ a ∧ a ≤ m) ∧ (-m ≤ b ∧ b ≤ m) ∧ (-m ≤ c ∧ c ≤ m) ∧ (-m ≤ d ∧ d ≤ m) := by
 simp [inT, gL, and_assoc]
theorem qE {m n a b c d : Int} (h : inT m a b c d = true) (hmn : m ≤ n) : inT n a b c d = true := by
 rw [bR] at h ⊢; omega
theorem oH {a b c d : Int} : fT a b c d = 0 ↔ (a = 0 ∧ b = 0 ∧ c = 0 ∧ d = 0) := by
 unfold fT
 split
 ·omega
 ·split
  ·omega
  ·split <;> omega
theorem Ew (a b c d : Int) : fT a b c d = a ∨ fT a b c d = b ∨ fT a b c d = c ∨ fT a b c d = d := by
 unfold fT
 split
 ·exact .inl rfl
 ·split
  ·exact .inr (.inl rfl)
  ·split
   ·exact .inr (.inr (.inl rfl))
   ·exact .inr (.inr (.inr rfl))
theorem Ay (a b c d : Int) : 0 ≤ gT a b c d := Int.natCast_nonneg _
theorem DR {a b c d : Int} (h : ¬ (a = 0 ∧ b = 0 ∧ c = 0 ∧ d = 0)) : 0 < gT a b c d := by
 unfold gT
 have h2 : Int.gcd ((Int.gcd a b : Nat) : Int) ((Int.gcd c d : Nat) : Int) ≠ 0 := by
  intro e
  rw [Int.gcd_eq_zero_iff] at e
  have e1 : Int.gcd a b = 0 := by omega
  have e2 : Int.gcd c d = 0 := by omega
  rw [Int.gcd_eq_zero_iff] at e1 e2
  exact h ⟨e1.1, e1.2, e2.1, e2.2⟩
 omega
theorem oY (a b c d : Int) : ((Int.gcd ((Int.gcd ((Int.gcd ((Int.gcd 0 a : Nat) : Int) b : Nat) : Int) c : Nat) : Int) d : Nat) : Int) = gT a b c d := by
 unfold gT
 have h1 : Int.gcd ((Int.gcd 0 a : Nat) : Int) b = Int.gcd a b := by
  rw [Int.gcd_zero_left]
  show Nat.gcd (a.natAbs : Int).natAbs b.natAbs = Nat.gcd a.natAbs b.natAbs
  rw [Int.natAbs_natCast]
 rw [h1]
 show ((Nat.gcd (Nat.gcd (Int.gcd a b) c.natAbs) d.natAbs : Nat) : Int) = ((Nat.gcd (Int.gcd a b) (Nat.gcd c.natAbs d.natAbs) : Nat) : Int)
 rw [Nat.gcd_assoc]
theorem DO {a b c d : Int} (h : ¬ (a = 0 ∧ b = 0 ∧ c = 0 ∧ d = 0)) : sT a b c d ≠ 0 := by
 have := DR h
 unfold sT
 split <;> omega
theorem gF {f s : Int} (hf : f ≠ 0) (h : f.tdiv s = f) : s = 1 := by
 have hn : f.natAbs / s.natAbs = f.natAbs := by
  have e : (f.tdiv s).natAbs = f.natAbs / s.natAbs := Int.natAbs_tdiv f s
  rw [← e, h]
 have h0 : s.natAbs ≠ 0 := by
  intro e
  rw [e, Nat.div_zero] at hn
  omega
 have h1 : s.natAbs < 2 := by
  rcases Nat.lt_or_ge s.natAbs 2 with h | h
  ·exact h
  ·have := Nat.div_lt_self (n := f.natAbs) (k := s.natAbs) (by omega) h
   omega
 rcases (show s = 1 ∨ s = -1 by omega) with e | e
 ·exact e
 ·rw [e, Int.tdiv_neg, Int.tdiv_one] at h
  omega
theorem yB {m x s : Int} (hx : -m ≤ x ∧ x ≤ m) : -m ≤ x.tdiv s ∧ x.tdiv s ≤ m := by
 have h : (x.tdiv s).natAbs ≤ x.natAbs := by rw [Int.natAbs_tdiv]; exact Nat.div_le_self _ _
 omega
theorem rj {a b c d : Int} (hz : ¬ (a = 0 ∧ b = 0 ∧ c = 0 ∧ d = 0)) :
  eqT a b c d (a.tdiv (sT a b c d)) (b.tdiv (sT a b c d)) (c.tdiv (sT a b c d)) (d.tdiv (sT a b c d)) = (decide (0 < fT a b c d) && decide (gT a b c d = 1)) := by
 have hf : fT a b c d ≠ 0 := fun e => hz (oH.1 e)
 rw [Bool.eq_iff_iff, Bool.and_eq_true, decide_eq_true_iff, decide_eq_true_iff]
 unfold eqT
 rw [decide_eq_true_iff]
 constructor
 ·rintro ⟨h1, h2, h3, h4⟩
  have hs : sT a b c d = 1 := by
   rcases Ew a b c d with e | e | e | e
   ·exact gF (e ▸ hf) h1.symm
   ·exact gF (e ▸ hf) h2.symm
   ·exact gF (e ▸ hf) h3.symm
   ·exact gF (e ▸ hf) h4.symm
  have hg := Ay a b c d
  unfold sT at hs
  split at hs <;> omega
 ·rintro ⟨h1, h2⟩
  have hs : sT a b c d = 1 := by unfold sT; rw [if_neg (by omega), h2]
  rw [hs]
  simp [Int.tdiv_one]
theorem aZ {a b c d : Int} : aA a b c d = true ↔ inT 5 a b c d = true ∧ 0 < fT a b c d ∧ gT a b c d = 1 := by
 simp [aA, and_assoc]
theorem kT {a b c d : Int} (h : aA a b c d = true) : ¬ (a = 0 ∧ b = 0 ∧ c = 0 ∧ d = 0) := by
 have := (aZ.1 h).2.1
 intro e
 rw [oH.2 e] at this
 omega
def ofC (a b c d : Int) : Int :=
 if inT 1000 a b c d && !hU a b c d then
  if aA (a.tdiv (sT a b c d)) (b.tdiv (sT a b c d)) (c.tdiv (sT a b c d)) (d.tdiv (sT a b c d)) then 0 else 9
 else 1
def ofP (a b c d x : Int) : Int := if ofC a b c d = 0 then x.tdiv (sT a b c d) else 0
theorem BO {a b c d : Int} (h : (inT 1000 a b c d && !hU a b c d) = false) : ofC a b c d = 1 := by unfold ofC; rw [h]; rfl
theorem iQ {a b c d : Int} : hU a b c d = true ↔ (a = 0 ∧ b = 0 ∧ c = 0 ∧ d = 0) := by simp [hU]
theorem zR {a b c d : Int} (h : ofC a b c d = 0) : inT 1000 a b c d = true ∧ ¬ (a = 0 ∧ b = 0 ∧ c = 0 ∧ d = 0) ∧ aA (a.tdiv (sT a b c d)) (b.tdiv (sT a b c d)) (c.tdiv (sT a b c d)) (d.tdiv (sT a b c d)) = true := by
 unfold ofC at h
 split at h
 ·next h1 =>
  rw [Bool.and_eq_true, Bool.not_eq_true'] at h1
  split at h
  ·next h2 => exact ⟨h1.1, fun e => by rw [iQ.2 e] at h1; exact absurd h1.2 (by decide), h2⟩
  ·exact absurd h (by decide)
 ·exact absurd h (by decide)
def nT (a b c d : Int) : Int := a * a + b * b + c * c + d * d
theorem sqn (x : Int) : 0 ≤ x * x := by rw [← Int.natAbs_mul_self' x]; exact Int.natCast_nonneg _
theorem sqp {x : Int} (h : x ≠ 0) : 0 < x * x := by
 have := sqn x
 have : x * x ≠ 0 := fun e => by rcases Int.mul_eq_zero.1 e with e | e <;> exact h e
 omega
theorem xA {a b c d : Int} (h : ¬ (a = 0 ∧ b = 0 ∧ c = 0 ∧ d = 0)) : 0 < nT a b c d := by
 have h1 := sqn a
 have h2 := sqn b
 have h3 := sqn c
 have h4 := sqn d
 unfold nT
 by_cases ha : a = 0
 ·by_cases hb : b = 0
  ·by_cases hc : c = 0
   ·have := sqp (x := d) (fun e => h ⟨ha, hb, hc, e⟩); omega
   ·have := sqp hc; omega
  ·have := sqp hb; omega
 ·have := sqp ha; omega
theorem EF {a b c d : Int} (h : inT 5 a b c d = true) : nT a b c d ≤ 100 := by
 rw [bR] at h
 have h1 := bJ h.1 h.1
 have h2 := bJ h.2.1 h.2.1
 have h3 := bJ h.2.2.1 h.2.2.1
 have h4 := bJ h.2.2.2 h.2.2.2
 unfold nT
 omega
def apX (a b c d x y z : Int) : Int := (a * a + b * b - c * c - d * d) * x + 2 * (b * c - a * d) * y + 2 * (b * d + a * c) * z
def apY (a b c d x y z : Int) : Int := 2 * (b * c + a * d) * x + (a * a - b * b + c * c - d * d) * y + 2 * (c * d - a * b) * z
def apZ (a b c d x y z : Int) : Int := 2 * (b * d - a * c) * x + 2 * (c * d + a * b) * y + (a * a - b * b - c * c + d * d) * z
theorem pQ (a b c d x y z x' y' z' : Int) :
  dot (apX a b c d x y z) (apY a b c d x y z) (apZ a b c d x y z) (apX a b c d x' y' z') (apY a b c d x' y' z') (apZ a b c d x' y' z') = nT a b c d * nT a b c d * dot x y z x' y' z' := by
 unfold dot apX apY apZ nT
 grind
def coA (s1 s2 s3 s4 t1 t2 t3 t4 : Int) : Int := s1 * t1 - s2 * t2 - s3 * t3 - s4 * t4
def coB (s1 s2 s3 s4 t1 t2 t3 t4 : Int) : Int := s1 * t2 + s2 * t1 + s3 * t4 - s4 * t3
def coC (s1 s2 s3 s4 t1 t2 t3 t4 : Int) : Int := s1 * t3 - s2 * t4 + s3 * t1 + s4 * t2
def coD (s1 s2 s3 s4 t1 t2 t3 t4 : Int) : Int := s1 * t4 + s2 * t3 - s3 * t2 + s4 * t1
end
section
open Go.RowKit Go.Sort
def Eb (wd ht : Int) (s : ByteArray) : Bool := decide (1 ≤ wd) && decide (wd ≤ 16) && decide (1 ≤ ht) && decide (ht ≤ 12) && decide ((s.size : Int) = wd * ht)
def Ez (ar : Int) (ed : Bool) (lo hi : Int) : Bool := decide (lo ≤ ar) && decide (ar ≤ hi) && !ed
end
end Go.Proofs.YtlleafjdgblhcaaGreatDoor
