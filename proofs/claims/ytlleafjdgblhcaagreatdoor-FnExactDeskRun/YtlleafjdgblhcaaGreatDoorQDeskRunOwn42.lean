/- Several texts in one: DsI, DsJ, DsK, DsL. -/
import Derived.Test.YtlleafjdgblhcaaGreatDoorQDeskRunOwn10
import Derived.Test.YtlleafjdgblhcaaGreatDoorQDeskRunOwn41
import Derived.Test.YtlleafjdgblhcaaGreatDoorQDeskRunOwn24
import Derived.Test.YtlleafjdgblhcaaGreatDoorQDeskRunOwn30
import Derived.Test.YtlleafjdgblhcaaGreatDoorQDeskRunOwn1
import Derived.Test.YtlleafjdgblhcaaGreatDoorQDeskRunOwn26
import Derived.Test.YtlleafjdgblhcaaGreatDoorQDeskRunOwn12
import Derived.Test.YtlleafjdgblhcaaGreatDoorQDeskRunOwn23
namespace Go.Proofs.YtlleafjdgblhcaaGreatDoor
set_option linter.unusedVariables false
set_option linter.unusedSimpArgs false
set_option maxRecDepth 100000
set_option maxHeartbeats 8000000
section
open Go.RowKit Go.Sort
theorem aM {w W : World} {row : Option Nat} (h : Below w.heap.size w W) : w.grownBy W row := ⟨h.os, h.tape, h.output, h.size, fun k hk _ => h.block k hk⟩
theorem bP {w W V : World} {row : Option Nat} (h : w.grownBy W row) (h2 : W.grownBy V row) : w.grownBy V row := ⟨h2.os.trans h.os, h2.tape.trans h.tape, h2.output.trans h.output, Nat.le_trans h.size h2.size, fun k hk hne => (h2.block k (Nat.lt_of_lt_of_le hk h.size) hne).trans (h.block k hk hne)⟩
theorem aB {w W : World} {db : Nat} (h : w.grownBy W (some db)) (i : Nat) (x : Value) : w.grownBy (W.setCell ⟨db, i, none⟩ x) (some db) :=
 have z := (Below.refl 0 W).setCell (p := ⟨db, i, none⟩) (Nat.zero_le _) x
 bP h ⟨z.os, z.tape, z.output, z.size, fun k hk hne => Below.heap_setCell W ⟨db, i, none⟩ x k (fun e => hne (by rw [e]))⟩
theorem dj {w W : World} {B db : Nat} {L : List St} {a : Option Addr} {cap : Nat} (h : az w B L a cap) (hg : w.grownBy W (some db)) (hf : ∀ x, a = some x → x.block ≠ db) : az W B L a cap := by
 refine World.ownsRow.kept h hg ?_
 cases a with
 | none => exact .inl rfl
 | some x => exact .inr (fun e => hf x rfl (Option.some.inj e))
theorem bc.lt {w : World} {db B : Nat} {t : Tk} {u : U4} {a : Option Addr} {cap : Nat} (h : bc w db B t u a cap) : db < w.heap.size := h.blk.lt
theorem bc.put9 {W : World} {db B : Nat} {t : Tk} {u : U4} {a : Option Addr} {cap : Nat} (h : bc W db B t u a cap) (t2 : Tk) (a2 : Option Addr) (cap2 : Nat) (hC : az W B t2.L a2 cap2) (hf : ∀ x, a2 = some x → x.block ≠ db) : bc (((((((((W.setCell ⟨db, 0, none⟩ (.slice a2 t2.L.length cap2)).setCell ⟨db, 1, none⟩ (.int .i64 t2.lim)).setCell ⟨db, 2, none⟩ (.int .i64 t2.mode)).setCell ⟨db, 3, none⟩ (.int .i64 t2.A)).setCell ⟨db, 4, none⟩ (.int .i64 t2.B)).setCell ⟨db, 5, none⟩ (.int .i64 t2.C)).setCell ⟨db, 6, none⟩ (.int .i64 t2.D)).setCell ⟨db, 7, none⟩ (.int .i64 t2.coast)).setCell ⟨db, 8, none⟩ (.int .i64 t2.fr)) db B t2 u a2 cap2 ∧ W.grownBy (((((((((W.setCell ⟨db, 0, none⟩ (.slice a2 t2.L.length cap2)).setCell ⟨db, 1, none⟩ (.int .i64 t2.lim)).setCell ⟨db, 2, none⟩ (.int .i64 t2.mode)).setCell ⟨db, 3, none⟩ (.int .i64 t2.A)).setCell ⟨db, 4, none⟩ (.int .i64 t2.B)).setCell ⟨db, 5, none⟩ (.int .i64 t2.C)).setCell ⟨db, 6, none⟩ (.int .i64 t2.D)).setCell ⟨db, 7, none⟩ (.int .i64 t2.coast)).setCell ⟨db, 8, none⟩ (.int .i64 t2.fr)) (some db) := by
 have hg : W.grownBy (((((((((W.setCell ⟨db, 0, none⟩ (.slice a2 t2.L.length cap2)).setCell ⟨db, 1, none⟩ (.int .i64 t2.lim)).setCell ⟨db, 2, none⟩ (.int .i64 t2.mode)).setCell ⟨db, 3, none⟩ (.int .i64 t2.A)).setCell ⟨db, 4, none⟩ (.int .i64 t2.B)).setCell ⟨db, 5, none⟩ (.int .i64 t2.C)).setCell ⟨db, 6, none⟩ (.int .i64 t2.D)).setCell ⟨db, 7, none⟩ (.int .i64 t2.coast)).setCell ⟨db, 8, none⟩ (.int .i64 t2.fr)) (some db) := aB (aB (aB (aB (aB (aB (aB (aB (aB (aM (Below.refl _ _)) 0 _) 1 _) 2 _) 3 _) 4 _) 5 _) 6 _) 7 _) 8 _
 exact ⟨⟨Blk.set (Blk.set (Blk.set (Blk.set (Blk.set (Blk.set (Blk.set (Blk.set (Blk.set (h.blk) 0 (.slice a2 t2.L.length cap2)) 1 (.int .i64 t2.lim)) 2 (.int .i64 t2.mode)) 3 (.int .i64 t2.A)) 4 (.int .i64 t2.B)) 5 (.int .i64 t2.C)) 6 (.int .i64 t2.D)) 7 (.int .i64 t2.coast)) 8 (.int .i64 t2.fr), dj hC hg hf, hf⟩, hg⟩
def dm (t : Tk) (S : List D3) : Tk × ByteArray := if dP t S = 0 then (dp t S, fz (dp t S).mode.toNat) else (t, fR (dP t S).toNat)
theorem lD (t : Tk) (S : List D3) : 0 ≤ dP t S ∧ dP t S ≤ 9 := by
 unfold dP
 split
 ·omega
 ·split
  ·split <;> omega
  ·omega
theorem jl {t : Tk} {S : List D3} (h : dP t S = 0) : 0 ≤ (dp t S).mode ∧ (dp t S).mode ≤ 2 := by
 unfold dp
 split
 ·exact ⟨by decide, by decide⟩
 ·split
  ·rename_i h1
   split
   ·exact ⟨by decide, by decide⟩
   ·have hm : iB t = true := by
     simp only [Bool.and_eq_true] at h1
     have := h1.1
     unfold aD at this
     simp only [Bool.and_eq_true] at this
     exact this.2
    have hmo : 0 ≤ t.mode ∧ t.mode ≤ 2 := by
     unfold iB at hm
     split at hm
     ·omega
     ·split at hm
      ·omega
      ·split at hm
       ·omega
       ·simp at hm
    unfold dn tH be qq
    split
    ·exact ⟨(by decide : (0 : Int) ≤ 1), (by decide : (1 : Int) ≤ 2)⟩
    ·split
     ·exact ⟨(by decide : (0 : Int) ≤ 1), (by decide : (1 : Int) ≤ 2)⟩
     ·split
      ·exact hmo
      ·split
       ·exact ⟨(by decide : (0 : Int) ≤ 0), (by decide : (0 : Int) ≤ 2)⟩
       ·exact ⟨(by decide : (0 : Int) ≤ 2), (by decide : (2 : Int) ≤ 2)⟩
  ·exact ⟨by decide, by decide⟩
theorem jc (w : World) (db B : Nat) (t : Tk) (u : U4) (a : Option Addr) (cap : Nat) (S : List D3) (br : Option Addr) (dr : Nat) (hn : t.L.length ≤ 1048576) (hn2 : S.length ≤ 1048576) (hB : B ≤ w.heap.size) (hD : bc w db B t u a cap) (hS : cf w br S S.length) (hb : ∀ y, br = some y → y.block < w.heap.size) (hdr : S.length ≤ dr) (hd9 : dr ≤ 9223372036854775807) :
  Calls Tryz.prog 20 #[.pointer (some ⟨db, 0, none⟩), .slice br S.length dr] w fun e w' => e = .returned (.string (dm t S).2) ∧ (∃ a' cap', bc w' db B (dm t S).1 u a' cap') ∧ w.grownBy w' (some db) := by
 obtain ⟨u1, u2, u3, u4⟩ := u
 obtain ⟨L, lim, mode, A, B', C, D, coast, fr⟩ := t
 dsimp only at hn hD ⊢
 have cL := yz (sO L S lim mode A B' C D coast fr a cap br dr w hn hn2 hD.sky.stars hS (gq hD.sky) hb hdr hd9)
 have HC : Hid (dm ⟨L, lim, mode, A, B', C, D, coast, fr⟩ S = if dP ⟨L, lim, mode, A, B', C, D, coast, fr⟩ S = 0 then (dp ⟨L, lim, mode, A, B', C, D, coast, fr⟩ S, fz (dp ⟨L, lim, mode, A, B', C, D, coast, fr⟩ S).mode.toNat) else (⟨L, lim, mode, A, B', C, D, coast, fr⟩, fR (dP ⟨L, lim, mode, A, B', C, D, coast, fr⟩ S).toNat)) := yz rfl
 have hsp := lD ⟨L, lim, mode, A, B', C, D, coast, fr⟩ S
 have hmo := jl (t := ⟨L, lim, mode, A, B', C, D, coast, fr⟩) (S := S)
 generalize dm ⟨L, lim, mode, A, B', C, D, coast, fr⟩ S = R at *
 generalize dP ⟨L, lim, mode, A, B', C, D, coast, fr⟩ S = code at *
 generalize dp ⟨L, lim, mode, A, B', C, D, coast, fr⟩ S = t2 at *
 obtain ⟨L2, l2, m2, A2, B2, C2, D2, o2, f2⟩ := t2
 dsimp only at hmo
 have HD := yz hD
 have d0 := hD.blk.cell 0 _ rfl
 have d1 := hD.blk.cell 1 _ rfl
 have d2 := hD.blk.cell 2 _ rfl
 have d3 := hD.blk.cell 3 _ rfl
 have d4 := hD.blk.cell 4 _ rfl
 have d5 := hD.blk.cell 5 _ rfl
 have d6 := hD.blk.cell 6 _ rfl
 have d7 := hD.blk.cell 7 _ rfl
 have d8 := hD.blk.cell 8 _ rfl
 clear hD
 go_enter Tryz.func20, Tryz.ntmps20
 go_wp2_with fail
 refine (yy cL).mono ?_
 rintro e W1 ⟨⟨a2, cap2, rfl, hC2⟩, hx⟩
 have Z := an W1 (.cells #[.slice a2 L2.length cap2, .int .i64 l2, .int .i64 m2, .int .i64 A2, .int .i64 B2, .int .i64 C2, .int .i64 D2, .int .i64 o2, .int .i64 f2, .int .i64 code] 36)
 have X1 := ap W1 [.slice a2 L2.length cap2, .int .i64 l2, .int .i64 m2, .int .i64 A2, .int .i64 B2, .int .i64 C2, .int .i64 D2, .int .i64 o2, .int .i64 f2, .int .i64 code] 36
 have HB2 := yz (ak hx Z)
 have HC2 := yz (hC2.kept Z)
 have hxb : w.heap.size ≤ W1.heap.size := hx.size
 have hdl : db < w.heap.size := (yy HD).lt
 have x9 := X1.cell 9 _ rfl
 clear d0 d1 d2 d3 d4 d5 d6 d7 d8 hC2 hx Z
 by_cases hc : code = 0
 ·subst hc
  rw [if_pos rfl] at HC
  obtain ⟨m0, m1⟩ := hmo rfl
  have HE := (yy HD).kept (yy HB2)
  have e0 := HE.blk.cell 0 _ rfl
  have f0' := HE.blk.free 0
  have e1 := HE.blk.cell 1 _ rfl
  have f1' := HE.blk.free 1
  have e2 := HE.blk.cell 2 _ rfl
  have f2' := HE.blk.free 2
  have e3 := HE.blk.cell 3 _ rfl
  have f3' := HE.blk.free 3
  have e4 := HE.blk.cell 4 _ rfl
  have f4' := HE.blk.free 4
  have e5 := HE.blk.cell 5 _ rfl
  have f5' := HE.blk.free 5
  have e6 := HE.blk.cell 6 _ rfl
  have f6' := HE.blk.free 6
  have e7 := HE.blk.cell 7 _ rfl
  have f7' := HE.blk.free 7
  have e8 := HE.blk.cell 8 _ rfl
  have f8' := HE.blk.free 8
  obtain ⟨n, rfl⟩ := Int.eq_ofNat_of_zero_le m0
  go_wp2_with fail
  obtain ⟨HP, hg⟩ := bc.put9 HE ⟨L2, l2, n, A2, B2, C2, D2, o2, f2⟩ a2 cap2 (cg (yy HC2) hB) (fun x e => by have := (bX (yy HC2) x e).1; omega)
  dsimp only at HP hg
  refine (it n _ (by omega)).mono ?_
  rintro e W3 ⟨rfl, hx3⟩
  have HP3 := yz (HP.kept hx3)
  have hg3 := yz (bP (bP (aM (yy HB2)) hg) (aM hx3))
  clear HP hg hx3 HE
  go_wp2_with fail
  go_ret
  rw [yy HC]
  exact ⟨rfl, ⟨_, _, yy HP3⟩, yy hg3⟩
 ·rw [if_neg hc] at HC
  obtain ⟨n, rfl⟩ := Int.eq_ofNat_of_zero_le hsp.1
  go_wp2_with fail
  refine (gK n _ (by omega)).mono ?_
  rintro e W3 ⟨rfl, hx3⟩
  have HB3 := yz (ak (yy HB2) hx3)
  go_wp2_with fail
  go_ret
  rw [yy HC]
  exact ⟨rfl, ⟨_, _, (yy HD).kept (yy HB3)⟩, aM (yy HB3)⟩
def rd1 (s : ByteArray) : Int := dL s (aE s).a
def rd2 (s : ByteArray) : Int := dL s (aE s).b
def rd3 (s : ByteArray) : Int := dL s (aE s).c
def rd4 (s : ByteArray) : Int := dL s (aE s).d
def eI : ByteArray := ⟨#[111, 107]⟩
def gM (s : ByteArray) (u : U4) : Int := coK (rd1 s) (rd2 s) (rd3 s) (rd4 s) u.1 u.2.1 u.2.2.1 u.2.2.2
def xG (s : ByteArray) (u : U4) : U4 := (mw (rd1 s) (rd2 s) (rd3 s) (rd4 s) u.1 u.2.1 u.2.2.1 u.2.2.2, mQ (rd1 s) (rd2 s) (rd3 s) (rd4 s) u.1 u.2.1 u.2.2.1 u.2.2.2, mr (rd1 s) (rd2 s) (rd3 s) (rd4 s) u.1 u.2.1 u.2.2.1 u.2.2.2, lU (rd1 s) (rd2 s) (rd3 s) (rd4 s) u.1 u.2.1 u.2.2.1 u.2.2.2)
def bt (t : Tk) (u : U4) (s : ByteArray) (told : Bool) : (Tk × U4) × ByteArray :=
 if dR s = 0 then (if gM s u = 0 then ((if told = true then fM t (rd1 s) (rd2 s) (rd3 s) (rd4 s) else t, xG s u), eI) else ((t, u), fR (gM s u).toNat)) else ((t, u), fR (dR s).toNat)
theorem jh (s : ByteArray) : 0 ≤ dR s ∧ dR s ≤ 9 := by
 unfold dR
 split
 ·split <;> omega
 ·omega
theorem md (a b c d e f g h : Int) : 0 ≤ coK a b c d e f g h ∧ coK a b c d e f g h ≤ 9 := by
 unfold coK ofC
 repeat' split
 all_goals omega
theorem qQ (s : ByteArray) (w : World) (hs : s.size ≤ 9223372036854775807) :
  Calls Tryz.prog 36 #[.string s] w fun e w' => e = .returned (.agg #[.int .i64 (rd1 s), .int .i64 (rd2 s), .int .i64 (rd3 s), .int .i64 (rd4 s), .int .i64 (dR s)]) ∧ Below w.heap.size w w' := sP s w hs
theorem nJ (g1 g2 g3 g4 a b c d : Int) (w : World) :
  Calls Tryz.prog 37 #[.agg #[.int .i64 g1, .int .i64 g2, .int .i64 g3, .int .i64 g4], .agg #[.int .i64 a, .int .i64 b, .int .i64 c, .int .i64 d]] w fun e w' => e = .returned (.agg #[.int .i64 (mw g1 g2 g3 g4 a b c d), .int .i64 (mQ g1 g2 g3 g4 a b c d), .int .i64 (mr g1 g2 g3 g4 a b c d), .int .i64 (lU g1 g2 g3 g4 a b c d), .int .i64 (coK g1 g2 g3 g4 a b c d)]) ∧ Below w.heap.size w w' := ow g1 g2 g3 g4 a b c d w
theorem bc.put4 {W : World} {db B : Nat} {t : Tk} {u : U4} {a : Option Addr} {cap : Nat} (h : bc W db B t u a cap) (x1 x2 x3 x4 : Int) : bc ((((W.setCell ⟨db, 9, none⟩ (.int .i64 x1)).setCell ⟨db, 10, none⟩ (.int .i64 x2)).setCell ⟨db, 11, none⟩ (.int .i64 x3)).setCell ⟨db, 12, none⟩ (.int .i64 x4)) db B t (x1, x2, x3, x4) a cap ∧ W.grownBy ((((W.setCell ⟨db, 9, none⟩ (.int .i64 x1)).setCell ⟨db, 10, none⟩ (.int .i64 x2)).setCell ⟨db, 11, none⟩ (.int .i64 x3)).setCell ⟨db, 12, none⟩ (.int .i64 x4)) (some db) := by
 have hg : W.grownBy ((((W.setCell ⟨db, 9, none⟩ (.int .i64 x1)).setCell ⟨db, 10, none⟩ (.int .i64 x2)).setCell ⟨db, 11, none⟩ (.int .i64 x3)).setCell ⟨db, 12, none⟩ (.int .i64 x4)) (some db) := aB (aB (aB (aB (aM (Below.refl _ _)) 9 _) 10 _) 11 _) 12 _
 exact ⟨⟨Blk.set (Blk.set (Blk.set (Blk.set h.blk 9 (.int .i64 x1)) 10 (.int .i64 x2)) 11 (.int .i64 x3)) 12 (.int .i64 x4), dj h.sky hg h.far, h.far⟩, hg⟩
theorem wg {W : World} {xb : Nat} {t : TypeId} {v0 v1 v2 v3 v4 : Value} (h : Blk W xb [v0, v1, v2, v3, v4] t) (x0 x1 x2 x3 x4 : Value) : Blk (((((W.setCell ⟨xb, 0, none⟩ x0).setCell ⟨xb, 1, none⟩ x1).setCell ⟨xb, 2, none⟩ x2).setCell ⟨xb, 3, none⟩ x3).setCell ⟨xb, 4, none⟩ x4) xb [x0, x1, x2, x3, x4] t := Blk.set (Blk.set (Blk.set (Blk.set (Blk.set h 0 x0) 1 x1) 2 x2) 3 x3) 4 x4
theorem pN {n : Nat} {w W : World} {xb : Nat} (h : Below n w W) (hx : n ≤ xb) (x0 x1 x2 x3 x4 : Value) : Below n w (((((W.setCell ⟨xb, 0, none⟩ x0).setCell ⟨xb, 1, none⟩ x1).setCell ⟨xb, 2, none⟩ x2).setCell ⟨xb, 3, none⟩ x3).setCell ⟨xb, 4, none⟩ x4) := ((((h.setCell hx _).setCell hx _).setCell hx _).setCell hx _).setCell hx _
theorem Au {W : World} {xb : Nat} {t : TypeId} {v0 v1 v2 v3 v4 v5 v6 v7 v8 v9 : Value} (h : Blk W xb [v0, v1, v2, v3, v4, v5, v6, v7, v8, v9] t) (x0 x1 x2 x3 x4 x5 x6 x7 x8 x9 : Value) : Blk ((((((((((W.setCell ⟨xb, 0, none⟩ x0).setCell ⟨xb, 1, none⟩ x1).setCell ⟨xb, 2, none⟩ x2).setCell ⟨xb, 3, none⟩ x3).setCell ⟨xb, 4, none⟩ x4).setCell ⟨xb, 5, none⟩ x5).setCell ⟨xb, 6, none⟩ x6).setCell ⟨xb, 7, none⟩ x7).setCell ⟨xb, 8, none⟩ x8).setCell ⟨xb, 9, none⟩ x9) xb [x0, x1, x2, x3, x4, x5, x6, x7, x8, x9] t := Blk.set (Blk.set (Blk.set (Blk.set (Blk.set (Blk.set (Blk.set (Blk.set (Blk.set (Blk.set h 0 x0) 1 x1) 2 x2) 3 x3) 4 x4) 5 x5) 6 x6) 7 x7) 8 x8) 9 x9
theorem vU {n : Nat} {w W : World} {xb : Nat} (h : Below n w W) (hx : n ≤ xb) (x0 x1 x2 x3 x4 x5 x6 x7 x8 x9 : Value) : Below n w ((((((((((W.setCell ⟨xb, 0, none⟩ x0).setCell ⟨xb, 1, none⟩ x1).setCell ⟨xb, 2, none⟩ x2).setCell ⟨xb, 3, none⟩ x3).setCell ⟨xb, 4, none⟩ x4).setCell ⟨xb, 5, none⟩ x5).setCell ⟨xb, 6, none⟩ x6).setCell ⟨xb, 7, none⟩ x7).setCell ⟨xb, 8, none⟩ x8).setCell ⟨xb, 9, none⟩ x9) := (((((((((h.setCell hx _).setCell hx _).setCell hx _).setCell hx _).setCell hx _).setCell hx _).setCell hx _).setCell hx _).setCell hx _).setCell hx _
theorem kl (w : World) (db B : Nat) (t : Tk) (u : U4) (a : Option Addr) (cap : Nat) (s : ByteArray) (told : Bool) (hn : t.L.length ≤ 1048576) (hs : s.size ≤ 9223372036854775807) (hB : B ≤ w.heap.size) (hD : bc w db B t u a cap) :
  Calls Tryz.prog 19 #[.pointer (some ⟨db, 0, none⟩), .string s, .bool told] w fun e w' => e = .returned (.string (bt t u s told).2) ∧ (∃ a' cap', bc w' db B (bt t u s told).1.1 (bt t u s told).1.2 a' cap') ∧ w.grownBy w' (some db) := by
 have HC : Hid (bt t u s told = if dR s = 0 then (if gM s u = 0 then ((if told = true then fM t (rd1 s) (rd2 s) (rd3 s) (rd4 s) else t, xG s u), eI) else ((t, u), fR (gM s u).toNat)) else ((t, u), fR (dR s).toNat)) := yz rfl
 have cR := yz (qQ s w hs)
 have hsp1 := jh s
 have hsp2 : 0 ≤ gM s u ∧ gM s u ≤ 9 := md _ _ _ _ _ _ _ _
 unfold xG gM at HC
 unfold gM at hsp2
 generalize bt t u s told = R at *
 generalize rd1 s = g1 at *
 generalize rd2 s = g2 at *
 generalize rd3 s = g3 at *
 generalize rd4 s = g4 at *
 generalize dR s = gc at *
 obtain ⟨u1, u2, u3, u4⟩ := u
 obtain ⟨L, lim, mode, A, B', C, D, coast, fr⟩ := t
 dsimp only at hn hD HC hsp2
 have cC := yz (fun W => nJ g1 g2 g3 g4 u1 u2 u3 u4 W)
 have cG := yz (fun W h => uj L lim mode A B' C D coast fr g1 g2 g3 g4 a cap W hn h)
 generalize mw g1 g2 g3 g4 u1 u2 u3 u4 = x1 at *
 generalize mQ g1 g2 g3 g4 u1 u2 u3 u4 = x2 at *
 generalize mr g1 g2 g3 g4 u1 u2 u3 u4 = x3 at *
 generalize lU g1 g2 g3 g4 u1 u2 u3 u4 = x4 at *
 generalize coK g1 g2 g3 g4 u1 u2 u3 u4 = xk at *
 generalize fM ⟨L, lim, mode, A, B', C, D, coast, fr⟩ g1 g2 g3 g4 = t2 at *
 generalize iu ⟨L, lim, mode, A, B', C, D, coast, fr⟩ g1 g2 g3 g4 = yc at *
 obtain ⟨L2, l2, m2, A2, B2, C2, D2, o2, f2⟩ := t2
 have HD := yz hD
 clear hD
 go_enter Tryz.func19, Tryz.ntmps19
 go_wp2_with fail
 refine (yy cR).mono ?_
 rintro e W1 ⟨rfl, hx⟩
 have HX1 := yz (ap W1 [.int .i64 g1, .int .i64 g2, .int .i64 g3, .int .i64 g4, .int .i64 gc] 94)
 have HB1 := yz (ak hx (an W1 (.cells #[.int .i64 g1, .int .i64 g2, .int .i64 g3, .int .i64 g4, .int .i64 gc] 94)))
 have hgb : w.heap.size ≤ W1.heap.size := hx.size
 have x4' := (yy HX1).cell 4 _ rfl
 clear hx cR
 by_cases hc : gc = 0
 case neg =>
  rw [if_neg hc] at HC
  obtain ⟨n, rfl⟩ := Int.eq_ofNat_of_zero_le hsp1.1
  go_wp2_with fail
  refine (gK n _ (by omega)).mono ?_
  rintro e W3 ⟨rfl, hx3⟩
  have HB3 := yz (ak (yy HB1) hx3)
  go_wp2_with fail
  go_ret
  rw [yy HC]
  exact ⟨rfl, ⟨_, _, (yy HD).kept (yy HB3)⟩, aM (yy HB3)⟩
 subst hc
 rw [if_pos rfl] at HC
 go_upto_region 4 with fail
 have hdl : db < w.heap.size := (yy HD).lt
 generalize W1.alloc (.cells #[.int .i64 g1, .int .i64 g2, .int .i64 g3, .int .i64 g4, .int .i64 0] 94) = W at *
 generalize W1.heap.size = gb at *
 clear x4'
 have HDW := yz ((yy HD).kept (yy HB1))
 have hgl : gb < W.heap.size := (yy HX1).lt
 have hdl2 : db < W.heap.size := (yy HDW).lt
 obtain ⟨k0, k1, k2, k3⟩ := we (yy HX1)
 have k9 := (yy HDW).blk.cell 9 _ rfl
 have k10 := (yy HDW).blk.cell 10 _ rfl
 have k11 := (yy HDW).blk.cell 11 _ rfl
 have k12 := (yy HDW).blk.cell 12 _ rfl
 have HKS : Hid (∀ w' : World, Below W.heap.size W w' → (w'.cell? ⟨gb, 0, none⟩ = some (.int .i64 g1) ∧ w'.cell? ⟨gb, 1, none⟩ = some (.int .i64 g2) ∧ w'.cell? ⟨gb, 2, none⟩ = some (.int .i64 g3) ∧ w'.cell? ⟨gb, 3, none⟩ = some (.int .i64 g4)) ∧ (w'.cell? ⟨db, 9, none⟩ = some (.int .i64 u1) ∧ w'.cell? ⟨db, 10, none⟩ = some (.int .i64 u2) ∧ w'.cell? ⟨db, 11, none⟩ = some (.int .i64 u3) ∧ w'.cell? ⟨db, 12, none⟩ = some (.int .i64 u4))) := yz (fun w' h => ⟨⟨by rw [h.cell hgl]; exact k0, by rw [h.cell hgl]; exact k1, by rw [h.cell hgl]; exact k2, by rw [h.cell hgl]; exact k3⟩, ⟨by rw [h.cell hdl2]; exact k9, by rw [h.cell hdl2]; exact k10, by rw [h.cell hdl2]; exact k11, by rw [h.cell hdl2]; exact k12⟩⟩)
 go_cut [8] (fun sv wx => ∃ xb, sv = .pointer (some ⟨xb, 0, none⟩) ∧ Blk wx xb [.int .i64 x1, .int .i64 x2, .int .i64 x3, .int .i64 x4, .int .i64 xk] 94 ∧ W.heap.size ≤ xb ∧ Below W.heap.size W wx)
 case first =>
  refine wp_region_held_drew (S := (fun w' => (w'.cell? ⟨gb, 0, none⟩ = some (.int .i64 g1) ∧ w'.cell? ⟨gb, 1, none⟩ = some (.int .i64 g2) ∧ w'.cell? ⟨gb, 2, none⟩ = some (.int .i64 g3) ∧ w'.cell? ⟨gb, 3, none⟩ = some (.int .i64 g4)) ∧ (w'.cell? ⟨db, 9, none⟩ = some (.int .i64 u1) ∧ w'.cell? ⟨db, 10, none⟩ = some (.int .i64 u2) ∧ w'.cell? ⟨db, 11, none⟩ = some (.int .i64 u3) ∧ w'.cell? ⟨db, 12, none⟩ = some (.int .i64 u4)))) (by kernel_rfl) (yy HKS W (Below.refl _ _)) (fun hHeld => ?_)
  clear k0 k1 k2 k3 k9 k10 k11 k12
  refine ac 0 rfl ?_
  try simp only [Act.put, ah, ai, aj]
  refine ac 1 rfl ?_
  try simp only [Act.put, ah, ai, aj]
  refine ac 2 rfl ?_
  try simp only [Act.put, ah, ai, aj]
  refine ac 3 rfl ?_
  try simp only [Act.put, ah, ai, aj]
  refine ac 4 rfl ?_
  try simp only [Act.put, ah, ai, aj]
  refine ac 5 rfl ?_
  try simp only [Act.put, ah, ai, aj]
  refine ag 6 7 rfl (fun K hK => ?_) rfl fun K hK => ?_
  ·go_simp
   refine ((yy cC) W.drew).mono ?_
   rintro e V1 ⟨rfl, hx⟩
   have HV1 : Hid (Below W.heap.size W V1) := yz ((Below.refl W.heap.size W).drew.trans hx)
   clear hx
   refine hK.out _ _ (yy HKS _ (yy HV1)) (fun hHeld1 => ?_)
   clear hK K hHeld
   refine af 7 rfl fun K hK => ?_
   go_simp
   have HV2 := yz (ak (yy HV1) (an V1 (.cells #[.int .i64 0, .int .i64 0, .int .i64 0, .int .i64 0, .int .i64 0] 94)))
   have HX2 := yz (ap V1 [.int .i64 0, .int .i64 0, .int .i64 0, .int .i64 0, .int .i64 0] 94)
   have hxb : W.heap.size ≤ V1.heap.size := (yy HV1).size
   generalize V1.alloc (.cells #[.int .i64 0, .int .i64 0, .int .i64 0, .int .i64 0, .int .i64 0] 94) = V2 at *
   generalize V1.heap.size = xb at *
   refine hK.out _ _ (yy HKS _ (yy HV2)) (fun hHeld => ?_)
   clear hK K hHeld1
   have c0 := (yy HX2).cell 0 _ rfl
   have z0 := (yy HX2).free 0
   have c1 := (yy HX2).cell 1 _ rfl
   have z1 := (yy HX2).free 1
   have c2 := (yy HX2).cell 2 _ rfl
   have z2 := (yy HX2).free 2
   have c3 := (yy HX2).cell 3 _ rfl
   have z3 := (yy HX2).free 3
   have c4 := (yy HX2).cell 4 _ rfl
   have z4 := (yy HX2).free 4
   refine af 8 rfl fun K hK => ?_
   go_simp
   have HX3 := yz (wg (yy HX2) (.int .i64 x1) (.int .i64 x2) (.int .i64 x3) (.int .i64 x4) (.int .i64 xk))
   have HV3 := yz (pN (yy HV2) hxb (.int .i64 x1) (.int .i64 x2) (.int .i64 x3) (.int .i64 x4) (.int .i64 xk))
   refine hK.out _ _ (yy HKS _ (yy HV3)) (fun hHeld1 => ?_)
   clear hK K hHeld
   refine wpAnyH_done (by kernel_rfl) ?_ _
   clear hHeld1 c0 c1 c2 c3 c4 z0 z1 z2 z3 z4
   go_wp2_with fail
   go_meet
   exact ⟨_, rfl, yy HX3, hxb, yy HV3⟩
  ·go_simp
   have HV1 : Hid (Below W.heap.size W (W.drew.alloc (.cells #[.int .i64 0, .int .i64 0, .int .i64 0, .int .i64 0, .int .i64 0] 94))) := yz ((Below.refl W.heap.size W).drew.trans (an W.drew (.cells #[.int .i64 0, .int .i64 0, .int .i64 0, .int .i64 0, .int .i64 0] 94)))
   have HX1' : Hid (Blk (W.drew.alloc (.cells #[.int .i64 0, .int .i64 0, .int .i64 0, .int .i64 0, .int .i64 0] 94)) W.heap.size [.int .i64 0, .int .i64 0, .int .i64 0, .int .i64 0, .int .i64 0] 94) := yz (ap W.drew [.int .i64 0, .int .i64 0, .int .i64 0, .int .i64 0, .int .i64 0] 94)
   refine hK.out _ _ (yy HKS _ (yy HV1)) (fun hHeld1 => ?_)
   clear hK K hHeld
   refine af 6 rfl fun K hK => ?_
   go_simp
   refine ((yy cC) _).mono ?_
   rintro e V2 ⟨rfl, hx⟩
   have HV2 := yz (ak (yy HV1) hx)
   have HX2 := yz ((yy HX1').kept hx)
   clear hx HX1'
   refine hK.out _ _ (yy HKS _ (yy HV2)) (fun hHeld => ?_)
   clear hK K hHeld1
   have c0 := (yy HX2).cell 0 _ rfl
   have z0 := (yy HX2).free 0
   have c1 := (yy HX2).cell 1 _ rfl
   have z1 := (yy HX2).free 1
   have c2 := (yy HX2).cell 2 _ rfl
   have z2 := (yy HX2).free 2
   have c3 := (yy HX2).cell 3 _ rfl
   have z3 := (yy HX2).free 3
   have c4 := (yy HX2).cell 4 _ rfl
   have z4 := (yy HX2).free 4
   refine af 8 rfl fun K hK => ?_
   go_simp
   have HX3 := yz (wg (yy HX2) (.int .i64 x1) (.int .i64 x2) (.int .i64 x3) (.int .i64 x4) (.int .i64 xk))
   have HV3 := yz (pN (yy HV2) (Nat.le_refl _) (.int .i64 x1) (.int .i64 x2) (.int .i64 x3) (.int .i64 x4) (.int .i64 xk))
   refine hK.out _ _ (yy HKS _ (yy HV3)) (fun hHeld1 => ?_)
   clear hK K hHeld
   refine wpAnyH_done (by kernel_rfl) ?_ _
   clear hHeld1 c0 c1 c2 c3 c4 z0 z1 z2 z3 z4
   go_wp2_with fail
   go_meet
   exact ⟨_, rfl, yy HX3, Nat.le_refl _, yy HV3⟩
 case rest =>
 obtain ⟨xb, rfl, hX, hxb, hx⟩ := hcut
 have HX := yz hX
 have HBc := yz (ak (yy HB1) hx)
 have HDc := yz ((yy HDW).kept hx)
 have HGc := yz ((yy HX1).kept hx)
 have c4 := (yy HX).cell 4 _ rfl
 clear hX hx HKS HDW HX1 HB1 k0 k1 k2 k3 k9 k10 k11 k12
 by_cases hc : xk = 0
 case neg =>
  rw [if_neg hc] at HC
  obtain ⟨n, rfl⟩ := Int.eq_ofNat_of_zero_le hsp2.1
  go_wp2_with fail
  refine (gK n _ (by omega)).mono ?_
  rintro e W3 ⟨rfl, hx3⟩
  have HB3 := yz (ak (yy HBc) hx3)
  go_wp2_with fail
  go_ret
  rw [yy HC]
  exact ⟨rfl, ⟨_, _, (yy HD).kept (yy HB3)⟩, aM (yy HB3)⟩
 subst hc
 rw [if_pos rfl] at HC
 have hwc : w.heap.size ≤ wc.heap.size := (yy HBc).size
 have hdc : db < wc.heap.size := (yy HDc).lt
 have hgc : gb < wc.heap.size := (yy HGc).lt
 have hxc : xb < wc.heap.size := (yy HX).lt
 have hne : db ≠ xb := by omega
 have d0 := (yy HDc).blk.cell 0 _ rfl
 have d1 := (yy HDc).blk.cell 1 _ rfl
 have d2 := (yy HDc).blk.cell 2 _ rfl
 have d3 := (yy HDc).blk.cell 3 _ rfl
 have d4 := (yy HDc).blk.cell 4 _ rfl
 have d5 := (yy HDc).blk.cell 5 _ rfl
 have d6 := (yy HDc).blk.cell 6 _ rfl
 have d7 := (yy HDc).blk.cell 7 _ rfl
 have d8 := (yy HDc).blk.cell 8 _ rfl
 cases told with
 | false =>
  go_upto_region 10 with fail
  have HY6 := yz (ap wc [.slice a L.length cap, .int .i64 lim, .int .i64 mode, .int .i64 A, .int .i64 B', .int .i64 C, .int .i64 D, .int .i64 coast, .int .i64 fr, .int .i64 0] 36)
  have HB6 := yz (an wc (.cells #[.slice a L.length cap, .int .i64 lim, .int .i64 mode, .int .i64 A, .int .i64 B', .int .i64 C, .int .i64 D, .int .i64 coast, .int .i64 fr, .int .i64 0] 36))
  have HC6 := yz ((yy HDc).sky.kept (yy HB6))
  have HF := (yy HDc).far
  clear d0 d1 d2 d3 d4 d5 d6 d7 d8
  generalize wc.alloc (.cells #[.slice a L.length cap, .int .i64 lim, .int .i64 mode, .int .i64 A, .int .i64 B', .int .i64 C, .int .i64 D, .int .i64 coast, .int .i64 fr, .int .i64 0] 36) = W6 at *
  have HE := yz ((yy HDc).kept (yy HB6))
  have HX6 := yz ((yy HX).kept (yy HB6))
  obtain ⟨c0, c1, c2, c3⟩ := we (yy HX6)
  have e9 := (yy HE).blk.cell 9 _ rfl
  have z9 := (yy HE).blk.free 9
  have e10 := (yy HE).blk.cell 10 _ rfl
  have z10 := (yy HE).blk.free 10
  have e11 := (yy HE).blk.cell 11 _ rfl
  have z11 := (yy HE).blk.free 11
  have e12 := (yy HE).blk.cell 12 _ rfl
  have z12 := (yy HE).blk.free 12
  go_upto_region 11 with fail
  clear c0 c1 c2 c3 e9 e10 e11 e12 z9 z10 z11 z12
  obtain ⟨HP4, hg4⟩ := bc.put4 (yy HE) x1 x2 x3 x4
  have HY7 := yz (Blk.grown (yy HY6) hg4 (fun e => by have := Option.some.inj e; omega))
  have HC7 := yz (dj (yy HC6) hg4 (HF))
  have HG7 := yz (bP (aM (yy HBc)) (bP (aM (yy HB6)) hg4))
  have HP7 := yz HP4
  clear HP4 hg4
  generalize (((W6.setCell ⟨db, 9, none⟩ (.int .i64 x1)).setCell ⟨db, 10, none⟩ (.int .i64 x2)).setCell ⟨db, 11, none⟩ (.int .i64 x3)).setCell ⟨db, 12, none⟩ (.int .i64 x4) = W7 at *
  have y0 := (yy HY7).cell 0 _ rfl
  have e0 := (yy HP7).blk.cell 0 _ rfl
  have z0 := (yy HP7).blk.free 0
  have y1 := (yy HY7).cell 1 _ rfl
  have e1 := (yy HP7).blk.cell 1 _ rfl
  have z1 := (yy HP7).blk.free 1
  have y2 := (yy HY7).cell 2 _ rfl
  have e2 := (yy HP7).blk.cell 2 _ rfl
  have z2 := (yy HP7).blk.free 2
  have y3 := (yy HY7).cell 3 _ rfl
  have e3 := (yy HP7).blk.cell 3 _ rfl
  have z3 := (yy HP7).blk.free 3
  have y4 := (yy HY7).cell 4 _ rfl
  have e4 := (yy HP7).blk.cell 4 _ rfl
  have z4 := (yy HP7).blk.free 4
  have y5 := (yy HY7).cell 5 _ rfl
  have e5 := (yy HP7).blk.cell 5 _ rfl
  have z5 := (yy HP7).blk.free 5
  have y6 := (yy HY7).cell 6 _ rfl
  have e6 := (yy HP7).blk.cell 6 _ rfl
  have z6 := (yy HP7).blk.free 6
  have y7 := (yy HY7).cell 7 _ rfl
  have e7 := (yy HP7).blk.cell 7 _ rfl
  have z7 := (yy HP7).blk.free 7
  have y8 := (yy HY7).cell 8 _ rfl
  have e8 := (yy HP7).blk.cell 8 _ rfl
  have z8 := (yy HP7).blk.free 8
  go_wp2_with fail
  obtain ⟨HP, hg⟩ := bc.put9 (yy HP7) ⟨L, lim, mode, A, B', C, D, coast, fr⟩ a cap (yy HC7) (HF)
  dsimp only at HP hg
  have HP8 := yz HP
  have HG8 := yz (bP (yy HG7) hg)
  clear HP hg
  go_ret
  rw [yy HC]
  exact ⟨rfl, ⟨_, _, yy HP8⟩, yy HG8⟩
 | true =>
  go_upto_region 9 with fail
  have HY5 := yz (ap wc [.slice a L.length cap, .int .i64 lim, .int .i64 mode, .int .i64 A, .int .i64 B', .int .i64 C, .int .i64 D, .int .i64 coast, .int .i64 fr, .int .i64 0] 36)
  have HB5 := yz (an wc (.cells #[.slice a L.length cap, .int .i64 lim, .int .i64 mode, .int .i64 A, .int .i64 B', .int .i64 C, .int .i64 D, .int .i64 coast, .int .i64 fr, .int .i64 0] 36))
  have h5 : wc.heap.size < (wc.alloc (.cells #[.slice a L.length cap, .int .i64 lim, .int .i64 mode, .int .i64 A, .int .i64 B', .int .i64 C, .int .i64 D, .int .i64 coast, .int .i64 fr, .int .i64 0] 36)).heap.size := (yy HY5).lt
  obtain ⟨k0, k1, k2, k3⟩ := we (yy HGc)
  have HKS : Hid (∀ w' : World, Below wc.heap.size wc w' → (w'.cell? ⟨db, 0, none⟩ = some (.slice a L.length cap) ∧ w'.cell? ⟨db, 1, none⟩ = some (.int .i64 lim) ∧ w'.cell? ⟨db, 2, none⟩ = some (.int .i64 mode) ∧ w'.cell? ⟨db, 3, none⟩ = some (.int .i64 A) ∧ w'.cell? ⟨db, 4, none⟩ = some (.int .i64 B') ∧ w'.cell? ⟨db, 5, none⟩ = some (.int .i64 C) ∧ w'.cell? ⟨db, 6, none⟩ = some (.int .i64 D) ∧ w'.cell? ⟨db, 7, none⟩ = some (.int .i64 coast) ∧ w'.cell? ⟨db, 8, none⟩ = some (.int .i64 fr)) ∧ (w'.cell? ⟨gb, 0, none⟩ = some (.int .i64 g1) ∧ w'.cell? ⟨gb, 1, none⟩ = some (.int .i64 g2) ∧ w'.cell? ⟨gb, 2, none⟩ = some (.int .i64 g3) ∧ w'.cell? ⟨gb, 3, none⟩ = some (.int .i64 g4))) := yz (fun w' h => ⟨⟨by rw [h.cell hdc]; exact d0, by rw [h.cell hdc]; exact d1, by rw [h.cell hdc]; exact d2, by rw [h.cell hdc]; exact d3, by rw [h.cell hdc]; exact d4, by rw [h.cell hdc]; exact d5, by rw [h.cell hdc]; exact d6, by rw [h.cell hdc]; exact d7, by rw [h.cell hdc]; exact d8⟩, ⟨by rw [h.cell hgc]; exact k0, by rw [h.cell hgc]; exact k1, by rw [h.cell hgc]; exact k2, by rw [h.cell hgc]; exact k3⟩⟩)
  clear d0 d1 d2 d3 d4 d5 d6 d7 d8 k0 k1 k2 k3
  generalize wc.alloc (.cells #[.slice a L.length cap, .int .i64 lim, .int .i64 mode, .int .i64 A, .int .i64 B', .int .i64 C, .int .i64 D, .int .i64 coast, .int .i64 fr, .int .i64 0] 36) = W5 at *
  refine wp_region_held_drew (S := (fun w' => (w'.cell? ⟨db, 0, none⟩ = some (.slice a L.length cap) ∧ w'.cell? ⟨db, 1, none⟩ = some (.int .i64 lim) ∧ w'.cell? ⟨db, 2, none⟩ = some (.int .i64 mode) ∧ w'.cell? ⟨db, 3, none⟩ = some (.int .i64 A) ∧ w'.cell? ⟨db, 4, none⟩ = some (.int .i64 B') ∧ w'.cell? ⟨db, 5, none⟩ = some (.int .i64 C) ∧ w'.cell? ⟨db, 6, none⟩ = some (.int .i64 D) ∧ w'.cell? ⟨db, 7, none⟩ = some (.int .i64 coast) ∧ w'.cell? ⟨db, 8, none⟩ = some (.int .i64 fr)) ∧ (w'.cell? ⟨gb, 0, none⟩ = some (.int .i64 g1) ∧ w'.cell? ⟨gb, 1, none⟩ = some (.int .i64 g2) ∧ w'.cell? ⟨gb, 2, none⟩ = some (.int .i64 g3) ∧ w'.cell? ⟨gb, 3, none⟩ = some (.int .i64 g4)))) (by kernel_rfl) (yy HKS W5 (yy HB5)) (fun hHeld => ?_)
  refine ac 0 rfl ?_
  try simp only [Act.put, ah, ai, aj]
  refine ac 1 rfl ?_
  try simp only [Act.put, ah, ai, aj]
  refine ac 2 rfl ?_
  try simp only [Act.put, ah, ai, aj]
  refine ac 3 rfl ?_
  try simp only [Act.put, ah, ai, aj]
  refine ac 4 rfl ?_
  try simp only [Act.put, ah, ai, aj]
  refine ac 5 rfl ?_
  try simp only [Act.put, ah, ai, aj]
  refine af 6 rfl fun K hK => ?_
  go_simp
  refine ((yy cG) W5.drew ((yy HDc).sky.kept (yy HB5)).stars).mono ?_
  rintro e V1 ⟨⟨a2, cap2, rfl, hC2⟩, hx⟩
  have HV1 : Hid (Below wc.heap.size wc V1) := yz (ak (yy HB5) ((Below.refl _ _).drew.trans hx))
  have HY1 : Hid (Blk V1 wc.heap.size [.slice a L.length cap, .int .i64 lim, .int .i64 mode, .int .i64 A, .int .i64 B', .int .i64 C, .int .i64 D, .int .i64 coast, .int .i64 fr, .int .i64 0] 36) := yz ((yy HY5).kept ((Below.refl W5.heap.size W5).drew.trans hx))
  have HC1 : Hid (az V1 W5.heap.size L2 a2 cap2) := yz hC2
  clear hx hC2
  refine hK.out _ _ (yy HKS _ (yy HV1)) (fun hHeld1 => ?_)
  clear hK K hHeld
  have y0 := (yy HY1).cell 0 _ rfl
  have z0 := (yy HY1).free 0
  have y1 := (yy HY1).cell 1 _ rfl
  have z1 := (yy HY1).free 1
  have y2 := (yy HY1).cell 2 _ rfl
  have z2 := (yy HY1).free 2
  have y3 := (yy HY1).cell 3 _ rfl
  have z3 := (yy HY1).free 3
  have y4 := (yy HY1).cell 4 _ rfl
  have z4 := (yy HY1).free 4
  have y5 := (yy HY1).cell 5 _ rfl
  have z5 := (yy HY1).free 5
  have y6 := (yy HY1).cell 6 _ rfl
  have z6 := (yy HY1).free 6
  have y7 := (yy HY1).cell 7 _ rfl
  have z7 := (yy HY1).free 7
  have y8 := (yy HY1).cell 8 _ rfl
  have z8 := (yy HY1).free 8
  have y9 := (yy HY1).cell 9 _ rfl
  have z9 := (yy HY1).free 9
  refine af 7 rfl fun K hK => ?_
  go_simp
  have HY6 := yz (Au (yy HY1) (.slice a2 L2.length cap2) (.int .i64 l2) (.int .i64 m2) (.int .i64 A2) (.int .i64 B2) (.int .i64 C2) (.int .i64 D2) (.int .i64 o2) (.int .i64 f2) (.int .i64 yc))
  have HB6 := yz (vU (yy HV1) (Nat.le_refl _) (.slice a2 L2.length cap2) (.int .i64 l2) (.int .i64 m2) (.int .i64 A2) (.int .i64 B2) (.int .i64 C2) (.int .i64 D2) (.int .i64 o2) (.int .i64 f2) (.int .i64 yc))
  have hg6 : V1.grownBy ((((((((((V1.setCell ⟨wc.heap.size, 0, none⟩ (.slice a2 L2.length cap2)).setCell ⟨wc.heap.size, 1, none⟩ (.int .i64 l2)).setCell ⟨wc.heap.size, 2, none⟩ (.int .i64 m2)).setCell ⟨wc.heap.size, 3, none⟩ (.int .i64 A2)).setCell ⟨wc.heap.size, 4, none⟩ (.int .i64 B2)).setCell ⟨wc.heap.size, 5, none⟩ (.int .i64 C2)).setCell ⟨wc.heap.size, 6, none⟩ (.int .i64 D2)).setCell ⟨wc.heap.size, 7, none⟩ (.int .i64 o2)).setCell ⟨wc.heap.size, 8, none⟩ (.int .i64 f2)).setCell ⟨wc.heap.size, 9, none⟩ (.int .i64 yc)) (some wc.heap.size) := aB (aB (aB (aB (aB (aB (aB (aB (aB (aB (aM (Below.refl _ _)) 0 _) 1 _) 2 _) 3 _) 4 _) 5 _) 6 _) 7 _) 8 _) 9 _
  have HF : ∀ x, a2 = some x → x.block ≠ db := fun x e => by have := (bX (yy HC1) x e).1; omega
  have HC6 := yz (cg (dj (yy HC1) hg6 (fun x e => by have := (bX (yy HC1) x e).1; omega)) (show B ≤ W5.heap.size by omega))
  refine hK.out _ _ (yy HKS _ (yy HB6)) (fun hHeld => ?_)
  clear hK K hHeld1 y0 y1 y2 y3 y4 y5 y6 y7 y8 y9 z0 z1 z2 z3 z4 z5 z6 z7 z8 z9 hg6
  refine wpAnyH_done (by kernel_rfl) ?_ _
  clear hHeld
  generalize ((((((((((V1.setCell ⟨wc.heap.size, 0, none⟩ (.slice a2 L2.length cap2)).setCell ⟨wc.heap.size, 1, none⟩ (.int .i64 l2)).setCell ⟨wc.heap.size, 2, none⟩ (.int .i64 m2)).setCell ⟨wc.heap.size, 3, none⟩ (.int .i64 A2)).setCell ⟨wc.heap.size, 4, none⟩ (.int .i64 B2)).setCell ⟨wc.heap.size, 5, none⟩ (.int .i64 C2)).setCell ⟨wc.heap.size, 6, none⟩ (.int .i64 D2)).setCell ⟨wc.heap.size, 7, none⟩ (.int .i64 o2)).setCell ⟨wc.heap.size, 8, none⟩ (.int .i64 f2)).setCell ⟨wc.heap.size, 9, none⟩ (.int .i64 yc)) = W6 at *
  clear HY1 HV1 HC1 HY5 HB5
  have HE := yz ((yy HDc).kept (yy HB6))
  have HX6 := yz ((yy HX).kept (yy HB6))
  obtain ⟨c0, c1, c2, c3⟩ := we (yy HX6)
  have e9 := (yy HE).blk.cell 9 _ rfl
  have z9 := (yy HE).blk.free 9
  have e10 := (yy HE).blk.cell 10 _ rfl
  have z10 := (yy HE).blk.free 10
  have e11 := (yy HE).blk.cell 11 _ rfl
  have z11 := (yy HE).blk.free 11
  have e12 := (yy HE).blk.cell 12 _ rfl
  have z12 := (yy HE).blk.free 12
  go_upto_region 11 with fail
  clear c0 c1 c2 c3 e9 e10 e11 e12 z9 z10 z11 z12
  obtain ⟨HP4, hg4⟩ := bc.put4 (yy HE) x1 x2 x3 x4
  have HY7 := yz (Blk.grown (yy HY6) hg4 (fun e => by have := Option.some.inj e; omega))
  have HC7 := yz (dj (yy HC6) hg4 (HF))
  have HG7 := yz (bP (aM (yy HBc)) (bP (aM (yy HB6)) hg4))
  have HP7 := yz HP4
  clear HP4 hg4
  generalize (((W6.setCell ⟨db, 9, none⟩ (.int .i64 x1)).setCell ⟨db, 10, none⟩ (.int .i64 x2)).setCell ⟨db, 11, none⟩ (.int .i64 x3)).setCell ⟨db, 12, none⟩ (.int .i64 x4) = W7 at *
  have y0 := (yy HY7).cell 0 _ rfl
  have e0 := (yy HP7).blk.cell 0 _ rfl
  have z0 := (yy HP7).blk.free 0
  have y1 := (yy HY7).cell 1 _ rfl
  have e1 := (yy HP7).blk.cell 1 _ rfl
  have z1 := (yy HP7).blk.free 1
  have y2 := (yy HY7).cell 2 _ rfl
  have e2 := (yy HP7).blk.cell 2 _ rfl
  have z2 := (yy HP7).blk.free 2
  have y3 := (yy HY7).cell 3 _ rfl
  have e3 := (yy HP7).blk.cell 3 _ rfl
  have z3 := (yy HP7).blk.free 3
  have y4 := (yy HY7).cell 4 _ rfl
  have e4 := (yy HP7).blk.cell 4 _ rfl
  have z4 := (yy HP7).blk.free 4
  have y5 := (yy HY7).cell 5 _ rfl
  have e5 := (yy HP7).blk.cell 5 _ rfl
  have z5 := (yy HP7).blk.free 5
  have y6 := (yy HY7).cell 6 _ rfl
  have e6 := (yy HP7).blk.cell 6 _ rfl
  have z6 := (yy HP7).blk.free 6
  have y7 := (yy HY7).cell 7 _ rfl
  have e7 := (yy HP7).blk.cell 7 _ rfl
  have z7 := (yy HP7).blk.free 7
  have y8 := (yy HY7).cell 8 _ rfl
  have e8 := (yy HP7).blk.cell 8 _ rfl
  have z8 := (yy HP7).blk.free 8
  go_wp2_with fail
  obtain ⟨HP, hg⟩ := bc.put9 (yy HP7) ⟨L2, l2, m2, A2, B2, C2, D2, o2, f2⟩ a2 cap2 (yy HC7) (HF)
  dsimp only at HP hg
  have HP8 := yz HP
  have HG8 := yz (bP (yy HG7) hg)
  clear HP hg
  go_ret
  rw [yy HC]
  exact ⟨rfl, ⟨_, _, yy HP8⟩, yy HG8⟩
def ji (ids : List Int) : Nat → ByteArray
 | 0 => ⟨#[]⟩
 | k + 1 => (if 0 < k then ji ids k ++ ⟨#[44]⟩ else ji ids k) ++ fz (ids.getD k 0).toNat
def ti (t : Tk) (u : U4) (cone : Int) : ByteArray := if bn t.L (aX t.L u.1 u.2.1 u.2.2.1 u.2.2.2 cone) = 0 then ji (ba t.L (aX t.L u.1 u.2.1 u.2.2.1 u.2.2.2 cone)) (ba t.L (aX t.L u.1 u.2.1 u.2.2.1 u.2.2.2 cone)).length else fR (bn t.L (aX t.L u.1 u.2.1 u.2.2.1 u.2.2.2 cone)).toNat
def jo (t : Tk) : ByteArray := if t.mode = 0 then ⟨#[48, 32, 45]⟩ else (fz t.mode.toNat ++ ⟨#[32]⟩) ++ dc t.A t.B t.C t.D
def gU (d : Tk × U4) (l : Ln) : (Tk × U4) × ByteArray :=
 match l.k with
 | 0 => (((dm d.1 []).1, d.2), (dm d.1 []).2)
 | 1 => bt d.1 d.2 ⟨l.t.toArray⟩ false
 | 2 => (d, ti d.1 d.2 l.n)
 | 3 => bt d.1 d.2 ⟨l.t.toArray⟩ true
 | 4 => ((dT d.1, d.2), eI)
 | 5 => (((dm d.1 (aX d.1.L d.2.1 d.2.2.1 d.2.2.2.1 d.2.2.2.2 l.n)).1, d.2), (dm d.1 (aX d.1.L d.2.1 d.2.2.1 d.2.2.2.1 d.2.2.2.2 l.n)).2)
 | _ => (d, jo d.1)
def bS (t : Tk) : Prop := t.L.length ≤ 400 ∧ 0 ≤ t.mode ∧ t.mode ≤ 2
theorem oD : bS eY := ⟨by decide, by decide, by decide⟩
theorem yu {t : Tk} (h : bS t) : bS (qq t) := ⟨h.1, (by decide : (0 : Int) ≤ 0), (by decide : (0 : Int) ≤ 2)⟩
theorem Dj {t : Tk} (h : bS t) (a b c d : Int) : bS (fM t a b c d) := by
 unfold fM
 split
 ·unfold bO
  split
  ·exact h
  ·split
   ·exact h
   ·exact yu h
 ·exact oD
theorem sw {t : Tk} (h : bS t) (u : U4) (s : ByteArray) (told : Bool) : bS (bt t u s told).1.1 := by
 unfold bt
 split
 ·split
  ·cases told
   ·exact h
   ·exact Dj h _ _ _ _
  ·exact h
 ·exact h
theorem Dt (t : Tk) (S : List D3) : (dp t S).L.length ≤ t.L.length := by
 unfold dp
 split
 ·exact Nat.zero_le _
 ·split
  ·split
   ·exact Nat.zero_le _
   ·unfold dn tH be qq
    repeat' split
    all_goals exact Nat.le_refl _
  ·exact Nat.zero_le _
theorem yn {t : Tk} (h : bS t) (S : List D3) : bS (dm t S).1 := by
 unfold dm
 split
 ·rename_i h0
  exact ⟨Nat.le_trans (Dt t S) h.1, jl h0⟩
 ·exact h
theorem Be {t : Tk} (h : bS t) : bS (dT t) := by
 unfold dT
 split
 ·exact yu h
 ·exact oD
theorem CS {d : Tk × U4} (h : bS d.1) (l : Ln) : bS (gU d l).1.1 := by
 unfold gU
 split
 ·exact yn h _
 ·exact sw h _ _ _
 ·exact h
 ·exact sw h _ _ _
 ·exact Be h
 ·exact yn h _
 ·exact h
theorem kN {n : Nat} (h : n ≤ 1000000000) : (fR n).size ≤ 16 := by
 unfold fR
 rw [ByteArray.size_append]
 have := dN h
 have e : (⟨#[101, 114, 114, 111, 114, 32]⟩ : ByteArray).size = 6 := rfl
 omega
theorem sD : ∀ (M : List (List Int)) (s : SeN), (M.foldl bD s).best ∈ M ∨ (M.foldl bD s).best = s.best
 | [], s => .inr rfl
 | l :: M, s => by
  rcases sD M (bD s l) with h | h
  ·exact .inl (List.mem_cons_of_mem _ h)
  ·have : (bD s l).best = l ∨ (bD s l).best = s.best := by
    unfold bD
    repeat' split
    all_goals first | exact .inl rfl | exact .inr rfl
   rcases this with e | e
   ·exact .inl (by show (M.foldl bD (bD s l)).best ∈ l :: M; rw [h, e]; exact List.mem_cons_self ..)
   ·exact .inr (by show (M.foldl bD (bD s l)).best = s.best; rw [h, e])
theorem pm (F : List Int → Int → Bool) (A : List Int) : ∀ (r : Nat) (ids l : List Int), l ∈ eh F A r ids → l.length = ids.length + r ∧ ∀ x ∈ l, x ∈ ids ∨ x ∈ A ∨ x = 0
 | 0, ids, l, h => by
  unfold eh at h
  rw [List.mem_singleton] at h
  subst h
  exact ⟨rfl, fun x hx => .inl hx⟩
 | r + 1, ids, l, h => by
  unfold eh at h
  rcases List.mem_append.1 h with h | h
  ·obtain ⟨a, ha, hl⟩ := List.mem_flatMap.1 h
   obtain ⟨h1, h2⟩ := pm F A r (ids ++ [a]) l hl
   have haA : a ∈ A := (List.mem_filter.1 ha).1
   refine ⟨by rw [h1, List.length_append]; simp; omega, fun x hx => ?_⟩
   rcases h2 x hx with h3 | h3
   ·rcases List.mem_append.1 h3 with h4 | h4
    ·exact .inl h4
    ·rw [List.mem_singleton] at h4; subst h4; exact .inr (.inl haA)
   ·exact .inr h3
  ·obtain ⟨h1, h2⟩ := pm F A r (ids ++ [0]) l h
   refine ⟨by rw [h1, List.length_append]; simp; omega, fun x hx => ?_⟩
   rcases h2 x hx with h3 | h3
   ·rcases List.mem_append.1 h3 with h4 | h4
    ·exact .inl h4
    ·rw [List.mem_singleton] at h4; exact .inr (.inr h4)
   ·exact .inr h3
theorem jn (L : List St) (S : List D3) : (ba L S).length ≤ S.length ∧ ∀ x ∈ ba L S, 0 ≤ x ∧ x ≤ 9999 := by
 unfold ba
 split
 ·exact ⟨Nat.zero_le _, fun x h => by cases h⟩
 ·split
  ·rename_i _ hok
   unfold bV
   split
   ·unfold idR
    rw [iT]
    rcases sD (eh (da L S) (L.map (·.1)) S.length []) ⟨[], 3, 0⟩ with h | h
    ·obtain ⟨h1, h2⟩ := pm _ _ _ _ _ h
     refine ⟨by rw [h1]; simp, fun x hx => ?_⟩
     rcases h2 x hx with h3 | h3 | h3
     ·cases h3
     ·obtain ⟨s, hs, rfl⟩ := List.mem_map.1 h3
      have hk : aV L = true := by unfold kU at hok; simp only [Bool.and_eq_true] at hok; exact hok.1
      obtain ⟨i, hi, e⟩ := List.getElem_of_mem hs
      have := (bQ hk).2 i hi
      unfold em idB at this
      simp only [Bool.and_eq_true, decide_eq_true_eq] at this
      have e2 : stA L i = s := by unfold stA; rw [List.getD_eq_getElem?_getD, List.getElem?_eq_getElem hi, e]; rfl
      rw [e2] at this
      omega
     ·subst h3; omega
    ·rw [h]; exact ⟨Nat.zero_le _, fun x h => by cases h⟩
   ·exact ⟨Nat.zero_le _, fun x h => by cases h⟩
  ·exact ⟨Nat.zero_le _, fun x h => by cases h⟩
theorem kR {ids : List Int} (h : ∀ x ∈ ids, 0 ≤ x ∧ x ≤ 9999) : ∀ k, (ji ids k).size ≤ 11 * k
 | 0 => Nat.le_refl _
 | k + 1 => by
  have ih := kR h k
  have hd : (fz (ids.getD k 0).toNat).size ≤ 10 := by
   refine dN ?_
   by_cases hk : k < ids.length
   ·rw [List.getD_eq_getElem?_getD, List.getElem?_eq_getElem hk]
    have := h _ (List.getElem_mem hk)
    simp only [Option.getD_some]
    omega
   ·rw [List.getD_eq_getElem?_getD, List.getElem?_eq_none (by omega)]
    decide
  unfold ji
  rw [ByteArray.size_append]
  split
  ·rw [ByteArray.size_append, show (⟨#[44]⟩ : ByteArray).size = 1 from rfl]; omega
  ·omega
theorem ke (L : List St) (S : List D3) : 0 ≤ bn L S ∧ bn L S ≤ 11 := by
 unfold bn bC
 repeat' split
 all_goals omega
theorem zV (t : Tk) (u : U4) (cone : Int) : (ti t u cone).size ≤ 70 := by
 unfold ti
 split
 ·obtain ⟨h1, h2⟩ := jn t.L (aX t.L u.1 u.2.1 u.2.2.1 u.2.2.2 cone)
  have h3 := gR t.L u.1 u.2.1 u.2.2.1 u.2.2.2 cone
  have := kR h2 (ba t.L (aX t.L u.1 u.2.1 u.2.2.1 u.2.2.2 cone)).length
  omega
 ·have h := ke t.L (aX t.L u.1 u.2.1 u.2.2.1 u.2.2.2 cone)
  have := kN (n := (bn t.L (aX t.L u.1 u.2.1 u.2.2.1 u.2.2.2 cone)).toNat) (by omega)
  omega
theorem oM (n : Int) : (dig n).length ≤ 2 := by unfold dig; split <;> simp
theorem nv (a b c d : Int) : (dc a b c d).size ≤ 11 := by
 unfold dc
 split
 ·have h1 := oM a
  have h2 := oM b
  have h3 := oM c
  have h4 := oM d
  show (fc a b c d).toArray.size ≤ 11
  unfold fc
  simp only [List.size_toArray, List.length_append, List.length_cons]
  omega
 ·exact Nat.zero_le _
theorem uP {t : Tk} (h : bS t) : (jo t).size ≤ 70 := by
 unfold jo
 split
 ·decide
 ·have h1 := dN (n := t.mode.toNat) (by have := h.2; omega)
  have h2 := nv t.A t.B t.C t.D
  rw [ByteArray.size_append, ByteArray.size_append, show (⟨#[32]⟩ : ByteArray).size = 1 from rfl]
  omega
theorem lZ (t : Tk) (u : U4) (s : ByteArray) (told : Bool) : (bt t u s told).2.size ≤ 70 := by
 unfold bt
 split
 ·split
  ·show eI.size ≤ 70; decide
  ·have h : 0 ≤ gM s u ∧ gM s u ≤ 9 := md _ _ _ _ _ _ _ _
   have := kN (n := (gM s u).toNat) (by omega)
   show (fR (gM s u).toNat).size ≤ 70
   omega
 ·have h := jh s
  have := kN (n := (dR s).toNat) (by omega)
  show (fR (dR s).toNat).size ≤ 70
  omega
theorem pB (t : Tk) (S : List D3) : (dm t S).2.size ≤ 70 := by
 unfold dm
 split
 ·rename_i h0
  have h := jl h0
  have := dN (n := (dp t S).mode.toNat) (by omega)
  show (fz (dp t S).mode.toNat).size ≤ 70
  omega
 ·have h := lD t S
  have := kN (n := (dP t S).toNat) (by omega)
  show (fR (dP t S).toNat).size ≤ 70
  omega
theorem pi {d : Tk × U4} (h : bS d.1) (l : Ln) : (gU d l).2.size ≤ 70 := by
 unfold gU
 split
 ·exact pB _ _
 ·exact lZ _ _ _ _
 ·exact zV _ _ _
 ·exact lZ _ _ _ _
 ·show eI.size ≤ 70; decide
 ·exact pB _ _
 ·exact uP h
theorem Ce (W : World) (a : Option Addr) (n c : Nat) (i1 i2 i3 i4 i5 i6 i7 i8 i9 : Int) : (Instr.field 36 (.agg #[.slice a n c, .int .i64 i1, .int .i64 i2, .int .i64 i3, .int .i64 i4, .int .i64 i5, .int .i64 i6, .int .i64 i7, .int .i64 i8, .int .i64 i9]) 0).run Tryz.prog W = .ok (.agg #[.slice a n c, .int .i64 i1, .int .i64 i2, .int .i64 i3, .int .i64 i4, .int .i64 i5, .int .i64 i6, .int .i64 i7, .int .i64 i8]) W := by kernel_rfl
theorem qN (w : World) (db B : Nat) (t : Tk) (u : U4) (a : Option Addr) (cap : Nat) (tx : ByteArray) (n : Int) (hk : bS t) (hs : tx.size ≤ 9223372036854775807) (hB : B ≤ w.heap.size) (hD : bc w db B t u a cap) :
  Calls Tryz.prog 11 #[.pointer (some ⟨db, 0, none⟩), .agg #[.string ⟨#[109, 111, 118, 101]⟩, .string tx, .int .i64 n]] w fun e w' => e = .returned (.string ((bt t u tx true).2)) ∧ (∃ a' cap', bc w' db B (bt t u tx true).1.1 (bt t u tx true).1.2 a' cap') ∧ w.grownBy w' (some db) := by
 have hn : t.L.length ≤ 1048576 := Nat.le_trans hk.1 (by decide)
 have HZ := yz (an w (.cells #[.string ⟨#[109, 111, 118, 101]⟩, .string tx, .int .i64 n] 43))
 have HD0 := yz (hD.kept (yy HZ))
 have HB0 : B ≤ (w.alloc (.cells #[.string ⟨#[109, 111, 118, 101]⟩, .string tx, .int .i64 n] 43)).heap.size := Nat.le_trans hB (yy HZ).size
 have c0 := (ap w [.string ⟨#[109, 111, 118, 101]⟩, .string tx, .int .i64 n] 43).cell 0 _ rfl
 have c1 := (ap w [.string ⟨#[109, 111, 118, 101]⟩, .string tx, .int .i64 n] 43).cell 1 _ rfl
 have c2 := (ap w [.string ⟨#[109, 111, 118, 101]⟩, .string tx, .int .i64 n] 43).cell 2 _ rfl
 have cT := yz (kl _ db B t u a cap tx true hn hs HB0 (yy HD0))
 generalize bt t u tx true = R at *
 go_enter Tryz.func11, Tryz.ntmps11
 go_wp2_with fail
 refine (yy cT).mono ?_
 rintro e W1 ⟨rfl, hD1, hg⟩
 have HX := yz hD1
 have HG := yz (bP (aM (yy HZ)) hg)
 clear hD1 hg c0 c1 c2
 go_wp2_with fail
 go_ret
 exact ⟨rfl, yy HX, yy HG⟩
theorem pC (w : World) (db B : Nat) (t : Tk) (u : U4) (a : Option Addr) (cap : Nat) (tx : ByteArray) (n : Int) (hk : bS t) (hs : tx.size ≤ 9223372036854775807) (hB : B ≤ w.heap.size) (hD : bc w db B t u a cap) :
  Calls Tryz.prog 11 #[.pointer (some ⟨db, 0, none⟩), .agg #[.string ⟨#[100, 114, 105, 102, 116]⟩, .string tx, .int .i64 n]] w fun e w' => e = .returned (.string ((bt t u tx false).2)) ∧ (∃ a' cap', bc w' db B (bt t u tx false).1.1 (bt t u tx false).1.2 a' cap') ∧ w.grownBy w' (some db) := by
 have hn : t.L.length ≤ 1048576 := Nat.le_trans hk.1 (by decide)
 have HZ := yz (an w (.cells #[.string ⟨#[100, 114, 105, 102, 116]⟩, .string tx, .int .i64 n] 43))
 have HD0 := yz (hD.kept (yy HZ))
 have HB0 : B ≤ (w.alloc (.cells #[.string ⟨#[100, 114, 105, 102, 116]⟩, .string tx, .int .i64 n] 43)).heap.size := Nat.le_trans hB (yy HZ).size
 have c0 := (ap w [.string ⟨#[100, 114, 105, 102, 116]⟩, .string tx, .int .i64 n] 43).cell 0 _ rfl
 have c1 := (ap w [.string ⟨#[100, 114, 105, 102, 116]⟩, .string tx, .int .i64 n] 43).cell 1 _ rfl
 have c2 := (ap w [.string ⟨#[100, 114, 105, 102, 116]⟩, .string tx, .int .i64 n] 43).cell 2 _ rfl
 have cT := yz (kl _ db B t u a cap tx false hn hs HB0 (yy HD0))
 generalize bt t u tx false = R at *
 go_enter Tryz.func11, Tryz.ntmps11
 go_wp2_with fail
 refine (yy cT).mono ?_
 rintro e W1 ⟨rfl, hD1, hg⟩
 have HX := yz hD1
 have HG := yz (bP (aM (yy HZ)) hg)
 clear hD1 hg c0 c1 c2
 go_wp2_with fail
 go_ret
 exact ⟨rfl, yy HX, yy HG⟩
theorem tt (w : World) (db B : Nat) (t : Tk) (u : U4) (a : Option Addr) (cap : Nat) (tx : ByteArray) (n : Int) (hk : bS t) (hs : tx.size ≤ 9223372036854775807) (hB : B ≤ w.heap.size) (hD : bc w db B t u a cap) :
  Calls Tryz.prog 11 #[.pointer (some ⟨db, 0, none⟩), .agg #[.string ⟨#[115, 101, 101]⟩, .string tx, .int .i64 n]] w fun e w' => e = .returned (.string ((dm t (aX t.L u.1 u.2.1 u.2.2.1 u.2.2.2 n)).2)) ∧ (∃ a' cap', bc w' db B (dm t (aX t.L u.1 u.2.1 u.2.2.1 u.2.2.2 n)).1 u a' cap') ∧ w.grownBy w' (some db) := by
 have hn : t.L.length ≤ 1048576 := Nat.le_trans hk.1 (by decide)
 have HZ := yz (an w (.cells #[.string ⟨#[115, 101, 101]⟩, .string tx, .int .i64 n] 43))
 have HD0 := yz (hD.kept (yy HZ))
 have HB0 : B ≤ (w.alloc (.cells #[.string ⟨#[115, 101, 101]⟩, .string tx, .int .i64 n] 43)).heap.size := Nat.le_trans hB (yy HZ).size
 have c0 := (ap w [.string ⟨#[115, 101, 101]⟩, .string tx, .int .i64 n] 43).cell 0 _ rfl
 have c1 := (ap w [.string ⟨#[115, 101, 101]⟩, .string tx, .int .i64 n] 43).cell 1 _ rfl
 have c2 := (ap w [.string ⟨#[115, 101, 101]⟩, .string tx, .int .i64 n] 43).cell 2 _ rfl
 have cS := yz (kX _ db B t u a cap n hn (yy HD0))
 have hs6 := gR t.L u.1 u.2.1 u.2.2.1 u.2.2.2 n
 have hmx : maxLen ≤ 9223372036854775807 := by decide +kernel
 have cL := yz (fun W S br dr => jc W db B t u a cap S br dr hn)
 generalize (aX t.L u.1 u.2.1 u.2.2.1 u.2.2.2 n) = S at *
 go_enter Tryz.func11, Tryz.ntmps11
 go_wp2_with fail
 refine (yy cS).mono ?_
 rintro e W1 ⟨⟨v, rfl, hR⟩, hx⟩
 obtain ⟨a1, c1', rfl⟩ := dD hR
 have HB1 := yz (ak (yy HZ) hx)
 have HD1 := yz ((yy HD0).kept hx)
 have HR := yz hR
 have hBW : B ≤ W1.heap.size := Nat.le_trans HB0 hx.size
 have hcap : S.length ≤ c1' ∧ c1' ≤ 9223372036854775807 := by
  rcases (co hR).2 with h | h
  ·exact ⟨h.1, Nat.le_trans h.2 hmx⟩
  ·omega
 clear hR hx c0 c1 c2
 go_wp2_with fail
 refine ((yy cL) W1 S a1 c1' (by omega) hBW (yy HD1) (co (yy HR)).1 (fun y e => (bX (yy HR) y e).2) hcap.1 hcap.2).mono ?_
 rintro e W2 ⟨rfl, hD2, hg⟩
 have HX := yz hD2
 have HG := yz (bP (aM (yy HB1)) hg)
 clear hD2 hg
 go_wp2_with fail
 go_ret
 exact ⟨rfl, yy HX, yy HG⟩
theorem qe (w : World) (db B : Nat) (t : Tk) (u : U4) (a : Option Addr) (cap : Nat) (tx : ByteArray) (n : Int) (hk : bS t) (hs : tx.size ≤ 9223372036854775807) (hB : B ≤ w.heap.size) (hD : bc w db B t u a cap) :
  Calls Tryz.prog 11 #[.pointer (some ⟨db, 0, none⟩), .agg #[.string ⟨#[98, 108, 105, 110, 100]⟩, .string tx, .int .i64 n]] w fun e w' => e = .returned (.string ((dm t []).2)) ∧ (∃ a' cap', bc w' db B (dm t []).1 u a' cap') ∧ w.grownBy w' (some db) := by
 have hn : t.L.length ≤ 1048576 := Nat.le_trans hk.1 (by decide)
 have HZ := yz (an w (.cells #[.string ⟨#[98, 108, 105, 110, 100]⟩, .string tx, .int .i64 n] 43))
 have HD0 := yz (hD.kept (yy HZ))
 have HB0 : B ≤ (w.alloc (.cells #[.string ⟨#[98, 108, 105, 110, 100]⟩, .string tx, .int .i64 n] 43)).heap.size := Nat.le_trans hB (yy HZ).size
 have c0 := (ap w [.string ⟨#[98, 108, 105, 110, 100]⟩, .string tx, .int .i64 n] 43).cell 0 _ rfl
 have c1 := (ap w [.string ⟨#[98, 108, 105, 110, 100]⟩, .string tx, .int .i64 n] 43).cell 1 _ rfl
 have c2 := (ap w [.string ⟨#[98, 108, 105, 110, 100]⟩, .string tx, .int .i64 n] 43).cell 2 _ rfl
 have cL : Hid (Calls Tryz.prog 20 #[.pointer (some ⟨db, 0, none⟩), .slice none 0 0] (w.alloc (.cells #[.string ⟨#[98, 108, 105, 110, 100]⟩, .string tx, .int .i64 n] 43)) fun e w' => e = .returned (.string (dm t []).2) ∧ (∃ a' cap', bc w' db B (dm t []).1 u a' cap') ∧ (w.alloc (.cells #[.string ⟨#[98, 108, 105, 110, 100]⟩, .string tx, .int .i64 n] 43)).grownBy w' (some db)) := yz (jc (w.alloc (.cells #[.string ⟨#[98, 108, 105, 110, 100]⟩, .string tx, .int .i64 n] 43)) db B t u a cap [] none 0 hn (by decide) HB0 (yy HD0) (.inl rfl) (fun y e => by cases e) (by decide) (by decide))
 generalize dm t [] = R at *
 go_enter Tryz.func11, Tryz.ntmps11
 go_wp2_with fail
 refine (yy cL).mono ?_
 rintro e W1 ⟨rfl, hD1, hg⟩
 have HX := yz hD1
 have HG := yz (bP (aM (yy HZ)) hg)
 clear hD1 hg c0 c1 c2
 go_wp2_with fail
 go_ret
 exact ⟨rfl, yy HX, yy HG⟩
theorem pE (w : World) (db B : Nat) (t : Tk) (u : U4) (a : Option Addr) (cap : Nat) (tx : ByteArray) (n : Int) (hk : bS t) (hs : tx.size ≤ 9223372036854775807) (hB : B ≤ w.heap.size) (hD : bc w db B t u a cap) :
  Calls Tryz.prog 11 #[.pointer (some ⟨db, 0, none⟩), .agg #[.string ⟨#[114, 101, 115, 101, 116]⟩, .string tx, .int .i64 n]] w fun e w' => e = .returned (.string (eI)) ∧ (∃ a' cap', bc w' db B (dT t) u a' cap') ∧ w.grownBy w' (some db) := by
 have hn : t.L.length ≤ 1048576 := Nat.le_trans hk.1 (by decide)
 have HZ := yz (an w (.cells #[.string ⟨#[114, 101, 115, 101, 116]⟩, .string tx, .int .i64 n] 43))
 have HD0 := yz (hD.kept (yy HZ))
 have HB0 : B ≤ (w.alloc (.cells #[.string ⟨#[114, 101, 115, 101, 116]⟩, .string tx, .int .i64 n] 43)).heap.size := Nat.le_trans hB (yy HZ).size
 have c0 := (ap w [.string ⟨#[114, 101, 115, 101, 116]⟩, .string tx, .int .i64 n] 43).cell 0 _ rfl
 have c1 := (ap w [.string ⟨#[114, 101, 115, 101, 116]⟩, .string tx, .int .i64 n] 43).cell 1 _ rfl
 have c2 := (ap w [.string ⟨#[114, 101, 115, 101, 116]⟩, .string tx, .int .i64 n] 43).cell 2 _ rfl
 obtain ⟨u1, u2, u3, u4⟩ := u
 obtain ⟨L, lim, mode, A, B', C, D, coast, fr⟩ := t
 dsimp only at hn hD
 have HDs := yz (yy HD0).sky.stars
 have cR := yz (rk L lim mode A B' C D coast fr a cap (w.alloc (.cells #[.string ⟨#[114, 101, 115, 101, 116]⟩, .string tx, .int .i64 n] 43)) hn (yy HDs))
 generalize dT ⟨L, lim, mode, A, B', C, D, coast, fr⟩ = t2 at *
 generalize gh ⟨L, lim, mode, A, B', C, D, coast, fr⟩ = code at *
 obtain ⟨L2, l2, m2, A2, B2, C2, D2, o2, f2⟩ := t2
 have d0 := (yy HD0).blk.cell 0 _ rfl
 have d1 := (yy HD0).blk.cell 1 _ rfl
 have d2 := (yy HD0).blk.cell 2 _ rfl
 have d3 := (yy HD0).blk.cell 3 _ rfl
 have d4 := (yy HD0).blk.cell 4 _ rfl
 have d5 := (yy HD0).blk.cell 5 _ rfl
 have d6 := (yy HD0).blk.cell 6 _ rfl
 have d7 := (yy HD0).blk.cell 7 _ rfl
 have d8 := (yy HD0).blk.cell 8 _ rfl
 go_enter Tryz.func11, Tryz.ntmps11
 go_wp2_with fail
 refine (yy cR).mono ?_
 rintro e W1 ⟨⟨a2, cap2, rfl, hC2⟩, hx⟩
 have HC2 := yz hC2
 have HB1 := yz (ak (yy HZ) hx)
 have HE := yz ((yy HD0).kept hx)
 have hdl : db < W1.heap.size := (yy HE).lt
 have hd0 := (yy HD0).lt
 clear hC2 hx c0 c1 c2 d0 d1 d2 d3 d4 d5 d6 d7 d8
 have hft := Ce W1 a2 L2.length cap2 l2 m2 A2 B2 C2 D2 o2 f2 code
 have e0 := (yy HE).blk.cell 0 _ rfl
 have z0 := (yy HE).blk.free 0
 have e1 := (yy HE).blk.cell 1 _ rfl
 have z1 := (yy HE).blk.free 1
 have e2 := (yy HE).blk.cell 2 _ rfl
 have z2 := (yy HE).blk.free 2
 have e3 := (yy HE).blk.cell 3 _ rfl
 have z3 := (yy HE).blk.free 3
 have e4 := (yy HE).blk.cell 4 _ rfl
 have z4 := (yy HE).blk.free 4
 have e5 := (yy HE).blk.cell 5 _ rfl
 have z5 := (yy HE).blk.free 5
 have e6 := (yy HE).blk.cell 6 _ rfl
 have z6 := (yy HE).blk.free 6
 have e7 := (yy HE).blk.cell 7 _ rfl
 have z7 := (yy HE).blk.free 7
 have e8 := (yy HE).blk.cell 8 _ rfl
 have z8 := (yy HE).blk.free 8
 go_wp2_with fail
 obtain ⟨HP, hg⟩ := bc.put9 (yy HE) ⟨L2, l2, m2, A2, B2, C2, D2, o2, f2⟩ a2 cap2 (cg (yy HC2) HB0) (fun x e => by have := (bX (yy HC2) x e).1; omega)
 dsimp only at HP hg
 have HP8 := yz HP
 have HG8 := yz (bP (aM (yy HB1)) hg)
 clear HP hg
 go_ret
 exact ⟨rfl, ⟨_, _, yy HP8⟩, yy HG8⟩
end
end Go.Proofs.YtlleafjdgblhcaaGreatDoor
