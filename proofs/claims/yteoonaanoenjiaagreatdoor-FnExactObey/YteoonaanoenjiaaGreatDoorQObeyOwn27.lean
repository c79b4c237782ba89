/- Several texts in one: LkG, ObG, ModT. -/
import Derived.Deep.RegionHeld
import Derived.Deep.DeepCutAuto
import Derived.Test.YteoonaanoenjiaaGreatDoorQObeyOwn22
import Derived.Test.YteoonaanoenjiaaGreatDoorQObeyOwn21
import Derived.Test.YteoonaanoenjiaaGreatDoorQObeyOwn12
import Derived.Test.YteoonaanoenjiaaGreatDoorQObeyOwn26
import Derived.Test.YteoonaanoenjiaaGreatDoorQObeyOwn19
namespace Go.Proofs.YteoonaanoenjiaaGreatDoor
open Go.RowKit Go.Sort
set_option linter.unusedVariables false
theorem OwnD.grownD {w w' : World} {b n k : Nat} {L : List D3} {row : Option Nat} (h : OwnD w b n L k) (hg : w.grownBy w' row) (hne : some b ≠ row) : OwnD w' b n L k := by
  have hl := h.lt
  obtain ⟨cur, hc, r⟩ := h
  exact ⟨cur, by rw [hg.block b hl hne]; exact hc, r⟩
theorem lookT_len (t : Tk) (S : List D3) (h : t.L.length ≤ 1048576) : (lookT t S).L.length ≤ 1048576 := by
  unfold lookT
  split
  · exact Nat.zero_le _
  · split
    · split
      · exact Nat.zero_le _
      · rw [lookR_L]; exact h
    · exact Nat.zero_le _
end Go.Proofs.YteoonaanoenjiaaGreatDoor
namespace Go.Proofs.YteoonaanoenjiaaGreatDoor
open Go.RowKit Go.Sort
set_option linter.unusedVariables false
set_option linter.unusedSimpArgs false
def szCf (left : Int) (n : Nat) (px : ByteArray) : Int := if left - (n : Int) < 0 then -1 else szI (left - (n : Int)) px
theorem szCf_le {left : Int} {n : Nat} {px : ByteArray} (h : ¬ szCf left n px < 0) : (n : Int) ≤ left := by
  unfold szCf at h
  split at h
  · exact absurd (by decide) h
  · omega
set_option maxHeartbeats 1000000 in
set_option maxRecDepth 100000 in
theorem szCommand_from (kind A B C D wd ht lv fo : Int) (px : ByteArray) (a : Option Addr) (n c : Nat) (left : Int) (w : World) (hl0 : 0 ≤ left) (hl1 : left ≤ 1048576) (hm : n ≤ 9223372036854775807) (hs : px.size ≤ maxLen) :
    Calls Tryz.prog 6 #[.agg #[.int .i64 kind, .int .i64 A, .int .i64 B, .int .i64 C, .int .i64 D, .slice a n c, .int .i64 wd, .int .i64 ht, .string px, .int .i64 lv, .int .i64 fo], .int .i64 left] w fun e w' => e = .returned (.int .i64 (szCf left n px)) ∧ Below w.heap.size w w' := by
  have B0 := yz (below1 w (.cells #[.int .i64 kind, .int .i64 A, .int .i64 B, .int .i64 C, .int .i64 D, .slice a n c, .int .i64 wd, .int .i64 ht, .string px, .int .i64 lv, .int .i64 fo] 31))
  have A0 := yz (blk_new w [.int .i64 kind, .int .i64 A, .int .i64 B, .int .i64 C, .int .i64 D, .slice a n c, .int .i64 wd, .int .i64 ht, .string px, .int .i64 lv, .int .i64 fo] 31)
  by_cases hn : left < (n : Int)
  · have HO : Hid (szCf left n px = -1) := yz (by unfold szCf; rw [if_pos (by omega)])
    have cZ := yz (fun W => szVecS_big a n c left W (by omega) (by omega) hn hm)
    obtain ⟨q0, q1, q2, q3, q4, q5, q6, q7, q8, q9, q10⟩ := bcs11 (yx A0)
    go_enter Tryz.func6, Tryz.ntmps6
    go_wp2_with fail
    refine (yx cZ _).mono ?_
    rintro e w1 ⟨rfl, hw⟩
    rw [hw]
    clear hw w1
    go_wp2_with fail
    go_ret
    exact ⟨by rw [yx HO]; rfl, yx B0⟩
  have h0 : ¬ left - (n : Int) < 0 := by omega
  have HO : Hid (szCf left n px = szI (left - (n : Int)) px) := yz (by unfold szCf; rw [if_neg h0])
  have cZ := yz (fun W => szVecS_any a n c left W (by omega) (by omega) (by omega))
  have cF := yz (fun W => szFrame_any wd ht px (left - (n : Int)) W hs (by omega) (by omega))
  have hneg : szI (left - (n : Int)) px < 0 → szI (left - (n : Int)) px = -1 := by
    unfold szI
    split
    · intro _; rfl
    · intro h; omega
  generalize szI (left - (n : Int)) px = z at *
  obtain ⟨q0, q1, q2, q3, q4, q5, q6, q7, q8, q9, q10⟩ := bcs11 (yx A0)
  go_enter Tryz.func6, Tryz.ntmps6
  go_wp2_with fail
  refine (yx cZ _).mono ?_
  rintro e w1 ⟨rfl, hw⟩
  rw [hw]
  clear hw w1
  go_wp2_with fail
  refine (yx cF _).mono ?_
  rintro e w1 ⟨rfl, hx⟩
  have B1 := yz (below_call (yx B0) hx)
  clear hx q0 q1 q2 q3 q4 q5 q6 q7 q8 q9 q10 A0 B0
  by_cases hz : z < 0
  · have hz' := hneg hz
    clear hneg
    go_wp2_with fail
    go_ret
    exact ⟨by rw [yx HO, hz']; rfl, yx B1⟩
  · clear hneg
    go_wp2_with fail
    go_ret
    exact ⟨by rw [yx HO]; rfl, yx B1⟩
set_option maxHeartbeats 2000000 in
set_option maxRecDepth 100000 in
theorem markCommand_from (S : List D3) (n b : Nat) (kind g1 g2 g3 g4 wd ht lv fo : Int) (px : ByteArray) (K : Int) (w : World) (hn : n ≤ 1048576) (hK0 : 0 ≤ K) (hK1 : K ≤ 100000000) (hO : OwnD w b n S n) :
    Calls Tryz.prog 15 #[.agg #[.int .i64 kind, .int .i64 g1, .int .i64 g2, .int .i64 g3, .int .i64 g4, .slice (some ⟨b, 0, none⟩) n n, .int .i64 wd, .int .i64 ht, .string px, .int .i64 lv, .int .i64 fo], .int .i64 K] w fun e w' => e = .returned (.int .i64 (K + (n : Int) * 3)) ∧ w.grownBy w' (some b) := by
  have B1 := below1 w (.cells #[.int .i64 kind, .int .i64 g1, .int .i64 g2, .int .i64 g3, .int .i64 g4, .slice (some ⟨b, 0, none⟩) n n, .int .i64 wd, .int .i64 ht, .string px, .int .i64 lv, .int .i64 fo] 45)
  have O1 := blk_new w [.int .i64 kind, .int .i64 g1, .int .i64 g2, .int .i64 g3, .int .i64 g4, .slice (some ⟨b, 0, none⟩) n n, .int .i64 wd, .int .i64 ht, .string px, .int .i64 lv, .int .i64 fo] 45
  obtain ⟨fv, hfv⟩ := rowOfDirs (hO.kept B1)
  have cM := yz (markVecS_from n n b K fv _ hn hK0 hK1 hfv)
  obtain ⟨p0, p1, p2, p3, p4, p5, p6, p7, p8, p9, p10⟩ := bcs11 (O1)
  have HB := yz B1
  clear B1 O1 hfv hO
  go_enter Tryz.func15, Tryz.ntmps15
  go_wp2_with fail
  refine (yx cM).mono ?_
  rintro e w1 ⟨rfl, hg⟩
  have HG : Hid (w.grownBy w1 (some b)) := yz ⟨hg.os.trans (yx HB).os, hg.tape.trans (yx HB).tape, hg.output.trans (yx HB).output, Nat.le_trans (yx HB).size hg.size, fun k hk hne => by rw [hg.block k (Nat.lt_of_lt_of_le hk (yx HB).size) hne]; exact (yx HB).block k hk⟩
  clear hg cM p0 p1 p2 p3 p4 p5 p6 p7 p8 p9 p10
  go_wp2_with fail
  go_ret
  exact ⟨rfl, yx HG⟩
def KcAt (w : World) (b : Nat) (v : Value) (kind g1 g2 g3 g4 wd ht lv fo : Int) (px : ByteArray) : Prop := w.cell? ⟨b, 0, none⟩ = some (.int .i64 kind) ∧ w.cell? ⟨b, 1, none⟩ = some (.int .i64 g1) ∧ w.cell? ⟨b, 2, none⟩ = some (.int .i64 g2) ∧ w.cell? ⟨b, 3, none⟩ = some (.int .i64 g3) ∧ w.cell? ⟨b, 4, none⟩ = some (.int .i64 g4) ∧ w.cell? ⟨b, 5, none⟩ = some (v) ∧ w.cell? ⟨b, 6, none⟩ = some (.int .i64 wd) ∧ w.cell? ⟨b, 7, none⟩ = some (.int .i64 ht) ∧ w.cell? ⟨b, 8, none⟩ = some (.string px) ∧ w.cell? ⟨b, 9, none⟩ = some (.int .i64 lv) ∧ w.cell? ⟨b, 10, none⟩ = some (.int .i64 fo)
theorem KcAt.lt {w : World} {b : Nat} {v : Value} {kind g1 g2 g3 g4 wd ht lv fo : Int} {px : ByteArray} (h : KcAt w b v kind g1 g2 g3 g4 wd ht lv fo px) : b < w.heap.size := World.block_lt_of_cell? w _ h.1
theorem KcAt.kept {w w' : World} {b : Nat} {v : Value} {kind g1 g2 g3 g4 wd ht lv fo : Int} {px : ByteArray} (h : KcAt w b v kind g1 g2 g3 g4 wd ht lv fo px) (hB : Below w.heap.size w w') : KcAt w' b v kind g1 g2 g3 g4 wd ht lv fo px := by
  have hl := h.lt
  obtain ⟨h0, h1, h2, h3, h4, h5, h6, h7, h8, h9, h10⟩ := h
  exact ⟨by rw [hB.cell (p := ⟨b, 0, none⟩) hl]; exact h0, by rw [hB.cell (p := ⟨b, 1, none⟩) hl]; exact h1, by rw [hB.cell (p := ⟨b, 2, none⟩) hl]; exact h2, by rw [hB.cell (p := ⟨b, 3, none⟩) hl]; exact h3, by rw [hB.cell (p := ⟨b, 4, none⟩) hl]; exact h4, by rw [hB.cell (p := ⟨b, 5, none⟩) hl]; exact h5, by rw [hB.cell (p := ⟨b, 6, none⟩) hl]; exact h6, by rw [hB.cell (p := ⟨b, 7, none⟩) hl]; exact h7, by rw [hB.cell (p := ⟨b, 8, none⟩) hl]; exact h8, by rw [hB.cell (p := ⟨b, 9, none⟩) hl]; exact h9, by rw [hB.cell (p := ⟨b, 10, none⟩) hl]; exact h10⟩
theorem Blk.kc {w : World} {b : Nat} {v : Value} {kind g1 g2 g3 g4 wd ht lv fo : Int} {px : ByteArray} {t : TypeId} (h : Blk w b [.int .i64 kind, .int .i64 g1, .int .i64 g2, .int .i64 g3, .int .i64 g4, v, .int .i64 wd, .int .i64 ht, .string px, .int .i64 lv, .int .i64 fo] t) : KcAt w b v kind g1 g2 g3 g4 wd ht lv fo px :=
  ⟨h.cell 0 _ rfl, h.cell 1 _ rfl, h.cell 2 _ rfl, h.cell 3 _ rfl, h.cell 4 _ rfl, h.cell 5 _ rfl, h.cell 6 _ rfl, h.cell 7 _ rfl, h.cell 8 _ rfl, h.cell 9 _ rfl, h.cell 10 _ rfl⟩
theorem Blk.grownO {w w' : World} {b : Nat} {cs : List Value} {t : TypeId} {row : Option Nat} (h : Blk w b cs t) (hg : w.grownBy w' row) (hne : some b ≠ row) : Blk w' b cs t := (hg.block b h.lt hne).trans h
theorem keptTC {w w' : World} {P Q : Nat} {u v : Value} {lim mode A B C D coast fr kind g1 g2 g3 g4 wd ht lv fo : Int} {px : ByteArray} (h : TkAt w P u lim mode A B C D coast fr ∧ KcAt w Q v kind g1 g2 g3 g4 wd ht lv fo px) (hx : Below w.heap.size w w') : TkAt w' P u lim mode A B C D coast fr ∧ KcAt w' Q v kind g1 g2 g3 g4 wd ht lv fo px := ⟨h.1.kept hx, h.2.kept hx⟩
def ResvT (w : World) (b : Nat) : Prop := TkO w b (.slice none 0 0) 0 0 0 0 0 0 0 0 0 ∧ FreeK w b
theorem resvT_new (w : World) (t : TypeId) : ResvT (w.alloc (.cells #[.slice none 0 0, .int .i64 0, .int .i64 0, .int .i64 0, .int .i64 0, .int .i64 0, .int .i64 0, .int .i64 0, .int .i64 0, .int .i64 0] t)) w.heap.size := ⟨tkO_new w _ _ _ _ _ _ _ _ _ _ _, freeK_new w _ _⟩
theorem keptT {wx wn : World} {b : Nat} (h : ResvT wx b) (hx : Below wx.heap.size wx wn) : ResvT wn b := ⟨h.1.kept hx, h.2.kept h.1.lt hx⟩
theorem belT {w1 wx : World} {b : Nat} (h : Below w1.heap.size w1 wx) (hb : w1.heap.size ≤ b) (x0 x1 x2 x3 x4 x5 x6 x7 x8 x9 : Value) : Below w1.heap.size w1 ((((((((((wx.setCell ⟨b, 0, none⟩ x0).setCell ⟨b, 1, none⟩ x1).setCell ⟨b, 2, none⟩ x2).setCell ⟨b, 3, none⟩ x3).setCell ⟨b, 4, none⟩ x4).setCell ⟨b, 5, none⟩ x5).setCell ⟨b, 6, none⟩ x6).setCell ⟨b, 7, none⟩ x7).setCell ⟨b, 8, none⟩ x8).setCell ⟨b, 9, none⟩ x9) := (((((((((h.setCell hb _).setCell hb _).setCell hb _).setCell hb _).setCell hb _).setCell hb _).setCell hb _).setCell hb _).setCell hb _).setCell hb _
def PlT (wx : World) (B : Nat) (sv : Value) (L2 : List St) (lim2 mode2 A2 B2 C2 D2 coast2 fr2 code : Int) : Prop := ∃ blk a cap, sv = .pointer (some ⟨blk, 0, none⟩) ∧ TkO wx blk (.slice a L2.length cap) lim2 mode2 A2 B2 C2 D2 coast2 fr2 code ∧ Copied wx B L2 a cap ∧ (∀ x, a = some x → x.block ≠ blk) ∧ B ≤ blk
theorem plT_set {wn : World} {B b : Nat} {L2 : List St} {a : Option Addr} {cap : Nat} {lim2 mode2 A2 B2 C2 D2 coast2 fr2 code : Int} (hr : ResvT wn b) (hC : Copied wn B L2 a cap) (hB : B ≤ b) (hne : ∀ x, a = some x → x.block ≠ b) : PlT ((((((((((wn.setCell ⟨b, 0, none⟩ (.slice a L2.length cap)).setCell ⟨b, 1, none⟩ (.int .i64 lim2)).setCell ⟨b, 2, none⟩ (.int .i64 mode2)).setCell ⟨b, 3, none⟩ (.int .i64 A2)).setCell ⟨b, 4, none⟩ (.int .i64 B2)).setCell ⟨b, 5, none⟩ (.int .i64 C2)).setCell ⟨b, 6, none⟩ (.int .i64 D2)).setCell ⟨b, 7, none⟩ (.int .i64 coast2)).setCell ⟨b, 8, none⟩ (.int .i64 fr2)).setCell ⟨b, 9, none⟩ (.int .i64 code)) B (.pointer (some ⟨b, 0, none⟩)) L2 lim2 mode2 A2 B2 C2 D2 coast2 fr2 code := by
  refine ⟨b, a, cap, rfl, tkO_set10 hr.1 _ _ _ _ _ _ _ _ _ _, ?_, hne, hB⟩
  iterate 10 (refine Copied.off ?_ hne _ _)
  exact hC
theorem TurnAt.grown {w w' : World} {b : Nat} {p q r s : Int} {row : Option Nat} (h : TurnAt w b p q r s) (hg : w.grownBy w' row) (hne : some b ≠ row) : TurnAt w' b p q r s := ⟨cellG h.1 hg hne, cellG h.2.1 hg hne, cellG h.2.2.1 hg hne, cellG h.2.2.2 hg hne⟩
end Go.Proofs.YteoonaanoenjiaaGreatDoor
