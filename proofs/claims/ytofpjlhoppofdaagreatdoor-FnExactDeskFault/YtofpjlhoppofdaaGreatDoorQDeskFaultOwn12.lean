/- Several texts in one: TurnT, TurnR, TurnQ, DsJ, DsB. -/
import Derived.Lib.SmallJoins
import Derived.Lib.AppendIntMem
import Derived.Deep.RegionWith
import Derived.Lib.QuietBelow
import Derived.Deep.RegionHeld
import Derived.Deep.DeepCutAuto
import Derived.Laws.AppendOwn
import Derived.Test.YtofpjlhoppofdaaGreatDoorQDeskFaultOwn2
import Derived.Test.YtofpjlhoppofdaaGreatDoorQDeskFaultOwn11
import Derived.Test.YtofpjlhoppofdaaGreatDoorQDeskFaultOwn4
import Derived.Test.YtofpjlhoppofdaaGreatDoorQDeskFaultOwn9
import Derived.Test.YtofpjlhoppofdaaGreatDoorQDeskFaultOwn3
namespace Go.Proofs.YtofpjlhoppofdaaGreatDoor
open Go.RowKit Go.Joins
open Go.Sort (grow)
set_option linter.unusedVariables false
def WordsAt (w : World) (b : Nat) (s0 s1 s2 s3 : ByteArray) : Prop := w.cell? ⟨b, 0, none⟩ = some (.string s0) ∧ w.cell? ⟨b, 1, none⟩ = some (.string s1) ∧ w.cell? ⟨b, 2, none⟩ = some (.string s2) ∧ w.cell? ⟨b, 3, none⟩ = some (.string s3)
theorem WordsAt.lt {w : World} {b : Nat} {s0 s1 s2 s3 : ByteArray} (h : WordsAt w b s0 s1 s2 s3) : b < w.heap.size := World.block_lt_of_cell? w _ h.1
theorem WordsAt.kept {w w' : World} {b : Nat} {s0 s1 s2 s3 : ByteArray} (h : WordsAt w b s0 s1 s2 s3) (hB : Below w.heap.size w w') : WordsAt w' b s0 s1 s2 s3 := by
  have hb := h.lt
  obtain ⟨h0, h1, h2, h3⟩ := h
  exact ⟨by rw [hB.cell (p := ⟨b, 0, none⟩) hb]; exact h0, by rw [hB.cell (p := ⟨b, 1, none⟩) hb]; exact h1, by rw [hB.cell (p := ⟨b, 2, none⟩) hb]; exact h2, by rw [hB.cell (p := ⟨b, 3, none⟩) hb]; exact h3⟩
theorem FreeT.set {w : World} {b : Nat} (h : FreeT w b) (p : Addr) (v : Value) : FreeT (w.setCell p v) b := by
  obtain ⟨h0, h1, h2, h3⟩ := h
  refine ⟨?_, ?_, ?_, ?_⟩ <;> simp [go_sem, h0, h1, h2, h3]
def Tab (w : World) : Prop := Lib.TabIs Tryz.prog w "internal/strconv.uint64pow10" .u64 Lib.pow10Tab
theorem tab_named : Tryz.prog.globalNamed "internal/strconv.uint64pow10" = some 2 := by kernel_rfl
theorem Tab.kept {w w' : World} (h : Tab w) (hB : Below w.heap.size w w') : Tab w' := tab_stays tab_named h hB (Nat.le_refl _)
end Go.Proofs.YtofpjlhoppofdaaGreatDoor
namespace Go.Proofs.YtofpjlhoppofdaaGreatDoor
open Go.RowKit
set_option linter.unusedVariables false
theorem tstr_eq {a b : ByteArray} (h : a = b) : (a.toList == b.toList) = true := by subst h; simp
theorem tstr_ne {a b : ByteArray} (h : a ≠ b) : (a.toList == b.toList) = false := by
  rw [ByteArray.toList_eq, ByteArray.toList_eq]
  simp
  intro e
  exact h (ByteArray.ext e)
theorem read_size {s : ByteArray} (h : 8000 < s.size) : Value.agg #[.int .i64 (readP s (looseP s).a), .int .i64 (readP s (looseP s).b), .int .i64 (readP s (looseP s).c), .int .i64 (readP s (looseP s).d), .int .i64 (readC s)] = Value.agg #[.int .i64 0, .int .i64 0, .int .i64 0, .int .i64 0, .int .i64 2] := by
  unfold readP readC
  rw [if_neg (by omega), if_neg (by omega), if_neg (by omega), if_neg (by omega), if_neg (by omega)]
theorem read_bad {s : ByteArray} (h : s.size ≤ 8000) (hr : readR s = false) : Value.agg #[.int .i64 (readP s (looseP s).a), .int .i64 (readP s (looseP s).b), .int .i64 (readP s (looseP s).c), .int .i64 (readP s (looseP s).d), .int .i64 (readC s)] = Value.agg #[.int .i64 0, .int .i64 0, .int .i64 0, .int .i64 0, .int .i64 3] := by
  unfold readP readC
  rw [hr, if_neg (by simp), if_neg (by simp), if_neg (by simp), if_neg (by simp), if_pos h]
  rfl
theorem read_ok {s : ByteArray} (h : s.size ≤ 8000) (hr : readR s = true) : Value.agg #[.int .i64 (readP s (looseP s).a), .int .i64 (readP s (looseP s).b), .int .i64 (readP s (looseP s).c), .int .i64 (readP s (looseP s).d), .int .i64 (readC s)] = Value.agg #[.int .i64 (looseP s).a, .int .i64 (looseP s).b, .int .i64 (looseP s).c, .int .i64 (looseP s).d, .int .i64 0] := by
  unfold readP readC
  rw [hr, if_pos ⟨h, rfl⟩, if_pos ⟨h, rfl⟩, if_pos ⟨h, rfl⟩, if_pos ⟨h, rfl⟩, if_pos h]
  rfl
end Go.Proofs.YtofpjlhoppofdaaGreatDoor
namespace Go.Proofs.YtofpjlhoppofdaaGreatDoor
open Go.RowKit Go.Sort
set_option linter.unusedVariables false
def FourAt (w : World) (g : Nat) (x y z u : Value) : Prop := w.cell? ⟨g, 0, none⟩ = some x ∧ w.cell? ⟨g, 1, none⟩ = some y ∧ w.cell? ⟨g, 2, none⟩ = some z ∧ w.cell? ⟨g, 3, none⟩ = some u
theorem hold4 {w1 wx : World} {g : Nat} {x y z u : Value} (h : FourAt w1 g x y z u) (hB : RowKit.Below w1.heap.size w1 wx) : (wx.cell? ⟨g, 0, none⟩ = some x ∧ wx.cell? ⟨g, 1, none⟩ = some y ∧ wx.cell? ⟨g, 2, none⟩ = some z ∧ wx.cell? ⟨g, 3, none⟩ = some u) ∧ RowKit.Below w1.heap.size w1 wx := by
  obtain ⟨h0, h1, h2, h3⟩ := h
  have hb : g < w1.heap.size := World.block_lt_of_cell? w1 _ h0
  exact ⟨⟨by rw [hB.cell (p := ⟨g, 0, none⟩) hb]; exact h0, by rw [hB.cell (p := ⟨g, 1, none⟩) hb]; exact h1, by rw [hB.cell (p := ⟨g, 2, none⟩) hb]; exact h2, by rw [hB.cell (p := ⟨g, 3, none⟩) hb]; exact h3⟩, hB⟩
set_option maxHeartbeats 1000000 in
set_option maxRecDepth 100000 in
theorem specRead_any (s : ByteArray) (w : World) (hs : s.size ≤ 9223372036854775807) :
    Calls Tryz.prog 65 #[.string s] w fun e w' => e = .returned (.agg #[.int .i64 (readP s (looseP s).a), .int .i64 (readP s (looseP s).b), .int .i64 (readP s (looseP s).c), .int .i64 (readP s (looseP s).d), .int .i64 (readC s)]) ∧ RowKit.Below w.heap.size w w' := by
  by_cases h8 : 8000 < s.size
  · have HR := yz (read_size h8)
    go_enter Tryz.func65, Tryz.ntmps65
    go_wp2_with fail
    exact bodyPost_ret (v := .agg #[.int .i64 0, .int .i64 0, .int .i64 0, .int .i64 0, .int .i64 2]) (by simp [results, Tryz.results65, go_sem]) rfl ⟨by rw [yy HR], below1 _ _⟩
  · have h8' : s.size ≤ 8000 := by omega
    have h8i : ¬ (8000 : Int) < (s.size : Int) := by omega
    have HBad := yz (fun h => read_bad h8' h)
    have HOk := yz (fun h => read_ok h8' h)
    have HL := yz (fun W => l01Split_any s W h8')
    have HSL := yz (fun h => spec_len (s := s) h)
    have HSY : Hid (∀ x y z u, splitL ([], []) s.data.toList = ([x, y, z], u) → textB (partL x) (partL y) (partL z) (partL u) = s → readR s = true ∧ (looseP s).a = partL x ∧ (looseP s).b = partL y ∧ (looseP s).c = partL z ∧ (looseP s).d = partL u) := yz (fun x y z u h1 h2 => spec_yes h1 h2)
    have HSN : Hid (∀ x y z u, splitL ([], []) s.data.toList = ([x, y, z], u) → textB (partL x) (partL y) (partL z) (partL u) ≠ s → readR s = false) := yz (fun x y z u h1 h2 => spec_no h1 h2)
    clear h8 h8'
    obtain ⟨p, hp⟩ : ∃ p, splitL ([], []) s.data.toList = p := ⟨_, rfl⟩
    rw [hp] at HL HSL HSY HSN
    clear hp
    go_enter Tryz.func65, Tryz.ntmps65
    go_wp2_with fail
    refine (yy HL _).mono ?_
    rintro e w1 ⟨v, rfl, hpc, hx⟩
    have vr := (outAt_new w 0 0 0 0 0 97).kept hx
    have fr := (freeO_new w 0 0 0 0 0 97).kept (by simp) hx
    have hB : RowKit.Below w.heap.size w w1 := below_call (below1 _ _) hx
    clear hx HL
    obtain ⟨acc, cur⟩ := p
    obtain ⟨g, cap, rfl, hgl, hcs⟩ := hpc
    by_cases hl : acc.length = 3
    · match acc, hl with
      | [x, y, z], _ =>
        have q0 : w1.cell? ⟨g, 0, none⟩ = some (strV x) := hcs 0 x rfl
        have q1 : w1.cell? ⟨g, 1, none⟩ = some (strV y) := hcs 1 y rfl
        have q2 : w1.cell? ⟨g, 2, none⟩ = some (strV z) := hcs 2 z rfl
        have q3 : w1.cell? ⟨g, 3, none⟩ = some (strV cur) := hcs 3 cur rfl
        clear hcs
        obtain ⟨a, ha⟩ : ∃ v, partL x = v := ⟨_, rfl⟩
        obtain ⟨b, hb⟩ : ∃ v, partL y = v := ⟨_, rfl⟩
        obtain ⟨c, hc⟩ : ∃ v, partL z = v := ⟨_, rfl⟩
        obtain ⟨d, hd⟩ : ∃ v, partL cur = v := ⟨_, rfl⟩
        have ca : Hid (∀ W : World, Calls Tryz.prog 109 #[strV x] W fun e w' => e = .returned (.int .i64 a) ∧ w' = W) := yz (fun W => by rw [← ha]; exact l03Part_any x W)
        have cb : Hid (∀ W : World, Calls Tryz.prog 109 #[strV y] W fun e w' => e = .returned (.int .i64 b) ∧ w' = W) := yz (fun W => by rw [← hb]; exact l03Part_any y W)
        have cc : Hid (∀ W : World, Calls Tryz.prog 109 #[strV z] W fun e w' => e = .returned (.int .i64 c) ∧ w' = W) := yz (fun W => by rw [← hc]; exact l03Part_any z W)
        have cd : Hid (∀ W : World, Calls Tryz.prog 109 #[strV cur] W fun e w' => e = .returned (.int .i64 d) ∧ w' = W) := yz (fun W => by rw [← hd]; exact l03Part_any cur W)
        have HY : Hid (textB a b c d = s → readR s = true ∧ (looseP s).a = a ∧ (looseP s).b = b ∧ (looseP s).c = c ∧ (looseP s).d = d) := yz (fun h => by have := yy HSY x y z cur rfl; rw [ha, hb, hc, hd] at this; exact this h)
        have HN : Hid (textB a b c d ≠ s → readR s = false) := yz (fun h => by have := yy HSN x y z cur rfl; rw [ha, hb, hc, hd] at this; exact this h)
        have Vr := yz vr
        have Fr := yz fr
        have HB := yz hB
        clear ha hb hc hd HSY HSN HSL vr fr hB hs
        unfold strV at ca q0
        generalize (⟨x.toArray⟩ : ByteArray) = sx at ca q0
        unfold strV at cb q1
        generalize (⟨y.toArray⟩ : ByteArray) = sy at cb q1
        unfold strV at cc q2
        generalize (⟨z.toArray⟩ : ByteArray) = sz at cc q2
        unfold strV at cd q3
        generalize (⟨cur.toArray⟩ : ByteArray) = sc at cd q3
        go_wp2_with fail
        go_cut [4] (fun u wx => ∃ k, u = .pointer (some ⟨k, 0, none⟩) ∧ TurnAt wx k a b c d ∧ RowKit.Below w1.heap.size w1 wx)
        case first =>
          clear Vr Fr HB HY HN HBad HOk
          have HQ : Hid (FourAt w1 g (.string sx) (.string sy) (.string sz) (.string sc)) := yz ⟨q0, q1, q2, q3⟩
          clear q0 q1 q2 q3
          go_region_held (fun w' => (w'.cell? ⟨g, 0, none⟩ = some (.string sx) ∧ w'.cell? ⟨g, 1, none⟩ = some (.string sy) ∧ w'.cell? ⟨g, 2, none⟩ = some (.string sz) ∧ w'.cell? ⟨g, 3, none⟩ = some (.string sc)) ∧ RowKit.Below w1.heap.size w1 w') (first | (with_reducible assumption) | (with_reducible exact hold4 (yy HQ) (RowKit.Below.refl _ _).drew) | (with_reducible exact hold4 (yy HQ) (below1 _ _).drew)) ((go_at_call 109; (first | (with_reducible refine (yy ca _).mono ?_) | (with_reducible refine (yy cb _).mono ?_) | (with_reducible refine (yy cc _).mono ?_) | (with_reducible refine (yy cd _).mono ?_)); rintro e wz ⟨rfl, rfl⟩))
          all_goals (go_wp2_with fail; go_meet)
          all_goals exact ⟨_, rfl, turnAt_new w1 a b c d _, (below1 _ _).drew⟩
        case rest =>
          obtain ⟨k, rfl, vt, hx⟩ := hcut
          have vr := (yy Vr).kept hx
          have fr := (yy Fr).kept (yy Vr).lt hx
          have hB := below_call (yy HB) hx
          clear Vr Fr HB hx q0 q1 q2 q3 ca cb cc cd
          have vt' := vt
          obtain ⟨ct0, ct1, ct2, ct3⟩ := vt
          go_wp2_with fail
          refine (specText_any a b c d _).mono ?_
          rintro e w3 ⟨rfl, hx⟩
          have hlt := vr.lt
          replace vr := vr.kept hx
          replace fr := fr.kept hlt hx
          have vt := vt'.kept vt'.lt hx
          replace hB := below_call hB hx
          clear hx hlt ct0 ct1 ct2 ct3 vt'
          obtain ⟨cr0, cr1, cr2, cr3, cr4⟩ := vr
          obtain ⟨fr0, fr1, fr2, fr3, fr4⟩ := fr
          obtain ⟨ct0, ct1, ct2, ct3⟩ := vt
          by_cases htx : textB a b c d = s
          · have hy := yy HY htx
            have HF := yz (yy HOk hy.1)
            rw [hy.2.1, hy.2.2.1, hy.2.2.2.1, hy.2.2.2.2] at HF
            have HE := yz hy.2
            have hne := tstr_eq htx
            clear HBad HOk HY HN htx hy
            go_wp2_with fail
            exact bodyPost_ret (v := .agg #[.int .i64 a, .int .i64 b, .int .i64 c, .int .i64 d, .int .i64 0]) (by simp [results, Tryz.results65, go_sem, cr0, cr1, cr2, cr3, cr4]) rfl ⟨by rw [(yy HE).1, (yy HE).2.1, (yy HE).2.2.1, (yy HE).2.2.2, yy HF], below_set5 hB (Nat.le_refl _) _ _ _ _ _⟩
          · have HF := yz (yy HBad (yy HN htx))
            have hne := tstr_ne htx
            clear HBad HOk HY HN htx
            go_wp2_with fail
            exact bodyPost_ret (v := .agg #[.int .i64 0, .int .i64 0, .int .i64 0, .int .i64 0, .int .i64 3]) (by simp [results, Tryz.results65, go_sem, cr0, cr1, cr2, cr3, cr4]) rfl ⟨by rw [yy HF], below_set5 hB (Nat.le_refl _) _ _ _ _ _⟩
    · have HF := yz (yy HBad (yy HSL hl))
      have hln : (((acc ++ [cur]).length : Int) != 4) = true := by simp; omega
      obtain ⟨cr0, cr1, cr2, cr3, cr4⟩ := vr
      obtain ⟨fr0, fr1, fr2, fr3, fr4⟩ := fr
      generalize (acc ++ [cur]).length = n at hln ⊢
      clear HBad HOk HSL HSY HSN hcs hl
      go_wp2_with fail
      exact bodyPost_ret (v := .agg #[.int .i64 0, .int .i64 0, .int .i64 0, .int .i64 0, .int .i64 3]) (by simp [results, Tryz.results65, go_sem, cr0, cr1, cr2, cr3, cr4]) rfl ⟨by rw [yy HF], below_set5 hB (Nat.le_refl _) _ _ _ _ _⟩
end Go.Proofs.YtofpjlhoppofdaaGreatDoor
namespace Go.Proofs.YtofpjlhoppofdaaGreatDoor
open Go.RowKit Go.Sort
set_option linter.unusedVariables false
set_option linter.unusedSimpArgs false
def rd1 (s : ByteArray) : Int := readP s (looseP s).a
def rd2 (s : ByteArray) : Int := readP s (looseP s).b
def rd3 (s : ByteArray) : Int := readP s (looseP s).c
def rd4 (s : ByteArray) : Int := readP s (looseP s).d
def okTx : ByteArray := ⟨#[111, 107]⟩
def coKR (s : ByteArray) (u : U4) : Int := coK (rd1 s) (rd2 s) (rd3 s) (rd4 s) u.1 u.2.1 u.2.2.1 u.2.2.2
def coVR (s : ByteArray) (u : U4) : U4 := (coV1 (rd1 s) (rd2 s) (rd3 s) (rd4 s) u.1 u.2.1 u.2.2.1 u.2.2.2, coV2 (rd1 s) (rd2 s) (rd3 s) (rd4 s) u.1 u.2.1 u.2.2.1 u.2.2.2, coV3 (rd1 s) (rd2 s) (rd3 s) (rd4 s) u.1 u.2.1 u.2.2.1 u.2.2.2, coV4 (rd1 s) (rd2 s) (rd3 s) (rd4 s) u.1 u.2.1 u.2.2.1 u.2.2.2)
def turnedD (t : Tk) (u : U4) (s : ByteArray) (told : Bool) : (Tk × U4) × ByteArray :=
  if readC s = 0 then (if coKR s u = 0 then ((if told = true then gyroT t (rd1 s) (rd2 s) (rd3 s) (rd4 s) else t, coVR s u), okTx) else ((t, u), errT (coKR s u).toNat)) else ((t, u), errT (readC s).toNat)
theorem readC_span (s : ByteArray) : 0 ≤ readC s ∧ readC s ≤ 9 := by
  unfold readC
  split
  · split <;> omega
  · omega
theorem coK_span (a b c d e f g h : Int) : 0 ≤ coK a b c d e f g h ∧ coK a b c d e f g h ≤ 9 := by
  unfold coK ofC
  repeat' split
  all_goals omega
theorem specReadR_any (s : ByteArray) (w : World) (hs : s.size ≤ 9223372036854775807) :
    Calls Tryz.prog 65 #[.string s] w fun e w' => e = .returned (.agg #[.int .i64 (rd1 s), .int .i64 (rd2 s), .int .i64 (rd3 s), .int .i64 (rd4 s), .int .i64 (readC s)]) ∧ Below w.heap.size w w' := specRead_any s w hs
theorem specComposeV_any (g1 g2 g3 g4 a b c d : Int) (w : World) :
    Calls Tryz.prog 66 #[.agg #[.int .i64 g1, .int .i64 g2, .int .i64 g3, .int .i64 g4], .agg #[.int .i64 a, .int .i64 b, .int .i64 c, .int .i64 d]] w fun e w' => e = .returned (.agg #[.int .i64 (coV1 g1 g2 g3 g4 a b c d), .int .i64 (coV2 g1 g2 g3 g4 a b c d), .int .i64 (coV3 g1 g2 g3 g4 a b c d), .int .i64 (coV4 g1 g2 g3 g4 a b c d), .int .i64 (coK g1 g2 g3 g4 a b c d)]) ∧ Below w.heap.size w w' := specCompose_any g1 g2 g3 g4 a b c d w
theorem DeskAt.put4 {W : World} {db B : Nat} {t : Tk} {u : U4} {a : Option Addr} {cap : Nat} (h : DeskAt W db B t u a cap) (x1 x2 x3 x4 : Int) : DeskAt ((((W.setCell ⟨db, 9, none⟩ (.int .i64 x1)).setCell ⟨db, 10, none⟩ (.int .i64 x2)).setCell ⟨db, 11, none⟩ (.int .i64 x3)).setCell ⟨db, 12, none⟩ (.int .i64 x4)) db B t (x1, x2, x3, x4) a cap ∧ W.grownBy ((((W.setCell ⟨db, 9, none⟩ (.int .i64 x1)).setCell ⟨db, 10, none⟩ (.int .i64 x2)).setCell ⟨db, 11, none⟩ (.int .i64 x3)).setCell ⟨db, 12, none⟩ (.int .i64 x4)) (some db) := by
  have hg : W.grownBy ((((W.setCell ⟨db, 9, none⟩ (.int .i64 x1)).setCell ⟨db, 10, none⟩ (.int .i64 x2)).setCell ⟨db, 11, none⟩ (.int .i64 x3)).setCell ⟨db, 12, none⟩ (.int .i64 x4)) (some db) := grown_set (grown_set (grown_set (grown_set (grown_below (Below.refl _ _)) 9 _) 10 _) 11 _) 12 _
  exact ⟨⟨Blk.set (Blk.set (Blk.set (Blk.set h.blk 9 (.int .i64 x1)) 10 (.int .i64 x2)) 11 (.int .i64 x3)) 12 (.int .i64 x4), copied_far h.sky hg h.far, h.far⟩, hg⟩
theorem blk5_put {W : World} {xb : Nat} {t : TypeId} {v0 v1 v2 v3 v4 : Value} (h : Blk W xb [v0, v1, v2, v3, v4] t) (x0 x1 x2 x3 x4 : Value) : Blk (((((W.setCell ⟨xb, 0, none⟩ x0).setCell ⟨xb, 1, none⟩ x1).setCell ⟨xb, 2, none⟩ x2).setCell ⟨xb, 3, none⟩ x3).setCell ⟨xb, 4, none⟩ x4) xb [x0, x1, x2, x3, x4] t := Blk.set (Blk.set (Blk.set (Blk.set (Blk.set h 0 x0) 1 x1) 2 x2) 3 x3) 4 x4
theorem below5_put {n : Nat} {w W : World} {xb : Nat} (h : Below n w W) (hx : n ≤ xb) (x0 x1 x2 x3 x4 : Value) : Below n w (((((W.setCell ⟨xb, 0, none⟩ x0).setCell ⟨xb, 1, none⟩ x1).setCell ⟨xb, 2, none⟩ x2).setCell ⟨xb, 3, none⟩ x3).setCell ⟨xb, 4, none⟩ x4) := ((((h.setCell hx _).setCell hx _).setCell hx _).setCell hx _).setCell hx _
theorem blk10_put {W : World} {xb : Nat} {t : TypeId} {v0 v1 v2 v3 v4 v5 v6 v7 v8 v9 : Value} (h : Blk W xb [v0, v1, v2, v3, v4, v5, v6, v7, v8, v9] t) (x0 x1 x2 x3 x4 x5 x6 x7 x8 x9 : Value) : Blk ((((((((((W.setCell ⟨xb, 0, none⟩ x0).setCell ⟨xb, 1, none⟩ x1).setCell ⟨xb, 2, none⟩ x2).setCell ⟨xb, 3, none⟩ x3).setCell ⟨xb, 4, none⟩ x4).setCell ⟨xb, 5, none⟩ x5).setCell ⟨xb, 6, none⟩ x6).setCell ⟨xb, 7, none⟩ x7).setCell ⟨xb, 8, none⟩ x8).setCell ⟨xb, 9, none⟩ x9) xb [x0, x1, x2, x3, x4, x5, x6, x7, x8, x9] t := Blk.set (Blk.set (Blk.set (Blk.set (Blk.set (Blk.set (Blk.set (Blk.set (Blk.set (Blk.set h 0 x0) 1 x1) 2 x2) 3 x3) 4 x4) 5 x5) 6 x6) 7 x7) 8 x8) 9 x9
theorem below10_put {n : Nat} {w W : World} {xb : Nat} (h : Below n w W) (hx : n ≤ xb) (x0 x1 x2 x3 x4 x5 x6 x7 x8 x9 : Value) : Below n w ((((((((((W.setCell ⟨xb, 0, none⟩ x0).setCell ⟨xb, 1, none⟩ x1).setCell ⟨xb, 2, none⟩ x2).setCell ⟨xb, 3, none⟩ x3).setCell ⟨xb, 4, none⟩ x4).setCell ⟨xb, 5, none⟩ x5).setCell ⟨xb, 6, none⟩ x6).setCell ⟨xb, 7, none⟩ x7).setCell ⟨xb, 8, none⟩ x8).setCell ⟨xb, 9, none⟩ x9) := (((((((((h.setCell hx _).setCell hx _).setCell hx _).setCell hx _).setCell hx _).setCell hx _).setCell hx _).setCell hx _).setCell hx _).setCell hx _
set_option maxHeartbeats 8000000 in
set_option maxRecDepth 100000 in
theorem specTurned_any (w : World) (db B : Nat) (t : Tk) (u : U4) (a : Option Addr) (cap : Nat) (s : ByteArray) (told : Bool) (hn : t.L.length ≤ 1048576) (hs : s.size ≤ 9223372036854775807) (hB : B ≤ w.heap.size) (hD : DeskAt w db B t u a cap) :
    Calls Tryz.prog 38 #[.pointer (some ⟨db, 0, none⟩), .string s, .bool told] w fun e w' => e = .returned (.string (turnedD t u s told).2) ∧ (∃ a' cap', DeskAt w' db B (turnedD t u s told).1.1 (turnedD t u s told).1.2 a' cap') ∧ w.grownBy w' (some db) := by
  have HC : Hid (turnedD t u s told = if readC s = 0 then (if coKR s u = 0 then ((if told = true then gyroT t (rd1 s) (rd2 s) (rd3 s) (rd4 s) else t, coVR s u), okTx) else ((t, u), errT (coKR s u).toNat)) else ((t, u), errT (readC s).toNat)) := yz rfl
  have cR := yz (specReadR_any s w hs)
  have hsp1 := readC_span s
  have hsp2 : 0 ≤ coKR s u ∧ coKR s u ≤ 9 := coK_span _ _ _ _ _ _ _ _
  unfold coVR coKR at HC
  unfold coKR at hsp2
  generalize turnedD t u s told = R at *
  generalize rd1 s = g1 at *
  generalize rd2 s = g2 at *
  generalize rd3 s = g3 at *
  generalize rd4 s = g4 at *
  generalize readC s = gc at *
  obtain ⟨u1, u2, u3, u4⟩ := u
  obtain ⟨L, lim, mode, A, B', C, D, coast, fr⟩ := t
  dsimp only at hn hD HC hsp2
  have cC := yz (fun W => specComposeV_any g1 g2 g3 g4 u1 u2 u3 u4 W)
  have cG := yz (fun W h => specGyro_any L lim mode A B' C D coast fr g1 g2 g3 g4 a cap W hn h)
  generalize coV1 g1 g2 g3 g4 u1 u2 u3 u4 = x1 at *
  generalize coV2 g1 g2 g3 g4 u1 u2 u3 u4 = x2 at *
  generalize coV3 g1 g2 g3 g4 u1 u2 u3 u4 = x3 at *
  generalize coV4 g1 g2 g3 g4 u1 u2 u3 u4 = x4 at *
  generalize coK g1 g2 g3 g4 u1 u2 u3 u4 = xk at *
  generalize gyroT ⟨L, lim, mode, A, B', C, D, coast, fr⟩ g1 g2 g3 g4 = t2 at *
  generalize gyroC ⟨L, lim, mode, A, B', C, D, coast, fr⟩ g1 g2 g3 g4 = yc at *
  obtain ⟨L2, l2, m2, A2, B2, C2, D2, o2, f2⟩ := t2
  have HD := yz hD
  clear hD
  go_enter Tryz.func38, Tryz.ntmps38
  go_wp2_with fail
  refine (yy cR).mono ?_
  rintro e W1 ⟨rfl, hx⟩
  have HX1 := yz (blk_new W1 [.int .i64 g1, .int .i64 g2, .int .i64 g3, .int .i64 g4, .int .i64 gc] 97)
  have HB1 := yz (below_call hx (below1 W1 (.cells #[.int .i64 g1, .int .i64 g2, .int .i64 g3, .int .i64 g4, .int .i64 gc] 97)))
  have hgb : w.heap.size ≤ W1.heap.size := hx.size
  have x4' := (yy HX1).cell 4 _ rfl
  clear hx cR
  by_cases hc : gc = 0
  case neg =>
    rw [if_neg hc] at HC
    obtain ⟨n, rfl⟩ := Int.eq_ofNat_of_zero_le hsp1.1
    go_wp2_with fail
    refine (l09Error_any n _ (by omega)).mono ?_
    rintro e W3 ⟨rfl, hx3⟩
    have HB3 := yz (below_call (yy HB1) hx3)
    go_wp2_with fail
    go_ret
    rw [yy HC]
    exact ⟨rfl, ⟨_, _, (yy HD).kept (yy HB3)⟩, grown_below (yy HB3)⟩
  subst hc
  rw [if_pos rfl] at HC
  go_upto_region 4 with fail
  have hdl : db < w.heap.size := (yy HD).lt
  generalize W1.alloc (.cells #[.int .i64 g1, .int .i64 g2, .int .i64 g3, .int .i64 g4, .int .i64 0] 97) = W at *
  generalize W1.heap.size = gb at *
  clear x4'
  have HDW := yz ((yy HD).kept (yy HB1))
  have hgl : gb < W.heap.size := (yy HX1).lt
  have hdl2 : db < W.heap.size := (yy HDW).lt
  obtain ⟨k0, k1, k2, k3⟩ := bcs4 (yy HX1)
  have k9 := (yy HDW).blk.cell 9 _ rfl
  have k10 := (yy HDW).blk.cell 10 _ rfl
  have k11 := (yy HDW).blk.cell 11 _ rfl
  have k12 := (yy HDW).blk.cell 12 _ rfl
  have HKS : Hid (∀ w' : World, Below W.heap.size W w' → (w'.cell? ⟨gb, 0, none⟩ = some (.int .i64 g1) ∧ w'.cell? ⟨gb, 1, none⟩ = some (.int .i64 g2) ∧ w'.cell? ⟨gb, 2, none⟩ = some (.int .i64 g3) ∧ w'.cell? ⟨gb, 3, none⟩ = some (.int .i64 g4)) ∧ (w'.cell? ⟨db, 9, none⟩ = some (.int .i64 u1) ∧ w'.cell? ⟨db, 10, none⟩ = some (.int .i64 u2) ∧ w'.cell? ⟨db, 11, none⟩ = some (.int .i64 u3) ∧ w'.cell? ⟨db, 12, none⟩ = some (.int .i64 u4))) := yz (fun w' h => ⟨⟨by rw [h.cell hgl]; exact k0, by rw [h.cell hgl]; exact k1, by rw [h.cell hgl]; exact k2, by rw [h.cell hgl]; exact k3⟩, ⟨by rw [h.cell hdl2]; exact k9, by rw [h.cell hdl2]; exact k10, by rw [h.cell hdl2]; exact k11, by rw [h.cell hdl2]; exact k12⟩⟩)
  go_cut [8] (fun sv wx => ∃ xb, sv = .pointer (some ⟨xb, 0, none⟩) ∧ Blk wx xb [.int .i64 x1, .int .i64 x2, .int .i64 x3, .int .i64 x4, .int .i64 xk] 97 ∧ W.heap.size ≤ xb ∧ Below W.heap.size W wx)
  case first =>
    refine wp_region_held_drew (S := (fun w' => (w'.cell? ⟨gb, 0, none⟩ = some (.int .i64 g1) ∧ w'.cell? ⟨gb, 1, none⟩ = some (.int .i64 g2) ∧ w'.cell? ⟨gb, 2, none⟩ = some (.int .i64 g3) ∧ w'.cell? ⟨gb, 3, none⟩ = some (.int .i64 g4)) ∧ (w'.cell? ⟨db, 9, none⟩ = some (.int .i64 u1) ∧ w'.cell? ⟨db, 10, none⟩ = some (.int .i64 u2) ∧ w'.cell? ⟨db, 11, none⟩ = some (.int .i64 u3) ∧ w'.cell? ⟨db, 12, none⟩ = some (.int .i64 u4)))) (by kernel_rfl) (yy HKS W (Below.refl _ _)) (fun hHeld => ?_)
    clear k0 k1 k2 k3 k9 k10 k11 k12
    refine wpAnyH_take (i := 0) (v := ?_) rfl (by kernel_rfl) (by kernel_rfl) (by kernel_rfl) (fun _ _ _ h => h) (Or.inl ⟨by rfl, ?_⟩) (by assumption) ?_
    rotate_left
    · intro W0 hSw; (try dsimp only at hSw); go_simp <;> with_reducible rfl
    try simp only [Act.put, List.setIfInBounds_toArray, List.set_cons_zero, List.set_cons_succ]
    refine wpAnyH_take (i := 1) (v := ?_) rfl (by kernel_rfl) (by kernel_rfl) (by kernel_rfl) (fun _ _ _ h => h) (Or.inl ⟨by rfl, ?_⟩) (by assumption) ?_
    rotate_left
    · intro W0 hSw; (try dsimp only at hSw); go_simp <;> with_reducible rfl
    try simp only [Act.put, List.setIfInBounds_toArray, List.set_cons_zero, List.set_cons_succ]
    refine wpAnyH_take (i := 2) (v := ?_) rfl (by kernel_rfl) (by kernel_rfl) (by kernel_rfl) (fun _ _ _ h => h) (Or.inl ⟨by rfl, ?_⟩) (by assumption) ?_
    rotate_left
    · intro W0 hSw; (try dsimp only at hSw); go_simp <;> with_reducible rfl
    try simp only [Act.put, List.setIfInBounds_toArray, List.set_cons_zero, List.set_cons_succ]
    refine wpAnyH_take (i := 3) (v := ?_) rfl (by kernel_rfl) (by kernel_rfl) (by kernel_rfl) (fun _ _ _ h => h) (Or.inl ⟨by rfl, ?_⟩) (by assumption) ?_
    rotate_left
    · intro W0 hSw; (try dsimp only at hSw); go_simp <;> with_reducible rfl
    try simp only [Act.put, List.setIfInBounds_toArray, List.set_cons_zero, List.set_cons_succ]
    refine wpAnyH_take (i := 4) (v := ?_) rfl (by kernel_rfl) (by kernel_rfl) (by kernel_rfl) (fun _ _ _ h => h) (Or.inl ⟨by rfl, ?_⟩) (by assumption) ?_
    rotate_left
    · intro W0 hSw; (try dsimp only at hSw); go_simp <;> with_reducible rfl
    try simp only [Act.put, List.setIfInBounds_toArray, List.set_cons_zero, List.set_cons_succ]
    refine wpAnyH_take (i := 5) (v := ?_) rfl (by kernel_rfl) (by kernel_rfl) (by kernel_rfl) (fun _ _ _ h => h) (Or.inl ⟨by rfl, ?_⟩) (by assumption) ?_
    rotate_left
    · intro W0 hSw; (try dsimp only at hSw); go_simp <;> with_reducible rfl
    try simp only [Act.put, List.setIfInBounds_toArray, List.set_cons_zero, List.set_cons_succ]
    refine wpAnyH_ready (rs := [6, 7]) (by kernel_rfl) (by simp) ?_
    refine AllReadyH.cons rfl (fun K hK => ?_) (AllReadyH.cons rfl (fun K hK => ?_) AllReadyH.nil)
    · go_simp
      refine ((yy cC) W.drew).mono ?_
      rintro e V1 ⟨rfl, hx⟩
      have HV1 : Hid (Below W.heap.size W V1) := yz ((Below.refl W.heap.size W).drew.trans hx)
      clear hx
      refine hK.out _ _ (yy HKS _ (yy HV1)) (fun hHeld1 => ?_)
      clear hK K hHeld
      refine wpAnyH_ready (rs := [7]) (by kernel_rfl) (by simp) ?_
      refine AllReadyH.cons rfl (fun K hK => ?_) AllReadyH.nil
      go_simp
      have HV2 := yz (below_call (yy HV1) (below1 V1 (.cells #[.int .i64 0, .int .i64 0, .int .i64 0, .int .i64 0, .int .i64 0] 97)))
      have HX2 := yz (blk_new V1 [.int .i64 0, .int .i64 0, .int .i64 0, .int .i64 0, .int .i64 0] 97)
      have hxb : W.heap.size ≤ V1.heap.size := (yy HV1).size
      generalize V1.alloc (.cells #[.int .i64 0, .int .i64 0, .int .i64 0, .int .i64 0, .int .i64 0] 97) = V2 at *
      generalize V1.heap.size = xb at *
      refine hK.out _ _ (yy HKS _ (yy HV2)) (fun hHeld => ?_)
      clear hK K hHeld1
      have c0 := (yy HX2).cell 0 _ rfl
      have z0 := (yy HX2).free 0
      have c1 := (yy HX2).cell 1 _ rfl
      have z1 := (yy HX2).free 1
      have c2 := (yy HX2).cell 2 _ rfl
      have z2 := (yy HX2).free 2
      have c3 := (yy HX2).cell 3 _ rfl
      have z3 := (yy HX2).free 3
      have c4 := (yy HX2).cell 4 _ rfl
      have z4 := (yy HX2).free 4
      refine wpAnyH_ready (rs := [8]) (by kernel_rfl) (by simp) ?_
      refine AllReadyH.cons rfl (fun K hK => ?_) AllReadyH.nil
      go_simp
      have HX3 := yz (blk5_put (yy HX2) (.int .i64 x1) (.int .i64 x2) (.int .i64 x3) (.int .i64 x4) (.int .i64 xk))
      have HV3 := yz (below5_put (yy HV2) hxb (.int .i64 x1) (.int .i64 x2) (.int .i64 x3) (.int .i64 x4) (.int .i64 xk))
      refine hK.out _ _ (yy HKS _ (yy HV3)) (fun hHeld1 => ?_)
      clear hK K hHeld
      refine wpAnyH_done (by kernel_rfl) ?_ _
      clear hHeld1 c0 c1 c2 c3 c4 z0 z1 z2 z3 z4
      go_wp2_with fail
      go_meet
      exact ⟨_, rfl, yy HX3, hxb, yy HV3⟩
    · go_simp
      have HV1 : Hid (Below W.heap.size W (W.drew.alloc (.cells #[.int .i64 0, .int .i64 0, .int .i64 0, .int .i64 0, .int .i64 0] 97))) := yz ((Below.refl W.heap.size W).drew.trans (below1 W.drew (.cells #[.int .i64 0, .int .i64 0, .int .i64 0, .int .i64 0, .int .i64 0] 97)))
      have HX1' : Hid (Blk (W.drew.alloc (.cells #[.int .i64 0, .int .i64 0, .int .i64 0, .int .i64 0, .int .i64 0] 97)) W.heap.size [.int .i64 0, .int .i64 0, .int .i64 0, .int .i64 0, .int .i64 0] 97) := yz (blk_new W.drew [.int .i64 0, .int .i64 0, .int .i64 0, .int .i64 0, .int .i64 0] 97)
      refine hK.out _ _ (yy HKS _ (yy HV1)) (fun hHeld1 => ?_)
      clear hK K hHeld
      refine wpAnyH_ready (rs := [6]) (by kernel_rfl) (by simp) ?_
      refine AllReadyH.cons rfl (fun K hK => ?_) AllReadyH.nil
      go_simp
      refine ((yy cC) _).mono ?_
      rintro e V2 ⟨rfl, hx⟩
      have HV2 := yz (below_call (yy HV1) hx)
      have HX2 := yz ((yy HX1').kept hx)
      clear hx HX1'
      refine hK.out _ _ (yy HKS _ (yy HV2)) (fun hHeld => ?_)
      clear hK K hHeld1
      have c0 := (yy HX2).cell 0 _ rfl
      have z0 := (yy HX2).free 0
      have c1 := (yy HX2).cell 1 _ rfl
      have z1 := (yy HX2).free 1
      have c2 := (yy HX2).cell 2 _ rfl
      have z2 := (yy HX2).free 2
      have c3 := (yy HX2).cell 3 _ rfl
      have z3 := (yy HX2).free 3
      have c4 := (yy HX2).cell 4 _ rfl
      have z4 := (yy HX2).free 4
      refine wpAnyH_ready (rs := [8]) (by kernel_rfl) (by simp) ?_
      refine AllReadyH.cons rfl (fun K hK => ?_) AllReadyH.nil
      go_simp
      have HX3 := yz (blk5_put (yy HX2) (.int .i64 x1) (.int .i64 x2) (.int .i64 x3) (.int .i64 x4) (.int .i64 xk))
      have HV3 := yz (below5_put (yy HV2) (Nat.le_refl _) (.int .i64 x1) (.int .i64 x2) (.int .i64 x3) (.int .i64 x4) (.int .i64 xk))
      refine hK.out _ _ (yy HKS _ (yy HV3)) (fun hHeld1 => ?_)
      clear hK K hHeld
      refine wpAnyH_done (by kernel_rfl) ?_ _
      clear hHeld1 c0 c1 c2 c3 c4 z0 z1 z2 z3 z4
      go_wp2_with fail
      go_meet
      exact ⟨_, rfl, yy HX3, Nat.le_refl _, yy HV3⟩
  case rest =>
  obtain ⟨xb, rfl, hX, hxb, hx⟩ := hcut
  have HX := yz hX
  have HBc := yz (below_call (yy HB1) hx)
  have HDc := yz ((yy HDW).kept hx)
  have HGc := yz ((yy HX1).kept hx)
  have c4 := (yy HX).cell 4 _ rfl
  clear hX hx HKS HDW HX1 HB1 k0 k1 k2 k3 k9 k10 k11 k12
  by_cases hc : xk = 0
  case neg =>
    rw [if_neg hc] at HC
    obtain ⟨n, rfl⟩ := Int.eq_ofNat_of_zero_le hsp2.1
    go_wp2_with fail
    refine (l09Error_any n _ (by omega)).mono ?_
    rintro e W3 ⟨rfl, hx3⟩
    have HB3 := yz (below_call (yy HBc) hx3)
    go_wp2_with fail
    go_ret
    rw [yy HC]
    exact ⟨rfl, ⟨_, _, (yy HD).kept (yy HB3)⟩, grown_below (yy HB3)⟩
  subst hc
  rw [if_pos rfl] at HC
  have hwc : w.heap.size ≤ wc.heap.size := (yy HBc).size
  have hdc : db < wc.heap.size := (yy HDc).lt
  have hgc : gb < wc.heap.size := (yy HGc).lt
  have hxc : xb < wc.heap.size := (yy HX).lt
  have hne : db ≠ xb := by omega
  have d0 := (yy HDc).blk.cell 0 _ rfl
  have d1 := (yy HDc).blk.cell 1 _ rfl
  have d2 := (yy HDc).blk.cell 2 _ rfl
  have d3 := (yy HDc).blk.cell 3 _ rfl
  have d4 := (yy HDc).blk.cell 4 _ rfl
  have d5 := (yy HDc).blk.cell 5 _ rfl
  have d6 := (yy HDc).blk.cell 6 _ rfl
  have d7 := (yy HDc).blk.cell 7 _ rfl
  have d8 := (yy HDc).blk.cell 8 _ rfl
  cases told with
  | false =>
    go_upto_region 10 with fail
    have HY6 := yz (blk_new wc [.slice a L.length cap, .int .i64 lim, .int .i64 mode, .int .i64 A, .int .i64 B', .int .i64 C, .int .i64 D, .int .i64 coast, .int .i64 fr, .int .i64 0] 50)
    have HB6 := yz (below1 wc (.cells #[.slice a L.length cap, .int .i64 lim, .int .i64 mode, .int .i64 A, .int .i64 B', .int .i64 C, .int .i64 D, .int .i64 coast, .int .i64 fr, .int .i64 0] 50))
    have HC6 := yz ((yy HDc).sky.kept (yy HB6))
    have HF := (yy HDc).far
    clear d0 d1 d2 d3 d4 d5 d6 d7 d8
    generalize wc.alloc (.cells #[.slice a L.length cap, .int .i64 lim, .int .i64 mode, .int .i64 A, .int .i64 B', .int .i64 C, .int .i64 D, .int .i64 coast, .int .i64 fr, .int .i64 0] 50) = W6 at *
    have HE := yz ((yy HDc).kept (yy HB6))
    have HX6 := yz ((yy HX).kept (yy HB6))
    obtain ⟨c0, c1, c2, c3⟩ := bcs4 (yy HX6)
    have e9 := (yy HE).blk.cell 9 _ rfl
    have z9 := (yy HE).blk.free 9
    have e10 := (yy HE).blk.cell 10 _ rfl
    have z10 := (yy HE).blk.free 10
    have e11 := (yy HE).blk.cell 11 _ rfl
    have z11 := (yy HE).blk.free 11
    have e12 := (yy HE).blk.cell 12 _ rfl
    have z12 := (yy HE).blk.free 12
    go_upto_region 11 with fail
    clear c0 c1 c2 c3 e9 e10 e11 e12 z9 z10 z11 z12
    obtain ⟨HP4, hg4⟩ := DeskAt.put4 (yy HE) x1 x2 x3 x4
    have HY7 := yz (Blk.grown (yy HY6) hg4 (fun e => by have := Option.some.inj e; omega))
    have HC7 := yz (copied_far (yy HC6) hg4 (HF))
    have HG7 := yz (grown_more (grown_below (yy HBc)) (grown_more (grown_below (yy HB6)) hg4))
    have HP7 := yz HP4
    clear HP4 hg4
    generalize (((W6.setCell ⟨db, 9, none⟩ (.int .i64 x1)).setCell ⟨db, 10, none⟩ (.int .i64 x2)).setCell ⟨db, 11, none⟩ (.int .i64 x3)).setCell ⟨db, 12, none⟩ (.int .i64 x4) = W7 at *
    have y0 := (yy HY7).cell 0 _ rfl
    have e0 := (yy HP7).blk.cell 0 _ rfl
    have z0 := (yy HP7).blk.free 0
    have y1 := (yy HY7).cell 1 _ rfl
    have e1 := (yy HP7).blk.cell 1 _ rfl
    have z1 := (yy HP7).blk.free 1
    have y2 := (yy HY7).cell 2 _ rfl
    have e2 := (yy HP7).blk.cell 2 _ rfl
    have z2 := (yy HP7).blk.free 2
    have y3 := (yy HY7).cell 3 _ rfl
    have e3 := (yy HP7).blk.cell 3 _ rfl
    have z3 := (yy HP7).blk.free 3
    have y4 := (yy HY7).cell 4 _ rfl
    have e4 := (yy HP7).blk.cell 4 _ rfl
    have z4 := (yy HP7).blk.free 4
    have y5 := (yy HY7).cell 5 _ rfl
    have e5 := (yy HP7).blk.cell 5 _ rfl
    have z5 := (yy HP7).blk.free 5
    have y6 := (yy HY7).cell 6 _ rfl
    have e6 := (yy HP7).blk.cell 6 _ rfl
    have z6 := (yy HP7).blk.free 6
    have y7 := (yy HY7).cell 7 _ rfl
    have e7 := (yy HP7).blk.cell 7 _ rfl
    have z7 := (yy HP7).blk.free 7
    have y8 := (yy HY7).cell 8 _ rfl
    have e8 := (yy HP7).blk.cell 8 _ rfl
    have z8 := (yy HP7).blk.free 8
    go_wp2_with fail
    obtain ⟨HP, hg⟩ := DeskAt.put9 (yy HP7) ⟨L, lim, mode, A, B', C, D, coast, fr⟩ a cap (yy HC7) (HF)
    dsimp only at HP hg
    have HP8 := yz HP
    have HG8 := yz (grown_more (yy HG7) hg)
    clear HP hg
    go_ret
    rw [yy HC]
    exact ⟨rfl, ⟨_, _, yy HP8⟩, yy HG8⟩
  | true =>
    go_upto_region 9 with fail
    have HY5 := yz (blk_new wc [.slice a L.length cap, .int .i64 lim, .int .i64 mode, .int .i64 A, .int .i64 B', .int .i64 C, .int .i64 D, .int .i64 coast, .int .i64 fr, .int .i64 0] 50)
    have HB5 := yz (below1 wc (.cells #[.slice a L.length cap, .int .i64 lim, .int .i64 mode, .int .i64 A, .int .i64 B', .int .i64 C, .int .i64 D, .int .i64 coast, .int .i64 fr, .int .i64 0] 50))
    have h5 : wc.heap.size < (wc.alloc (.cells #[.slice a L.length cap, .int .i64 lim, .int .i64 mode, .int .i64 A, .int .i64 B', .int .i64 C, .int .i64 D, .int .i64 coast, .int .i64 fr, .int .i64 0] 50)).heap.size := (yy HY5).lt
    obtain ⟨k0, k1, k2, k3⟩ := bcs4 (yy HGc)
    have HKS : Hid (∀ w' : World, Below wc.heap.size wc w' → (w'.cell? ⟨db, 0, none⟩ = some (.slice a L.length cap) ∧ w'.cell? ⟨db, 1, none⟩ = some (.int .i64 lim) ∧ w'.cell? ⟨db, 2, none⟩ = some (.int .i64 mode) ∧ w'.cell? ⟨db, 3, none⟩ = some (.int .i64 A) ∧ w'.cell? ⟨db, 4, none⟩ = some (.int .i64 B') ∧ w'.cell? ⟨db, 5, none⟩ = some (.int .i64 C) ∧ w'.cell? ⟨db, 6, none⟩ = some (.int .i64 D) ∧ w'.cell? ⟨db, 7, none⟩ = some (.int .i64 coast) ∧ w'.cell? ⟨db, 8, none⟩ = some (.int .i64 fr)) ∧ (w'.cell? ⟨gb, 0, none⟩ = some (.int .i64 g1) ∧ w'.cell? ⟨gb, 1, none⟩ = some (.int .i64 g2) ∧ w'.cell? ⟨gb, 2, none⟩ = some (.int .i64 g3) ∧ w'.cell? ⟨gb, 3, none⟩ = some (.int .i64 g4))) := yz (fun w' h => ⟨⟨by rw [h.cell hdc]; exact d0, by rw [h.cell hdc]; exact d1, by rw [h.cell hdc]; exact d2, by rw [h.cell hdc]; exact d3, by rw [h.cell hdc]; exact d4, by rw [h.cell hdc]; exact d5, by rw [h.cell hdc]; exact d6, by rw [h.cell hdc]; exact d7, by rw [h.cell hdc]; exact d8⟩, ⟨by rw [h.cell hgc]; exact k0, by rw [h.cell hgc]; exact k1, by rw [h.cell hgc]; exact k2, by rw [h.cell hgc]; exact k3⟩⟩)
    clear d0 d1 d2 d3 d4 d5 d6 d7 d8 k0 k1 k2 k3
    generalize wc.alloc (.cells #[.slice a L.length cap, .int .i64 lim, .int .i64 mode, .int .i64 A, .int .i64 B', .int .i64 C, .int .i64 D, .int .i64 coast, .int .i64 fr, .int .i64 0] 50) = W5 at *
    refine wp_region_held_drew (S := (fun w' => (w'.cell? ⟨db, 0, none⟩ = some (.slice a L.length cap) ∧ w'.cell? ⟨db, 1, none⟩ = some (.int .i64 lim) ∧ w'.cell? ⟨db, 2, none⟩ = some (.int .i64 mode) ∧ w'.cell? ⟨db, 3, none⟩ = some (.int .i64 A) ∧ w'.cell? ⟨db, 4, none⟩ = some (.int .i64 B') ∧ w'.cell? ⟨db, 5, none⟩ = some (.int .i64 C) ∧ w'.cell? ⟨db, 6, none⟩ = some (.int .i64 D) ∧ w'.cell? ⟨db, 7, none⟩ = some (.int .i64 coast) ∧ w'.cell? ⟨db, 8, none⟩ = some (.int .i64 fr)) ∧ (w'.cell? ⟨gb, 0, none⟩ = some (.int .i64 g1) ∧ w'.cell? ⟨gb, 1, none⟩ = some (.int .i64 g2) ∧ w'.cell? ⟨gb, 2, none⟩ = some (.int .i64 g3) ∧ w'.cell? ⟨gb, 3, none⟩ = some (.int .i64 g4)))) (by kernel_rfl) (yy HKS W5 (yy HB5)) (fun hHeld => ?_)
    refine wpAnyH_take (i := 0) (v := ?_) rfl (by kernel_rfl) (by kernel_rfl) (by kernel_rfl) (fun _ _ _ h => h) (Or.inl ⟨by rfl, ?_⟩) (by assumption) ?_
    rotate_left
    · intro W0 hSw; (try dsimp only at hSw); go_simp <;> with_reducible rfl
    try simp only [Act.put, List.setIfInBounds_toArray, List.set_cons_zero, List.set_cons_succ]
    refine wpAnyH_take (i := 1) (v := ?_) rfl (by kernel_rfl) (by kernel_rfl) (by kernel_rfl) (fun _ _ _ h => h) (Or.inl ⟨by rfl, ?_⟩) (by assumption) ?_
    rotate_left
    · intro W0 hSw; (try dsimp only at hSw); go_simp <;> with_reducible rfl
    try simp only [Act.put, List.setIfInBounds_toArray, List.set_cons_zero, List.set_cons_succ]
    refine wpAnyH_take (i := 2) (v := ?_) rfl (by kernel_rfl) (by kernel_rfl) (by kernel_rfl) (fun _ _ _ h => h) (Or.inl ⟨by rfl, ?_⟩) (by assumption) ?_
    rotate_left
    · intro W0 hSw; (try dsimp only at hSw); go_simp <;> with_reducible rfl
    try simp only [Act.put, List.setIfInBounds_toArray, List.set_cons_zero, List.set_cons_succ]
    refine wpAnyH_take (i := 3) (v := ?_) rfl (by kernel_rfl) (by kernel_rfl) (by kernel_rfl) (fun _ _ _ h => h) (Or.inl ⟨by rfl, ?_⟩) (by assumption) ?_
    rotate_left
    · intro W0 hSw; (try dsimp only at hSw); go_simp <;> with_reducible rfl
    try simp only [Act.put, List.setIfInBounds_toArray, List.set_cons_zero, List.set_cons_succ]
    refine wpAnyH_take (i := 4) (v := ?_) rfl (by kernel_rfl) (by kernel_rfl) (by kernel_rfl) (fun _ _ _ h => h) (Or.inl ⟨by rfl, ?_⟩) (by assumption) ?_
    rotate_left
    · intro W0 hSw; (try dsimp only at hSw); go_simp <;> with_reducible rfl
    try simp only [Act.put, List.setIfInBounds_toArray, List.set_cons_zero, List.set_cons_succ]
    refine wpAnyH_take (i := 5) (v := ?_) rfl (by kernel_rfl) (by kernel_rfl) (by kernel_rfl) (fun _ _ _ h => h) (Or.inl ⟨by rfl, ?_⟩) (by assumption) ?_
    rotate_left
    · intro W0 hSw; (try dsimp only at hSw); go_simp <;> with_reducible rfl
    try simp only [Act.put, List.setIfInBounds_toArray, List.set_cons_zero, List.set_cons_succ]
    refine wpAnyH_ready (rs := [6]) (by kernel_rfl) (by simp) ?_
    refine AllReadyH.cons rfl (fun K hK => ?_) AllReadyH.nil
    go_simp
    refine ((yy cG) W5.drew ((yy HDc).sky.kept (yy HB5)).stars).mono ?_
    rintro e V1 ⟨⟨a2, cap2, rfl, hC2⟩, hx⟩
    have HV1 : Hid (Below wc.heap.size wc V1) := yz (below_call (yy HB5) ((Below.refl _ _).drew.trans hx))
    have HY1 : Hid (Blk V1 wc.heap.size [.slice a L.length cap, .int .i64 lim, .int .i64 mode, .int .i64 A, .int .i64 B', .int .i64 C, .int .i64 D, .int .i64 coast, .int .i64 fr, .int .i64 0] 50) := yz ((yy HY5).kept ((Below.refl W5.heap.size W5).drew.trans hx))
    have HC1 : Hid (Copied V1 W5.heap.size L2 a2 cap2) := yz hC2
    clear hx hC2
    refine hK.out _ _ (yy HKS _ (yy HV1)) (fun hHeld1 => ?_)
    clear hK K hHeld
    have y0 := (yy HY1).cell 0 _ rfl
    have z0 := (yy HY1).free 0
    have y1 := (yy HY1).cell 1 _ rfl
    have z1 := (yy HY1).free 1
    have y2 := (yy HY1).cell 2 _ rfl
    have z2 := (yy HY1).free 2
    have y3 := (yy HY1).cell 3 _ rfl
    have z3 := (yy HY1).free 3
    have y4 := (yy HY1).cell 4 _ rfl
    have z4 := (yy HY1).free 4
    have y5 := (yy HY1).cell 5 _ rfl
    have z5 := (yy HY1).free 5
    have y6 := (yy HY1).cell 6 _ rfl
    have z6 := (yy HY1).free 6
    have y7 := (yy HY1).cell 7 _ rfl
    have z7 := (yy HY1).free 7
    have y8 := (yy HY1).cell 8 _ rfl
    have z8 := (yy HY1).free 8
    have y9 := (yy HY1).cell 9 _ rfl
    have z9 := (yy HY1).free 9
    refine wpAnyH_ready (rs := [7]) (by kernel_rfl) (by simp) ?_
    refine AllReadyH.cons rfl (fun K hK => ?_) AllReadyH.nil
    go_simp
    have HY6 := yz (blk10_put (yy HY1) (.slice a2 L2.length cap2) (.int .i64 l2) (.int .i64 m2) (.int .i64 A2) (.int .i64 B2) (.int .i64 C2) (.int .i64 D2) (.int .i64 o2) (.int .i64 f2) (.int .i64 yc))
    have HB6 := yz (below10_put (yy HV1) (Nat.le_refl _) (.slice a2 L2.length cap2) (.int .i64 l2) (.int .i64 m2) (.int .i64 A2) (.int .i64 B2) (.int .i64 C2) (.int .i64 D2) (.int .i64 o2) (.int .i64 f2) (.int .i64 yc))
    have hg6 : V1.grownBy ((((((((((V1.setCell ⟨wc.heap.size, 0, none⟩ (.slice a2 L2.length cap2)).setCell ⟨wc.heap.size, 1, none⟩ (.int .i64 l2)).setCell ⟨wc.heap.size, 2, none⟩ (.int .i64 m2)).setCell ⟨wc.heap.size, 3, none⟩ (.int .i64 A2)).setCell ⟨wc.heap.size, 4, none⟩ (.int .i64 B2)).setCell ⟨wc.heap.size, 5, none⟩ (.int .i64 C2)).setCell ⟨wc.heap.size, 6, none⟩ (.int .i64 D2)).setCell ⟨wc.heap.size, 7, none⟩ (.int .i64 o2)).setCell ⟨wc.heap.size, 8, none⟩ (.int .i64 f2)).setCell ⟨wc.heap.size, 9, none⟩ (.int .i64 yc)) (some wc.heap.size) := grown_set (grown_set (grown_set (grown_set (grown_set (grown_set (grown_set (grown_set (grown_set (grown_set (grown_below (Below.refl _ _)) 0 _) 1 _) 2 _) 3 _) 4 _) 5 _) 6 _) 7 _) 8 _) 9 _
    have HF : ∀ x, a2 = some x → x.block ≠ db := fun x e => by have := (own_far (yy HC1) x e).1; omega
    have HC6 := yz (own_lower (copied_far (yy HC1) hg6 (fun x e => by have := (own_far (yy HC1) x e).1; omega)) (show B ≤ W5.heap.size by omega))
    refine hK.out _ _ (yy HKS _ (yy HB6)) (fun hHeld => ?_)
    clear hK K hHeld1 y0 y1 y2 y3 y4 y5 y6 y7 y8 y9 z0 z1 z2 z3 z4 z5 z6 z7 z8 z9 hg6
    refine wpAnyH_done (by kernel_rfl) ?_ _
    clear hHeld
    generalize ((((((((((V1.setCell ⟨wc.heap.size, 0, none⟩ (.slice a2 L2.length cap2)).setCell ⟨wc.heap.size, 1, none⟩ (.int .i64 l2)).setCell ⟨wc.heap.size, 2, none⟩ (.int .i64 m2)).setCell ⟨wc.heap.size, 3, none⟩ (.int .i64 A2)).setCell ⟨wc.heap.size, 4, none⟩ (.int .i64 B2)).setCell ⟨wc.heap.size, 5, none⟩ (.int .i64 C2)).setCell ⟨wc.heap.size, 6, none⟩ (.int .i64 D2)).setCell ⟨wc.heap.size, 7, none⟩ (.int .i64 o2)).setCell ⟨wc.heap.size, 8, none⟩ (.int .i64 f2)).setCell ⟨wc.heap.size, 9, none⟩ (.int .i64 yc)) = W6 at *
    clear HY1 HV1 HC1 HY5 HB5
    have HE := yz ((yy HDc).kept (yy HB6))
    have HX6 := yz ((yy HX).kept (yy HB6))
    obtain ⟨c0, c1, c2, c3⟩ := bcs4 (yy HX6)
    have e9 := (yy HE).blk.cell 9 _ rfl
    have z9 := (yy HE).blk.free 9
    have e10 := (yy HE).blk.cell 10 _ rfl
    have z10 := (yy HE).blk.free 10
    have e11 := (yy HE).blk.cell 11 _ rfl
    have z11 := (yy HE).blk.free 11
    have e12 := (yy HE).blk.cell 12 _ rfl
    have z12 := (yy HE).blk.free 12
    go_upto_region 11 with fail
    clear c0 c1 c2 c3 e9 e10 e11 e12 z9 z10 z11 z12
    obtain ⟨HP4, hg4⟩ := DeskAt.put4 (yy HE) x1 x2 x3 x4
    have HY7 := yz (Blk.grown (yy HY6) hg4 (fun e => by have := Option.some.inj e; omega))
    have HC7 := yz (copied_far (yy HC6) hg4 (HF))
    have HG7 := yz (grown_more (grown_below (yy HBc)) (grown_more (grown_below (yy HB6)) hg4))
    have HP7 := yz HP4
    clear HP4 hg4
    generalize (((W6.setCell ⟨db, 9, none⟩ (.int .i64 x1)).setCell ⟨db, 10, none⟩ (.int .i64 x2)).setCell ⟨db, 11, none⟩ (.int .i64 x3)).setCell ⟨db, 12, none⟩ (.int .i64 x4) = W7 at *
    have y0 := (yy HY7).cell 0 _ rfl
    have e0 := (yy HP7).blk.cell 0 _ rfl
    have z0 := (yy HP7).blk.free 0
    have y1 := (yy HY7).cell 1 _ rfl
    have e1 := (yy HP7).blk.cell 1 _ rfl
    have z1 := (yy HP7).blk.free 1
    have y2 := (yy HY7).cell 2 _ rfl
    have e2 := (yy HP7).blk.cell 2 _ rfl
    have z2 := (yy HP7).blk.free 2
    have y3 := (yy HY7).cell 3 _ rfl
    have e3 := (yy HP7).blk.cell 3 _ rfl
    have z3 := (yy HP7).blk.free 3
    have y4 := (yy HY7).cell 4 _ rfl
    have e4 := (yy HP7).blk.cell 4 _ rfl
    have z4 := (yy HP7).blk.free 4
    have y5 := (yy HY7).cell 5 _ rfl
    have e5 := (yy HP7).blk.cell 5 _ rfl
    have z5 := (yy HP7).blk.free 5
    have y6 := (yy HY7).cell 6 _ rfl
    have e6 := (yy HP7).blk.cell 6 _ rfl
    have z6 := (yy HP7).blk.free 6
    have y7 := (yy HY7).cell 7 _ rfl
    have e7 := (yy HP7).blk.cell 7 _ rfl
    have z7 := (yy HP7).blk.free 7
    have y8 := (yy HY7).cell 8 _ rfl
    have e8 := (yy HP7).blk.cell 8 _ rfl
    have z8 := (yy HP7).blk.free 8
    go_wp2_with fail
    obtain ⟨HP, hg⟩ := DeskAt.put9 (yy HP7) ⟨L2, l2, m2, A2, B2, C2, D2, o2, f2⟩ a2 cap2 (yy HC7) (HF)
    dsimp only at HP hg
    have HP8 := yz HP
    have HG8 := yz (grown_more (yy HG7) hg)
    clear HP hg
    go_ret
    rw [yy HC]
    exact ⟨rfl, ⟨_, _, yy HP8⟩, yy HG8⟩
end Go.Proofs.YtofpjlhoppofdaaGreatDoor
namespace Go.Proofs.YtofpjlhoppofdaaGreatDoor
open Go.RowKit
set_option linter.unusedVariables false
set_option linter.unusedSimpArgs false
theorem snoc_inj {α : Type} {a b : List α} {x y : α} (h : a ++ [x] = b ++ [y]) : a = b ∧ x = y := by
  have := List.append_inj' h rfl
  exact ⟨this.1, by simpa using this.2⟩
theorem pcs_last (c : UInt8) (l : List UInt8) : ∃ D p, pcs c l = D ++ [p] := by
  have h := pcs_ne c l
  exact ⟨(pcs c l).dropLast, (pcs c l).getLast h, (List.dropLast_concat_getLast h).symm⟩
theorem pcs_snoc {c x : UInt8} : ∀ {l : List UInt8} {D : List (List UInt8)} {p : List UInt8}, pcs c l = D ++ [p] → pcs c (l ++ [x]) = if x = c then D ++ [p, []] else D ++ [p ++ [x]]
  | [], D, p, h => by
    have h0 : ([] : List (List UInt8)) ++ [[]] = D ++ [p] := h
    obtain ⟨rfl, rfl⟩ := snoc_inj h0
    show pcs c [x] = _
    rw [pcs]
    split <;> rfl
  | y :: ys, D, p, h => by
    obtain ⟨D', p', e⟩ := pcs_last c ys
    have ih := pcs_snoc (x := x) e
    show pcs c (y :: (ys ++ [x])) = _
    rw [pcs, e] at h
    rw [pcs, ih]
    by_cases hy : y = c
    · rw [if_pos hy] at h ⊢
      have h1 : ([] :: D') ++ [p'] = D ++ [p] := h
      obtain ⟨rfl, rfl⟩ := snoc_inj h1
      split <;> rfl
    · rw [if_neg hy] at h ⊢
      cases D' with
      | nil =>
        have h1 : ([] : List (List UInt8)) ++ [y :: p'] = D ++ [p] := h
        obtain ⟨rfl, rfl⟩ := snoc_inj h1
        split <;> rfl
      | cons d D'' =>
        have h1 : ((y :: d) :: D'') ++ [p'] = D ++ [p] := h
        obtain ⟨rfl, rfl⟩ := snoc_inj h1
        split <;> rfl
def strB (l : List UInt8) : Value := .string ⟨l.toArray⟩
theorem ext_take (s : ByteArray) (f k : Nat) (h : k ≤ s.size) : s.extract f k = ⟨((s.data.toList.take k).drop f).toArray⟩ := by
  apply ByteArray.ext
  apply Array.toList_inj.1
  rw [ByteArray.data_extract]
  simp [List.drop_take]
theorem info_strB : ∃ i : TypeInfo, Tryz.prog.info? 9 = some i ∧ i.zero = some (.string ⟨#[]⟩) ∧ i.size = 1 ∧ i.bytes = 16 := by
  have h : (Tryz.prog.info? 9).map (fun i => (i.zero, i.size, i.bytes)) = some (some (.string ⟨#[]⟩), 1, 16) := by kernel_rfl
  cases hi : Tryz.prog.info? 9 with
  | none => rw [hi] at h; cases h
  | some i =>
    rw [hi] at h
    have := Option.some.inj h
    simp only [Prod.mk.injEq] at this
    exact ⟨i, rfl, this.1, this.2.1, this.2.2⟩
theorem ownB_alloc {w : World} {B n m : Nat} {t : TypeId} {v : Value} {xs : List Value} (h : w.ownsRow B t m v n xs) (o : Obj) : (w.alloc o).ownsRow B t m v n xs := by
  obtain ⟨h1, h2⟩ := h
  refine ⟨h1, ?_⟩
  rcases h2 with h2 | ⟨g, c', cur, e, hg, hh, r⟩
  · exact .inl h2
  · exact .inr ⟨g, c', cur, e, hg, by rw [(below1 w o).block g (Array.getElem?_eq_some_iff.1 hh).1]; exact hh, r⟩
theorem belowB {B : Nat} {w w1 w2 : World} {row : Option Nat} (h : Below B w w1) (hg : w1.grownBy w2 row) (hB : B ≤ w1.heap.size) (hr : ∀ g, row = some g → B ≤ g) : Below B w w2 :=
  h.trans ⟨hg.os, hg.tape, hg.output, hg.size, fun k hk => hg.block k (by omega) (fun e => by have := hr k e.symm; omega)⟩
theorem new_oneB (w : World) (v : Value) (t : TypeId) (j : Nat) (u : Value) (h : [v][j]? = some u) : (w.alloc (.cells #[v] t)).cell? ((⟨w.heap.size, 0, none⟩ : Addr).add j) = some u := by
  have hA : (⟨w.heap.size, 0, none⟩ : Addr).add j = ⟨w.heap.size, j, none⟩ := by unfold Addr.add; split <;> simp_all
  rw [hA, cell_of_row _ _ j #[v] t _ (heap_alloc_new w (.cells #[v] t))]
  simpa using h
def TxtRow (w : World) (B : Nat) (v : Value) (D : List (List UInt8)) : Prop := w.ownsRow B 9 1 v D.length (D.map strB)
set_option maxHeartbeats 2000000 in
set_option maxRecDepth 100000 in
theorem l01SplitC_any (s : ByteArray) (c : UInt8) (w : World) (hs : s.size ≤ 8000) :
    Calls Tryz.prog 17 #[.string s, .int .u8 (c.toNat : Int)] w fun e w' => (∃ v, e = .returned v ∧ TxtRow w' w.heap.size v (pcs c s.data.toList)) ∧ Below w.heap.size w w' := by
  obtain ⟨i0, hi, hz0, hz1, hz2⟩ := info_strB
  have hm8 : 10000 ≤ maxLen := by decide +kernel
  have B0 := yz (below1 w (.cells #[] 9))
  have O0 : Hid (TxtRow (w.alloc (.cells #[] 9)) w.heap.size (.slice (some ⟨w.heap.size, 0, none⟩) 0 0) []) := yz ⟨rfl, .inr ⟨_, 0, #[], rfl, Nat.le_refl _, Array.getElem?_push_size, Nat.le_refl _, Nat.zero_le _, rfl, rfl⟩⟩
  go_enter Tryz.func17, Tryz.ntmps17
  go_wp2_with fail
  go_loopw [5, 6, 7] (fun v f i wr => ∃ (k fr : Nat) (D : List (List UInt8)), k ≤ s.size ∧ fr ≤ k ∧ D.length ≤ k ∧ i = .int .i64 k ∧ f = .int .i64 fr ∧ Hid (pcs c (s.data.toList.take k) = D ++ [(s.data.toList.take k).drop fr]) ∧ Hid (TxtRow wr w.heap.size v D) ∧ Hid (Below w.heap.size w wr)) (fun _ _ i _ => s.size - (intOf i).toNat)
  case atStart => exact ⟨0, 0, [], by omega, by omega, by simp, rfl, rfl, yz rfl, O0, B0⟩
  case round =>
    clear O0 B0
    obtain ⟨k, fr, D, hk, hfr, hDl, rfl, rfl, HP, HO, HB⟩ := hrel
    by_cases hkn : k < s.size
    · have hkn2 : (k : Int) < (s.size : Int) := by omega
      have HS := yz (pcs_snoc (x := s[k]) (yy HP))
      rw [← tk_snoc s k hkn] at HS
      by_cases hc : s[k] = c
      · have hb : ((s[k].toNat : Int) == (c.toNat : Int)) = true := by rw [hc]; simp
        have HP2 : Hid (pcs c (s.data.toList.take (k + 1)) = (D ++ [(s.data.toList.take k).drop fr]) ++ [(s.data.toList.take (k + 1)).drop (k + 1)]) := yz (by
          have e0 : (s.data.toList.take (k + 1)).drop (k + 1) = [] := List.drop_of_length_le (by rw [List.length_take]; exact Nat.min_le_left _ _)
          rw [yy HS, if_pos hc, e0]
          simp)
        have HX := yz (ext_take s fr k hk)
        have Z1 := below1 wr (.cells #[.string (s.extract fr k)] 9)
        have hown := ownB_alloc (yy HO) (.cells #[.string (s.extract fr k)] 9)
        have HB2 := yz (below_call (yy HB) Z1)
        have hsz := (yy HB).size
        clear HS HP Z1 HB HO
        go_wp2_with (at_builtin; refine wpList_append_own _ rfl _ _ 27 rfl w.heap.size 9 i0 (.string ⟨#[]⟩) 1 16 Tryz.underlying27 hi hz0 hz1 hz2 rfl (by decide) _ _ _ rfl hown ⟨wr.heap.size, 0, none⟩ 1 1 [.string (s.extract fr k)] rfl rfl ?d2 (fun u hu => by simp at hu; subst hu; rfl) ?d3 ?d4 ?d5 ?_)
        case d2 => exact new_oneB _ _ _
        case d3 => omega
        case d4 => omega
        case d5 => simp; omega
        intro v7 V7 hown7 hgrow7 _
        have HO3 : Hid (TxtRow V7 w.heap.size v7 (D ++ [(s.data.toList.take k).drop fr])) := yz (by
          unfold TxtRow
          rw [List.map_append, List.length_append]
          show World.ownsRow _ _ _ _ _ _ (List.map strB D ++ [strB _])
          unfold strB
          rw [← yy HX]
          exact hown7)
        have HB3 := yz (belowB (yy HB2) hgrow7 (by simp; omega) (fun g e => (hown.lt _ e).1))
        clear hown7 hgrow7 hown HB2 HX
        go_wp2_with fail
        go_roundw
        case rel => exact ⟨k + 1, k + 1, _, by omega, by omega, by simp; omega, by go_num, by go_num, HP2, HO3, HB3⟩
        case measure => simp [intOf]; omega
      · have hb : ((s[k].toNat : Int) == (c.toNat : Int)) = false := by
          have : s[k].toNat ≠ c.toNat := fun e => hc (UInt8.toNat.inj e)
          simpa using (show (s[k].toNat : Int) ≠ (c.toNat : Int) by omega)
        have HP2 : Hid (pcs c (s.data.toList.take (k + 1)) = D ++ [(s.data.toList.take (k + 1)).drop fr]) := yz (by
          rw [yy HS, if_neg hc, tk_snoc s k hkn, List.drop_append_of_le_length (by rw [List.length_take, len_size, Nat.min_eq_left hk]; exact hfr)])
        clear HS HP
        go_wp2_with fail
        go_roundw
        case rel => exact ⟨k + 1, fr, D, by omega, by omega, by omega, by go_num, rfl, HP2, HO, HB⟩
        case measure => simp [intOf]; omega
    · have hks : k = s.size := by omega
      subst hks
      have HX := yz (ext_take s fr s.size hk)
      have Z1 := below1 wr (.cells #[.string (s.extract fr s.size)] 9)
      have hown := ownB_alloc (yy HO) (.cells #[.string (s.extract fr s.size)] 9)
      have HB2 := yz (below_call (yy HB) Z1)
      have hsz := (yy HB).size
      clear Z1 HB HO
      go_wp2_with (at_builtin; refine wpList_append_own _ rfl _ _ 27 rfl w.heap.size 9 i0 (.string ⟨#[]⟩) 1 16 Tryz.underlying27 hi hz0 hz1 hz2 rfl (by decide) _ _ _ rfl hown ⟨wr.heap.size, 0, none⟩ 1 1 [.string (s.extract fr s.size)] rfl rfl ?d2 (fun u hu => by simp at hu; subst hu; rfl) ?d3 ?d4 ?d5 ?_)
      case d2 => exact new_oneB _ _ _
      case d3 => omega
      case d4 => omega
      case d5 => simp; omega
      intro v7 V7 hown7 hgrow7 _
      have HO3 : Hid (TxtRow V7 w.heap.size v7 (pcs c s.data.toList)) := yz (by
        have e := yy HP
        have hx := yy HX
        rw [List.take_of_length_le (by rw [len_size]; exact Nat.le_refl _)] at e hx
        unfold TxtRow
        rw [e, List.map_append, List.length_append]
        show World.ownsRow _ _ _ _ _ _ (List.map strB D ++ [strB _])
        unfold strB
        rw [← hx]
        exact hown7)
      have HB3 := yz (belowB (yy HB2) hgrow7 (by simp; omega) (fun g e => (hown.lt _ e).1))
      clear hown7 hgrow7 hown HB2 HX
      go_wp2_with fail
      go_ret
      exact ⟨⟨_, rfl, yy HO3⟩, yy HB3⟩
end Go.Proofs.YtofpjlhoppofdaaGreatDoor
