/- TurnRead: the specification's. -/
import Derived.Test.YtijpnnooenpjoaaDoorPartT
import Derived.Test.YtijpnnooenpjoaaDoorTurnS
import Derived.Test.YtijpnnooenpjoaaDoorTurnR
import Derived.Lib.QuietBelow
import Derived.Deep.RegionHeld
import Derived.Deep.DeepCutAuto
namespace Go.Proofs.YtijpnnooenpjoaaDoor
open Go.RowKit Go.Sort
set_option linter.unusedVariables false

def FourAt (w : World) (g : Nat) (x y z u : Value) : Prop := w.cell? ⟨g, 0, none⟩ = some x ∧ w.cell? ⟨g, 1, none⟩ = some y ∧ w.cell? ⟨g, 2, none⟩ = some z ∧ w.cell? ⟨g, 3, none⟩ = some u
theorem hold4 {w1 wx : World} {g : Nat} {x y z u : Value} (h : FourAt w1 g x y z u) (hB : RowKit.Below w1.heap.size w1 wx) : (wx.cell? ⟨g, 0, none⟩ = some x ∧ wx.cell? ⟨g, 1, none⟩ = some y ∧ wx.cell? ⟨g, 2, none⟩ = some z ∧ wx.cell? ⟨g, 3, none⟩ = some u) ∧ RowKit.Below w1.heap.size w1 wx := by
  obtain ⟨h0, h1, h2, h3⟩ := h
  have hb : g < w1.heap.size := World.block_lt_of_cell? w1 _ h0
  exact ⟨⟨by rw [hB.cell (p := ⟨g, 0, none⟩) hb]; exact h0, by rw [hB.cell (p := ⟨g, 1, none⟩) hb]; exact h1, by rw [hB.cell (p := ⟨g, 2, none⟩) hb]; exact h2, by rw [hB.cell (p := ⟨g, 3, none⟩) hb]; exact h3⟩, hB⟩

set_option maxHeartbeats 1000000 in
set_option maxRecDepth 100000 in
theorem specRead_any (s : ByteArray) (w : World) (hs : s.size ≤ 9223372036854775807) :
    Calls Tryd.prog 30 #[.string s] w fun e w' => e = .returned (.agg #[.int .i64 (readP s (looseP s).a), .int .i64 (readP s (looseP s).b), .int .i64 (readP s (looseP s).c), .int .i64 (readP s (looseP s).d), .int .i64 (readC s)]) ∧ RowKit.Below w.heap.size w w' := by
  by_cases h8 : 8000 < s.size
  · have HR := hide (read_size h8)
    go_enter Tryd.func30, Tryd.ntmps30
    go_wp2_with fail
    exact bodyPost_ret (v := .agg #[.int .i64 0, .int .i64 0, .int .i64 0, .int .i64 0, .int .i64 2]) (by simp [results, Tryd.results30, go_sem]) rfl ⟨by rw [unhide HR], below1 _ _⟩
  · have h8' : s.size ≤ 8000 := by omega
    have h8i : ¬ (8000 : Int) < (s.size : Int) := by omega
    have HBad := hide (fun h => read_bad h8' h)
    have HOk := hide (fun h => read_ok h8' h)
    have HL := hide (fun W => l01Split_any s W h8')
    have HSL := hide (fun h => spec_len (s := s) h)
    have HSY : Hid (∀ x y z u, splitL ([], []) s.data.toList = ([x, y, z], u) → textB (partL x) (partL y) (partL z) (partL u) = s → readR s = true ∧ (looseP s).a = partL x ∧ (looseP s).b = partL y ∧ (looseP s).c = partL z ∧ (looseP s).d = partL u) := hide (fun x y z u h1 h2 => spec_yes h1 h2)
    have HSN : Hid (∀ x y z u, splitL ([], []) s.data.toList = ([x, y, z], u) → textB (partL x) (partL y) (partL z) (partL u) ≠ s → readR s = false) := hide (fun x y z u h1 h2 => spec_no h1 h2)
    clear h8 h8'
    obtain ⟨p, hp⟩ : ∃ p, splitL ([], []) s.data.toList = p := ⟨_, rfl⟩
    rw [hp] at HL HSL HSY HSN
    clear hp
    go_enter Tryd.func30, Tryd.ntmps30
    go_wp2_with fail
    refine (unhide HL _).mono ?_
    rintro e w1 ⟨v, rfl, hpc, hx⟩
    have vr := (outAt_new w 0 0 0 0 0 45).kept hx
    have fr := (freeO_new w 0 0 0 0 0 45).kept (by simp) hx
    have hB : RowKit.Below w.heap.size w w1 := below_call (below1 _ _) hx
    clear hx HL
    obtain ⟨acc, cur⟩ := p
    obtain ⟨g, cap, rfl, hgl, hcs⟩ := hpc
    by_cases hl : acc.length = 3
    · match acc, hl with
      | [x, y, z], _ =>
        have q0 : w1.cell? ⟨g, 0, none⟩ = some (strV x) := hcs 0 x rfl
        have q1 : w1.cell? ⟨g, 1, none⟩ = some (strV y) := hcs 1 y rfl
        have q2 : w1.cell? ⟨g, 2, none⟩ = some (strV z) := hcs 2 z rfl
        have q3 : w1.cell? ⟨g, 3, none⟩ = some (strV cur) := hcs 3 cur rfl
        clear hcs
        obtain ⟨a, ha⟩ : ∃ v, partL x = v := ⟨_, rfl⟩
        obtain ⟨b, hb⟩ : ∃ v, partL y = v := ⟨_, rfl⟩
        obtain ⟨c, hc⟩ : ∃ v, partL z = v := ⟨_, rfl⟩
        obtain ⟨d, hd⟩ : ∃ v, partL cur = v := ⟨_, rfl⟩
        have ca : Hid (∀ W : World, Calls Tryd.prog 70 #[strV x] W fun e w' => e = .returned (.int .i64 a) ∧ w' = W) := hide (fun W => by rw [← ha]; exact l03Part_any x W)
        have cb : Hid (∀ W : World, Calls Tryd.prog 70 #[strV y] W fun e w' => e = .returned (.int .i64 b) ∧ w' = W) := hide (fun W => by rw [← hb]; exact l03Part_any y W)
        have cc : Hid (∀ W : World, Calls Tryd.prog 70 #[strV z] W fun e w' => e = .returned (.int .i64 c) ∧ w' = W) := hide (fun W => by rw [← hc]; exact l03Part_any z W)
        have cd : Hid (∀ W : World, Calls Tryd.prog 70 #[strV cur] W fun e w' => e = .returned (.int .i64 d) ∧ w' = W) := hide (fun W => by rw [← hd]; exact l03Part_any cur W)
        have HY : Hid (textB a b c d = s → readR s = true ∧ (looseP s).a = a ∧ (looseP s).b = b ∧ (looseP s).c = c ∧ (looseP s).d = d) := hide (fun h => by have := unhide HSY x y z cur rfl; rw [ha, hb, hc, hd] at this; exact this h)
        have HN : Hid (textB a b c d ≠ s → readR s = false) := hide (fun h => by have := unhide HSN x y z cur rfl; rw [ha, hb, hc, hd] at this; exact this h)
        have Vr := hide vr
        have Fr := hide fr
        have HB := hide hB
        clear ha hb hc hd HSY HSN HSL vr fr hB hs
        unfold strV at ca q0
        generalize (⟨x.toArray⟩ : ByteArray) = sx at ca q0
        unfold strV at cb q1
        generalize (⟨y.toArray⟩ : ByteArray) = sy at cb q1
        unfold strV at cc q2
        generalize (⟨z.toArray⟩ : ByteArray) = sz at cc q2
        unfold strV at cd q3
        generalize (⟨cur.toArray⟩ : ByteArray) = sc at cd q3
        go_wp2_with fail
        go_cut [4] (fun u wx => ∃ k, u = .pointer (some ⟨k, 0, none⟩) ∧ TurnAt wx k a b c d ∧ RowKit.Below w1.heap.size w1 wx)
        case first =>
          clear Vr Fr HB HY HN HBad HOk
          have HQ : Hid (FourAt w1 g (.string sx) (.string sy) (.string sz) (.string sc)) := hide ⟨q0, q1, q2, q3⟩
          clear q0 q1 q2 q3
          go_region_held (fun w' => (w'.cell? ⟨g, 0, none⟩ = some (.string sx) ∧ w'.cell? ⟨g, 1, none⟩ = some (.string sy) ∧ w'.cell? ⟨g, 2, none⟩ = some (.string sz) ∧ w'.cell? ⟨g, 3, none⟩ = some (.string sc)) ∧ RowKit.Below w1.heap.size w1 w') (first | (with_reducible assumption) | (with_reducible exact hold4 (unhide HQ) (RowKit.Below.refl _ _).drew) | (with_reducible exact hold4 (unhide HQ) (below1 _ _).drew)) ((go_at_call 70; (first | (with_reducible refine (unhide ca _).mono ?_) | (with_reducible refine (unhide cb _).mono ?_) | (with_reducible refine (unhide cc _).mono ?_) | (with_reducible refine (unhide cd _).mono ?_)); rintro e wz ⟨rfl, rfl⟩))
          all_goals (go_wp2_with fail; go_meet)
          all_goals exact ⟨_, rfl, turnAt_new w1 a b c d _, (below1 _ _).drew⟩
        case rest =>
          obtain ⟨k, rfl, vt, hx⟩ := hcut
          have vr := (unhide Vr).kept hx
          have fr := (unhide Fr).kept (unhide Vr).lt hx
          have hB := below_call (unhide HB) hx
          clear Vr Fr HB hx q0 q1 q2 q3 ca cb cc cd
          have vt' := vt
          obtain ⟨ct0, ct1, ct2, ct3⟩ := vt
          go_wp2_with fail
          refine (specText_any a b c d _).mono ?_
          rintro e w3 ⟨rfl, hx⟩
          have hlt := vr.lt
          replace vr := vr.kept hx
          replace fr := fr.kept hlt hx
          have vt := vt'.kept vt'.lt hx
          replace hB := below_call hB hx
          clear hx hlt ct0 ct1 ct2 ct3 vt'
          obtain ⟨cr0, cr1, cr2, cr3, cr4⟩ := vr
          obtain ⟨fr0, fr1, fr2, fr3, fr4⟩ := fr
          obtain ⟨ct0, ct1, ct2, ct3⟩ := vt
          by_cases htx : textB a b c d = s
          · have hy := unhide HY htx
            have HF := hide (unhide HOk hy.1)
            rw [hy.2.1, hy.2.2.1, hy.2.2.2.1, hy.2.2.2.2] at HF
            have HE := hide hy.2
            have hne := tstr_eq htx
            clear HBad HOk HY HN htx hy
            go_wp2_with fail
            exact bodyPost_ret (v := .agg #[.int .i64 a, .int .i64 b, .int .i64 c, .int .i64 d, .int .i64 0]) (by simp [results, Tryd.results30, go_sem, cr0, cr1, cr2, cr3, cr4]) rfl ⟨by rw [(unhide HE).1, (unhide HE).2.1, (unhide HE).2.2.1, (unhide HE).2.2.2, unhide HF], below_set5 hB (Nat.le_refl _) _ _ _ _ _⟩
          · have HF := hide (unhide HBad (unhide HN htx))
            have hne := tstr_ne htx
            clear HBad HOk HY HN htx
            go_wp2_with fail
            exact bodyPost_ret (v := .agg #[.int .i64 0, .int .i64 0, .int .i64 0, .int .i64 0, .int .i64 3]) (by simp [results, Tryd.results30, go_sem, cr0, cr1, cr2, cr3, cr4]) rfl ⟨by rw [unhide HF], below_set5 hB (Nat.le_refl _) _ _ _ _ _⟩
    · have HF := hide (unhide HBad (unhide HSL hl))
      have hln : (((acc ++ [cur]).length : Int) != 4) = true := by simp; omega
      obtain ⟨cr0, cr1, cr2, cr3, cr4⟩ := vr
      obtain ⟨fr0, fr1, fr2, fr3, fr4⟩ := fr
      generalize (acc ++ [cur]).length = n at hln ⊢
      clear HBad HOk HSL HSY HSN hcs hl
      go_wp2_with fail
      exact bodyPost_ret (v := .agg #[.int .i64 0, .int .i64 0, .int .i64 0, .int .i64 0, .int .i64 3]) (by simp [results, Tryd.results30, go_sem, cr0, cr1, cr2, cr3, cr4]) rfl ⟨by rw [unhide HF], below_set5 hB (Nat.le_refl _) _ _ _ _ _⟩
end Go.Proofs.YtijpnnooenpjoaaDoor
