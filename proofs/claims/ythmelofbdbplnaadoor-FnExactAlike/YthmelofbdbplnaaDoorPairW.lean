/- Alike: the specification's. -/
import Derived.Test.YthmelofbdbplnaaDoorPairUa
import Derived.Maps.AppendAt
namespace Go.Proofs.YthmelofbdbplnaaDoor
open Go.RowKit Go.Sort
set_option linter.unusedVariables false

def fitB (L : List St) (a b : V3) (p : P2) : Bool := decide (cosP a b (atV L L.length p.1) (atV L L.length p.2) = 0)
def alikeP (L : List St) (a b : V3) : List P2 := (allP L L.length).filter (fitB L a b)
theorem alikeP_eq {L : List St} {a b : V3} (h : skyB L = true) (ha : wideV a = true) (hb : wideV b = true) : alikeP L a b = alikeR L a b := by
  obtain ⟨e, g⟩ := allS_map h L.length (Nat.le_refl _)
  rw [alike_yes h ha hb]
  unfold alikeP
  rw [← e, List.filter_map]
  congr 1
  apply List.filter_congr
  intro s hs
  obtain ⟨i, j, hi, hj, rfl⟩ := g s hs
  have h1 : smallV (stA L i).2 = true := ok_small ((sky_ok h).2 i hi)
  have h2 : smallV (stA L j).2 = true := ok_small ((sky_ok h).2 j hj)
  show fitB L a b (spanOf L i j).1 = _
  unfold fitB cosA spanOf
  simp only
  rw [at_own h hi, at_own h hj, cos_eq2 ha hb h1 h2]
  rfl
set_option maxRecDepth 100000 in
theorem l04Wide_any (x y z : Int) (w : World) :
    Calls Tryd.prog 25 #[.agg #[.int .i64 x, .int .i64 y, .int .i64 z]] w fun e w' => e = .returned (.bool (wideB x y z)) ∧ Below w.heap.size w w' := by
  have A0 := vecAt_new w x y z 36
  have B0 := below1 w (.cells #[.int .i64 x, .int .i64 y, .int .i64 z] 36)
  have cR := hide (fun W => specRight_any x y z W)
  have cW := hide (fun W => l02Within_any 1800 x y z W (by omega) (by omega))
  have HW : Hid (wideB x y z = (rightB x y z && withinB 1800 x y z)) := hide rfl
  generalize wideB x y z = wv at *
  generalize withinB 1800 x y z = wi at *
  go_enter Tryd.func25, Tryd.ntmps25
  go_wp2_with fail
  refine (unhide cR _).mono ?_
  rintro e w1 ⟨rfl, hx⟩
  obtain ⟨c0, c1, c2⟩ := A0.kept (vlt A0) hx
  have B1 := below_call B0 hx
  clear hx B0 A0
  cases hr : rightB x y z
  · rw [hr] at HW
    go_wp2_with fail
    go_ret
    exact ⟨by rw [unhide HW]; rfl, B1⟩
  · rw [hr] at HW
    go_wp2_with fail
    refine (unhide cW _).mono ?_
    rintro e w2 ⟨rfl, hx⟩
    have B2 := below_call B1 hx
    clear hx B1
    go_wp2_with fail
    go_ret
    exact ⟨by rw [unhide HW]; rfl, B2⟩
theorem fit_snoc (L : List St) (a b : V3) (O : List P2) (k : Nat) (hk : k < O.length) : (O.take (k + 1)).filter (fitB L a b) = (O.take k).filter (fitB L a b) ++ (if fitB L a b (prA O k) = true then [prA O k] else []) := by
  have e : O.take (k + 1) = O.take k ++ [prA O k] := by
    rw [List.take_succ_eq_append_getElem hk]
    congr 2
    unfold prA
    rw [List.getD, List.getElem?_eq_getElem hk]
    rfl
  rw [e, List.filter_append]
  congr 1
  cases h : fitB L a b (prA O k)
  · rw [List.filter_cons_of_neg (by simp [h])]; rfl
  · rw [List.filter_cons_of_pos h]; rfl
theorem OwnP.grown {w w2 : World} {B g cap : Nat} {O : List P2} {row : Option Nat} (h : OwnP w B g cap O) (hg : w.grownBy w2 row) (hne : row = some g → False) : OwnP w2 B g cap O :=
  World.ownsRow.kept (row := row) h hg (.inr (fun e => hne (by simpa [Value.ownBlock] using e.symm)))
theorem vecGrown {w w2 : World} {B b : Nat} {v : Value} {t : TypeId} {n m : Nat} {xs : List Value} {x y z : Int} (h : VecAt w b x y z) (ho : w.ownsRow B t m v n xs) (hg : w.grownBy w2 v.ownBlock) (hb : b < B) : VecAt w2 b x y z := by
  have e := hg.block b (vlt h) (fun e => by have := (ho.lt b e.symm).1; omega)
  obtain ⟨h0, h1, h2⟩ := h
  exact ⟨(World.cell?_of_block (a := ⟨b, _, none⟩) e).trans h0, (World.cell?_of_block (a := ⟨b, _, none⟩) e).trans h1, (World.cell?_of_block (a := ⟨b, _, none⟩) e).trans h2⟩
theorem grownOwn2 {B B' : Nat} {w w1 w2 : World} {v : Value} {t : TypeId} {n m : Nat} {xs : List Value} (h : Below B w w1) (ho : w1.ownsRow B' t m v n xs) (hg : w1.grownBy w2 v.ownBlock) (hbb : B ≤ B') (hB : B ≤ w1.heap.size) : Below B w w2 :=
  h.trans ⟨hg.os, hg.tape, hg.output, hg.size, fun k hk => hg.block k (by omega) (fun e => by have := (ho.lt k e.symm).1; omega)⟩
theorem own_empty (w : World) (B : Nat) (h : B ≤ w.heap.size) : (w.alloc (.cells #[] 50)).ownsRow B 50 2 (.slice (some ⟨w.heap.size, 0, none⟩) 0 0) 0 (flatP []) := ownP_new w B h

set_option maxHeartbeats 4000000 in
set_option maxRecDepth 100000 in
theorem specAlike_any (L : List St) (ar : Option Addr) (c : Nat) (a1 a2 a3 b1 b2 b3 : Int) (w : World) (hn : L.length ≤ 1048576) (hS : Stars w ar L L.length) :
    Calls Tryd.prog 14 #[.slice ar L.length c, .agg #[.int .i64 a1, .int .i64 a2, .int .i64 a3], .agg #[.int .i64 b1, .int .i64 b2, .int .i64 b3]] w fun e w' => (∃ v, e = .returned v ∧ w'.ownsRow w.heap.size 50 2 v (alikeR L (a1, a2, a3) (b1, b2, b3)).length (flatP (alikeR L (a1, a2, a3) (b1, b2, b3)))) ∧ Below w.heap.size w w' := by
  obtain ⟨i0, hi, hz0, hz1, hz2⟩ := info_parts info_pair
  have hm8 : 400 ≤ maxLen := by decide +kernel
  have cS := hide (fun (W : World) hW => specSky_any L ar c W hn hW)
  have cA := hide (fun W => l04Wide_any a1 a2 a3 W)
  have cB := hide (fun W => l04Wide_any b1 b2 b3 W)
  have H12 : Hid (skyB L = true → L.length ≤ 12) := hide (fun h => (sky_ok h).1)
  have cP : Hid (skyB L = true → ∀ W : World, Stars W ar L L.length → Calls Tryd.prog 18 #[.slice ar L.length c] W fun e w' => (∃ g cap, e = .returned (.slice (some ⟨g, 0, none⟩) (allP L L.length).length cap) ∧ OwnP w' W.heap.size g cap (allP L L.length)) ∧ Below W.heap.size W w') := hide (fun hk W hW => l04Pairs_any L ar c W (unhide H12 hk) hW)
  have HAL : Hid (skyB L = true → (allP L L.length).length ≤ 160) := hide (fun hk => by have := allP_len L (sky_ok hk).1 L.length (Nat.le_refl _); have := (sky_ok hk).1; omega)
  have HN1 : Hid (skyB L = false → alikeR L (a1, a2, a3) (b1, b2, b3) = []) := hide alike_no1
  have HN2 : Hid (wideB a1 a2 a3 = false → alikeR L (a1, a2, a3) (b1, b2, b3) = []) := hide (fun h => alike_no2 (b := (b1, b2, b3)) (show wideV (a1, a2, a3) = false from h))
  have HN3 : Hid (wideB b1 b2 b3 = false → alikeR L (a1, a2, a3) (b1, b2, b3) = []) := hide (fun h => alike_no3 (a := (a1, a2, a3)) (show wideV (b1, b2, b3) = false from h))
  have HY : Hid (skyB L = true → wideB a1 a2 a3 = true → wideB b1 b2 b3 = true → alikeR L (a1, a2, a3) (b1, b2, b3) = (allP L L.length).filter (fitB L (a1, a2, a3) (b1, b2, b3))) := hide (fun h1 h2 h3 => (alikeP_eq h1 (show wideV (a1, a2, a3) = true from h2) (show wideV (b1, b2, b3) = true from h3)).symm)
  have cT := hide (fun (W : World) (id : Int) hW => l04At_any L L.length id ar c W (by omega) hW)
  have cC : Hid (∀ (x y : V3) (W : World), Calls Tryd.prog 26 #[.agg #[.int .i64 a1, .int .i64 a2, .int .i64 a3], .agg #[.int .i64 b1, .int .i64 b2, .int .i64 b3], vecV x, vecV y] W fun e w' => e = .returned (.int .i64 (cosP (a1, a2, a3) (b1, b2, b3) x y)) ∧ Below W.heap.size W w') := hide (fun x y W => cosP_any (a1, a2, a3) (b1, b2, b3) x y W)
  have HFB : Hid (∀ p, fitB L (a1, a2, a3) (b1, b2, b3) p = decide (cosP (a1, a2, a3) (b1, b2, b3) (atV L L.length p.1) (atV L L.length p.2) = 0)) := hide (fun p => rfl)
  have HFS := hide (fit_snoc L (a1, a2, a3) (b1, b2, b3))
  have HS := hide hS
  clear hS
  generalize alikeR L (a1, a2, a3) (b1, b2, b3) = R at *
  generalize allP L L.length = O at *
  generalize fitB L (a1, a2, a3) (b1, b2, b3) = fit at *
  generalize L.length = n at *
  have A0 := (vecAt_new w a1 a2 a3 36).alloc (by simp) (.cells #[.int .i64 b1, .int .i64 b2, .int .i64 b3] 36)
  have D0 := vecAt_new (w.alloc (.cells #[.int .i64 a1, .int .i64 a2, .int .i64 a3] 36)) b1 b2 b3 36
  have e1 : (w.alloc (.cells #[.int .i64 a1, .int .i64 a2, .int .i64 a3] 36)).heap.size = w.heap.size + 1 := by simp
  rw [e1] at D0
  have e2 : ((w.alloc (.cells #[.int .i64 a1, .int .i64 a2, .int .i64 a3] 36)).alloc (.cells #[.int .i64 b1, .int .i64 b2, .int .i64 b3] 36)).heap.size = w.heap.size + 1 + 1 := by simp
  have O0 := own_empty ((w.alloc (.cells #[.int .i64 a1, .int .i64 a2, .int .i64 a3] 36)).alloc (.cells #[.int .i64 b1, .int .i64 b2, .int .i64 b3] 36)) (w.heap.size + 2) (by omega)
  rw [e2] at O0
  have A1 := hide (A0.alloc (vlt A0) (.cells #[] 50))
  have D1 := hide (D0.alloc (vlt D0) (.cells #[] 50))
  have O1 := hide O0
  have B1 := hide (below3 w (.cells #[.int .i64 a1, .int .i64 a2, .int .i64 a3] 36) (.cells #[.int .i64 b1, .int .i64 b2, .int .i64 b3] 36) (.cells #[] 50))
  clear e1 e2 A0 D0 O0
  go_enter Tryd.func14, Tryd.ntmps14
  by_cases hbig : (400 : Int) < (n : Int)
  · have hk : skyB L = false := by
      cases h : skyB L
      · rfl
      · have := unhide H12 h; omega
    obtain rfl := unhide HN1 hk
    go_wp2_with fail
    go_ret
    exact ⟨⟨_, rfl, own_less (unhide O1) (by omega)⟩, unhide B1⟩
  have hbig' : decide ((400 : Int) < (n : Int)) = false := by simpa using hbig
  go_wp2_with fail
  generalize ((w.alloc (.cells #[.int .i64 a1, .int .i64 a2, .int .i64 a3] 36)).alloc (.cells #[.int .i64 b1, .int .i64 b2, .int .i64 b3] 36)).alloc (.cells #[] 50) = W1 at A1 D1 O1 B1 ⊢
  refine (unhide cS _ ((unhide HS).kept (unhide B1))).mono ?_
  rintro e W2 ⟨rfl, hx⟩
  have A2 := hide ((unhide A1).kept (vlt (unhide A1)) hx)
  have D2 := hide ((unhide D1).kept (vlt (unhide D1)) hx)
  have O2 := hide (ownKeptP (unhide O1) hx)
  have B2 := hide (below_call (unhide B1) hx)
  clear hx A1 D1 O1 B1
  cases hk : skyB L
  · obtain rfl := unhide HN1 hk
    go_wp2_with fail
    go_ret
    exact ⟨⟨_, rfl, own_less (unhide O2) (by omega)⟩, unhide B2⟩
  obtain ⟨x0, x1, x2⟩ := unhide A2
  go_wp2_with fail
  refine (unhide cA _).mono ?_
  rintro e W3 ⟨rfl, hx⟩
  have A3 := hide ((unhide A2).kept (vlt (unhide A2)) hx)
  have D3 := hide ((unhide D2).kept (vlt (unhide D2)) hx)
  have O3 := hide (ownKeptP (unhide O2) hx)
  have B3 := hide (below_call (unhide B2) hx)
  clear hx A2 D2 O2 B2 x0 x1 x2
  cases ha : wideB a1 a2 a3
  · obtain rfl := unhide HN2 ha
    go_wp2_with fail
    go_ret
    exact ⟨⟨_, rfl, own_less (unhide O3) (by omega)⟩, unhide B3⟩
  obtain ⟨x0, x1, x2⟩ := unhide D3
  go_wp2_with fail
  refine (unhide cB _).mono ?_
  rintro e W4 ⟨rfl, hx⟩
  have A4 := hide ((unhide A3).kept (vlt (unhide A3)) hx)
  have D4 := hide ((unhide D3).kept (vlt (unhide D3)) hx)
  have O4 := hide (ownKeptP (unhide O3) hx)
  have B4 := hide (below_call (unhide B3) hx)
  clear hx A3 D3 O3 B3 x0 x1 x2
  cases hb : wideB b1 b2 b3
  · obtain rfl := unhide HN3 hb
    go_wp2_with fail
    go_ret
    exact ⟨⟨_, rfl, own_less (unhide O4) (by omega)⟩, unhide B4⟩
  have cP' := hide (unhide cP hk)
  have hAL := unhide HAL hk
  have HR := hide (unhide HY hk ha hb)
  clear hk ha hb HN1 HN2 HN3 HY HAL cP H12 cS cA cB
  go_wp2_with fail
  refine (unhide cP' _ ((unhide HS).kept (unhide B4))).mono ?_
  rintro e W5 ⟨⟨g, cap, rfl, ho⟩, hx⟩
  have A5 := hide ((unhide A4).kept (vlt (unhide A4)) hx)
  have D5 := hide ((unhide D4).kept (vlt (unhide D4)) hx)
  have O5 := hide (ownKeptP (unhide O4) hx)
  have P5 := hide ho
  have B5 := hide (below_call (unhide B4) hx)
  have hgl := ho.block
  have hW4 := (unhide O4).lt
  clear hx ho A4 D4 O4 B4
  have hne0 : ∀ b0, (Value.slice (some ⟨w.heap.size + 1 + 1, 0, none⟩) 0 0).ownBlock = some b0 → b0 ≠ g := fun b0 h e => by have := hW4 b0 h; omega
  have HNE := hide (fun e => hne0 g e rfl)
  clear hne0 hW4
  generalize W4.heap.size = lo at *
  clear W4
  go_wp2_with fail
  go_loopw [7, 9] (fun v i wr => ∃ k : Nat, k ≤ O.length ∧ i = .int .i64 k ∧ Hid (wr.ownsRow (w.heap.size + 2) 50 2 v ((O.take k).filter fit).length (flatP ((O.take k).filter fit))) ∧ Hid (v.ownBlock = some g → False) ∧ Hid (OwnP wr lo g cap O) ∧ Hid (VecAt wr w.heap.size a1 a2 a3) ∧ Hid (VecAt wr (w.heap.size + 1) b1 b2 b3) ∧ Hid (Below w.heap.size w wr)) (fun _ i _ => O.length - (intOf i).toNat)
  case atStart => exact ⟨0, by omega, rfl, O5, HNE, P5, A5, D5, B5⟩
  case round =>
    clear O5 HNE P5 A5 D5 B5
    obtain ⟨k, hk, rfl, HO, HNE, HP, HA, HD, HB⟩ := hrel
    by_cases hkn : k < O.length
    · have hkn2 : (k : Int) < (O.length : Int) := by omega
      have HF := hide (unhide HFS O k hkn)
      have HFV := hide (unhide HFB (prA O k))
      obtain ⟨e1, e2⟩ := flatP_at O k hkn
      have c0 := (unhide HP).cells _ _ e1
      have c1 := (unhide HP).cells _ _ e2
      obtain ⟨q, hq⟩ : ∃ q, q = prA O k := ⟨_, rfl⟩
      rw [← hq] at c0 c1 HF HFV
      have HQ := hide hq
      clear hq e1 e2
      obtain ⟨q1, q2⟩ := q
      obtain ⟨u0, u1, u2⟩ := unhide HA
      obtain ⟨v0, v1, v2⟩ := unhide HD
      have rc0 := cell_regrown c0
      have rc1 := cell_regrown c1
      have ru0 := cell_regrown u0
      have ru1 := cell_regrown u1
      have ru2 := cell_regrown u2
      have rv0 := cell_regrown v0
      have rv1 := cell_regrown v1
      have rv2 := cell_regrown v2
      clear c0 c1 u0 u1 u2 v0 v1 v2
      have c1' : Hid (∀ (dq : Nat) (osq : Array Obj), Calls Tryd.prog 27 #[.slice ar n c, .int .i64 q1] (grow (redrawn wr dq) osq) fun e w' => e = .returned (vecV (atV L n q1)) ∧ Below (grow (redrawn wr dq) osq).heap.size (grow (redrawn wr dq) osq) w') := hide (fun dq osq => unhide cT _ q1 (((unhide HS).kept (unhide HB)).kept (below_regrown wr dq osq)))
      have c2' : Hid (∀ (dq : Nat) (osq : Array Obj), Calls Tryd.prog 27 #[.slice ar n c, .int .i64 q2] (grow (redrawn wr dq) osq) fun e w' => e = .returned (vecV (atV L n q2)) ∧ Below (grow (redrawn wr dq) osq).heap.size (grow (redrawn wr dq) osq) w') := hide (fun dq osq => unhide cT _ q2 (((unhide HS).kept (unhide HB)).kept (below_regrown wr dq osq)))
      have c3' := hide (fun W => unhide cC (atV L n q1) (atV L n q2) W)
      simp only at HFV
      generalize cosP (a1, a2, a3) (b1, b2, b3) (atV L n q1) (atV L n q2) = cv at *
      generalize atV L n q1 = t1 at *
      generalize atV L n q2 = t2 at *
      go_wp2_with fail
      refine wp_region_quiet_below (by kernel_rfl) (by kernel_rfl) ?_
      repeat (go_big_quiet_step (first | (with_reducible exact Calls.regrown_of (unhide c1' _ _)) | (with_reducible exact Calls.regrown_of (unhide c2' _ _)) | (with_reducible exact Calls.regrown_of (unhide c3' _))))
      refine wpQuiet_nil ?_
      intro _ hw'
      obtain ⟨⟨dq, osq⟩, hw''⟩ := hw'
      subst hw''
      have hx := below_regrown wr dq osq
      have HO2 := hide (ownKeptP (unhide HO) hx)
      have HP2 := hide ((unhide HP).kept hx)
      have HA2 := hide ((unhide HA).kept (vlt (unhide HA)) hx)
      have HD2 := hide ((unhide HD).kept (vlt (unhide HD)) hx)
      have HB2 := hide (below_call (unhide HB) hx)
      generalize grow (redrawn wr dq) osq = W6 at hx HO2 HP2 HA2 HD2 HB2 ⊢
      clear hx HO HP HA HD HB rc0 rc1 ru0 ru1 ru2 rv0 rv1 rv2 c1' c2' c3'
      by_cases hcv : cv = 0
      · subst hcv
        rw [unhide HFV] at HF
        rw [if_pos (by rfl)] at HF
        obtain ⟨e1, e2⟩ := flatP_at O k hkn
        have c0 := (unhide HP2).cells _ _ e1
        have c1 := (unhide HP2).cells _ _ e2
        rw [← unhide HQ] at c0 c1
        clear e1 e2
        have Z1 := below1 W6 (.cells #[.int .i64 q1, .int .i64 q2] 50)
        have hown := ownKeptP (unhide HO2) Z1
        have P7 := hide ((unhide HP2).kept Z1)
        have A7 := hide ((unhide HA2).kept (vlt (unhide HA2)) Z1)
        have D7 := hide ((unhide HD2).kept (vlt (unhide HD2)) Z1)
        have B7 := below_call (unhide HB2) Z1
        have hlen : ((O.take k).filter fit).length ≤ 160 := by
          have h1 := List.length_filter_le fit (O.take k)
          have h2 := List.length_take_le k O
          omega
        have hsz6 : w.heap.size + 2 ≤ W6.heap.size := by have := (unhide HO2).lt; have := (unhide HP2).block; have := vlt (unhide HD2); omega
        have hgl6 := (unhide HP2).block
        clear Z1 HO2 HP2 HA2 HD2 HB2
        generalize (O.take k).filter fit = Fk at *
        go_wp2_with (at_builtin; refine wpList_append_own_at _ rfl _ _ 24 rfl (w.heap.size + 2) 50 i0 (.agg #[.int .i64 0, .int .i64 0]) 2 16 Tryd.underlying24 hi hz0 hz1 hz2 rfl (by decide) _ _ _ rfl hown ⟨W6.heap.size, 0, none⟩ 1 1 (flatP [(q1, q2)]) rfl rfl ?d2 (fun u hu => prC_cell hu) ?d3 ?d4 ?d5 ?_)
        case d2 => exact fun j u h => h
        case d3 => omega
        case d4 => omega
        case d5 => omega
        intro v7 V7 hown7 hgrow7 _ hob
        have NE7 : Hid (v7.ownBlock = some g → False) := hide (fun e => by
          rcases hob with h | h
          · exact unhide HNE (by rw [← h]; exact e)
          · rw [e] at h
            have h := Option.some.inj h
            first | omega | (simp at h; omega))
        have B8 := hide (grownOwn2 B7 hown hgrow7 (by omega) (by simp; omega))
        have P8 := hide ((unhide P7).grown hgrow7 (unhide HNE))
        have A8 := hide (vecGrown (unhide A7) hown hgrow7 (by omega))
        have D8 := hide (vecGrown (unhide D7) hown hgrow7 (by omega))
        have O8 : Hid (V7.ownsRow (w.heap.size + 2) 50 2 v7 ((O.take (k + 1)).filter fit).length (flatP ((O.take (k + 1)).filter fit))) := hide (by rw [unhide HF, flatP_app, List.length_append]; exact hown7)
        clear hown7 hgrow7 hob hown B7 P7 A7 D7 c0 c1
        go_wp2_with fail
        go_roundw
        case rel => exact ⟨k + 1, by omega, by go_num, O8, NE7, P8, A8, D8, B8⟩
        case measure => simp [intOf] <;> omega
      · have hcv' : (cv == 0) = false := by simp [hcv]
        rw [unhide HFV, if_neg (by simpa using hcv), List.append_nil] at HF
        have HO3 : Hid (W6.ownsRow (w.heap.size + 2) 50 2 u7 ((O.take (k + 1)).filter fit).length (flatP ((O.take (k + 1)).filter fit))) := hide (by rw [unhide HF]; exact unhide HO2)
        go_wp2_with fail
        go_roundw
        case rel => exact ⟨k + 1, by omega, by go_num, HO3, HNE, HP2, HA2, HD2, HB2⟩
        case measure => simp [intOf] <;> omega
    · have hke : k = O.length := by omega
      have HO3 : Hid (wr.ownsRow (w.heap.size + 2) 50 2 u7 R.length (flatP R)) := hide (by
        have h := unhide HO
        rw [hke, List.take_length, ← unhide HR] at h
        exact h)
      go_wp2_with fail
      go_ret
      exact ⟨⟨_, rfl, own_less (unhide HO3) (by omega)⟩, unhide HB⟩
end Go.Proofs.YthmelofbdbplnaaDoor
