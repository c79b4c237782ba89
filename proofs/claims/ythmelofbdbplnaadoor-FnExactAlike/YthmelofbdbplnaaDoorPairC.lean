/- l04Pairs, the specification's. -/
import Derived.Test.YthmelofbdbplnaaDoorPairB
namespace Go.Proofs.YthmelofbdbplnaaDoor
open Go.RowKit Go.Sort
set_option linter.unusedVariables false

theorem info_pair : (Tryd.prog.info? 50).map (fun i => (i.zero, i.size, i.bytes)) = some (some (.agg #[.int .i64 0, .int .i64 0]), 2, 16) := by kernel_rfl
theorem toOwnP {w : World} {B n : Nat} {v : Value} {xs : List Value} {O : List P2} (h : w.ownsRow B 50 2 v n xs) (hne : v ≠ .slice none 0 0) (hn : n = O.length) (hx : xs = flatP O) : ∃ g cap, v = .slice (some ⟨g, 0, none⟩) O.length cap ∧ OwnP w B g cap O := by
  subst hn hx
  rcases h.2 with ⟨h1, h0⟩ | ⟨g, cap, cur, hv, r⟩
  · exact absurd h1 hne
  · exact ⟨g, cap, hv, by unfold OwnP; rw [← hv]; exact h⟩
theorem belowNew {w5 W6 V6 : World} {g : Nat} (h : Below w5.heap.size w5 W6) (hg : W6.grownBy V6 (some g)) (hge : w5.heap.size ≤ g) : Below w5.heap.size w5 V6 :=
  h.trans ⟨hg.os, hg.tape, hg.output, hg.size, fun k hk => hg.block k (Nat.lt_of_lt_of_le hk h.size) (fun e => by have := Option.some.inj e; omega)⟩
theorem OwnP.less {w : World} {B B' g cap : Nat} {O : List P2} (h : OwnP w B g cap O) (hb : B' ≤ B) : OwnP w B' g cap O := by
  obtain ⟨h1, h2⟩ := h
  refine ⟨h1, ?_⟩
  rcases h2 with h2 | ⟨g, cap, cur, e, hg, r⟩
  · exact .inl h2
  · exact .inr ⟨g, cap, cur, e, by omega, r⟩
theorem OwnP.part {w : World} {B g cap : Nat} {O : List P2} (h : OwnP w B g cap O) (k : Nat) : ∀ j u, (flatP (O.take k))[j]? = some u → w.cell? ((⟨g, 0, none⟩ : Addr).add j) = some u := by
  intro j u hj
  rw [flatP_take, List.getElem?_take] at hj
  split at hj
  · have e : (⟨g, 0, none⟩ : Addr).add j = ⟨g, j, none⟩ := by cases j <;> simp [Addr.add]
    rw [e]
    exact h.cells j u hj
  · cases hj
theorem OwnP.tail {w : World} {B g cap : Nat} {O : List P2} (h : OwnP w B g cap O) (k : Nat) : ∀ j u, (flatP (O.drop k))[j]? = some u → w.cell? ((⟨g, k * 2, none⟩ : Addr).add j) = some u := by
  intro j u hj
  rw [flatP_drop, List.getElem?_drop] at hj
  have e : (⟨g, k * 2, none⟩ : Addr).add j = ⟨g, k * 2 + j, none⟩ := by cases j <;> simp [Addr.add]
  rw [e]
  exact h.cells _ u hj
theorem pair_cells (w : World) (x y : Int) (t : TypeId) : ∀ (j : Nat) (u : Value), (flatP [(x, y)])[j]? = some u → (w.alloc (.cells #[.int .i64 x, .int .i64 y] t)).cell? ((⟨w.heap.size, 0, none⟩ : Addr).add j) = some u := by
  intro j u hj
  have e : flatP [(x, y)] = [.int .i64 x, .int .i64 y] := rfl
  rw [e] at hj
  match j, hj with
  | 0, hj => simp at hj; subst hj; simp [Addr.add]
  | 1, hj => simp at hj; subst hj; simp [Addr.add]
  | j + 2, hj => simp at hj
theorem holdP {wr wx : World} {p q : Addr} {x y : Value} (hp : wr.cell? p = some x) (hq : wr.cell? q = some y) (h : Below wr.heap.size wr wx) : (wx.cell? p = some x ∧ wx.cell? q = some y) ∧ Below wr.heap.size wr wx :=
  ⟨⟨by rw [h.cell (World.block_lt_of_cell? _ _ hp)]; exact hp, by rw [h.cell (World.block_lt_of_cell? _ _ hq)]; exact hq⟩, h⟩
def ResvP (w : World) (b : Nat) : Prop := PairAt w b 0 0 ∧ w.frozen? ⟨b, 0, none⟩ = false ∧ w.frozen? ⟨b, 1, none⟩ = false
theorem stepSetP {w1 wx : World} {X : Prop} {b : Nat} (h : X ∧ Below w1.heap.size w1 wx) (hb : w1.heap.size ≤ b) (x y : Value) : Below w1.heap.size w1 ((wx.setCell ⟨b, 0, none⟩ x).setCell ⟨b, 1, none⟩ y) := (h.2.setCell hb _).setCell hb _

set_option maxHeartbeats 4000000 in
set_option maxRecDepth 100000 in
theorem l04Pairs_any (L : List St) (a : Option Addr) (c : Nat) (w : World) (hn : L.length ≤ 12) (hS : Stars w a L L.length) :
    Calls Tryd.prog 18 #[.slice a L.length c] w fun e w' => (∃ g cap, e = .returned (.slice (some ⟨g, 0, none⟩) (allP L L.length).length cap) ∧ OwnP w' w.heap.size g cap (allP L L.length)) ∧ Below w.heap.size w w' := by
  have cL := hide (fun W p1 p2 q1 q2 hW => l04Less_any L L.length a c p1 p2 q1 q2 W (by omega) hW)
  obtain ⟨i0, hi, hz0, hz1, hz2⟩ := info_parts info_pair
  have HAL := hide (allP_len L hn)
  have HS := hide hS
  clear hS
  have O0 := hide (ownP_new w w.heap.size (Nat.le_refl _))
  have B0 := hide (below1 w (.cells #[] 50))
  go_enter Tryd.func18, Tryd.ntmps18
  go_wp2_with fail
  go_loopw [3, 4] (fun v i wr => ∃ (k g cap : Nat), k ≤ L.length ∧ i = .int .i64 k ∧ v = .slice (some ⟨g, 0, none⟩) (allP L k).length cap ∧ Hid (OwnP wr w.heap.size g cap (allP L k)) ∧ Hid (Below w.heap.size w wr)) (fun _ i _ => L.length - (intOf i).toNat)
  case atStart => exact ⟨0, w.heap.size, 0, by omega, rfl, rfl, O0, B0⟩
  case round =>
    obtain ⟨k, g, cap, hk, rfl, rfl, HO, HB⟩ := hrel
    by_cases hkn : k < L.length
    · have hkn2 : (k : Int) < (L.length : Int) := by omega
      go_wp2_with fail
      go_loopw [3, 5] (fun v i wr => ∃ (j g cap : Nat), k + 1 ≤ j ∧ j ≤ L.length ∧ i = .int .i64 j ∧ v = .slice (some ⟨g, 0, none⟩) (rowP L (allP L k) k (j - (k + 1))).length cap ∧ Hid (OwnP wr w.heap.size g cap (rowP L (allP L k) k (j - (k + 1)))) ∧ Hid (Below w.heap.size w wr)) (fun _ i _ => L.length - (intOf i).toNat)
      case atStart => exact ⟨k + 1, g, cap, Nat.le_refl _, by omega, by go_num, by rw [Nat.sub_self]; rfl, by rw [Nat.sub_self]; exact HO, HB⟩
      case round =>
        clear HO HB
        obtain ⟨j, g, cap, hj1, hj, rfl, rfl, HO, HB⟩ := hrel
        by_cases hjn : j < L.length
        · have hjn2 : (j : Int) < (L.length : Int) := by omega
          rcases (unhide HS).kept (unhide HB) with h0 | ⟨b, o, ha, hb, hc⟩
          · omega
          subst ha
          have e1 := (hc k hkn).1
          have e2 := (hc j hjn).1
          have E1 := hide e1
          have E2 := hide e2
          go_wp2_with fail
          go_cut [6] (fun s wx => ∃ bb, s = .pointer (some ⟨bb, 0, none⟩) ∧ PairAt wx bb (stA L k).1 (stA L j).1 ∧ Below wr.heap.size wr wx)
          case first =>
            go_region_held (fun w' => (w'.cell? ⟨b, o + k * 4, none⟩ = some (.int .i64 (stA L k).1) ∧ w'.cell? ⟨b, o + j * 4, none⟩ = some (.int .i64 (stA L j).1)) ∧ Below wr.heap.size wr w') (first | exact holdP (unhide E1) (unhide E2) (Below.refl _ _).drew | exact holdP (unhide E1) (unhide E2) (below1 _ _).drew | exact holdP (unhide E1) (unhide E2) (below1 _ _) | exact holdP (unhide E1) (unhide E2) (stepAlloc (by assumption) _) | exact holdP (unhide E1) (unhide E2) (by assumption) | exact holdP (unhide E1) (unhide E2) (stepAlloc2 (by assumption) _) | exact holdP (unhide E1) (unhide E2) (stepSetP (by assumption) (by first | exact Nat.le_refl _ | exact Below.size (by assumption)) _ _)) (fail)
            go_wp2_with fail
            go_meet
            case rel => exact ⟨_, rfl, show PairAt (wr.alloc (.cells #[.int .i64 (stA L k).1, .int .i64 (stA L j).1] 50)).drew wr.heap.size _ _ from pairAt_new wr _ _ _, (below1 _ _).drew⟩
          case rest =>
            obtain ⟨bb, rfl, hp, hx⟩ := hcut
            clear e1 e2 E1 E2 hb hc
            have hOl : (rowP L (allP L k) k (j - (k + 1))).length ≤ 160 := by
              rw [rowP_len]
              have := unhide HAL k hk
              omega
            have HNX : Hid (rowP L (allP L k) k (j + 1 - (k + 1)) = insP (lessP L) ((stA L k).1, (stA L j).1) (rowP L (allP L k) k (j - (k + 1)))) := hide (by
              rw [show j + 1 - (k + 1) = (j - (k + 1)) + 1 by omega]
              show insP _ ((stA L k).1, (stA L (k + 1 + (j - (k + 1)))).1) _ = _
              rw [show k + 1 + (j - (k + 1)) = j by omega])
            have S1 := hide (((unhide HS).kept (unhide HB)).kept hx)
            have O1 := hide ((unhide HO).kept hx)
            have B1 := hide (below_call (unhide HB) hx)
            have P1 := hide hp
            clear hp hx HO HB
            generalize hON0 : rowP L (allP L k) k (j + 1 - (k + 1)) = ON at HNX ⊢
            have HON := hide hON0
            clear hON0
            generalize rowP L (allP L k) k (j - (k + 1)) = O at *
            generalize (stA L k).1 = x at *
            generalize (stA L j).1 = y at *
            have HCL : Hid (∀ (q1 q2 : Int) (W : World), Stars W (some ⟨b, o, none⟩) L L.length → Calls Tryd.prog 35 #[.slice (some ⟨b, o, none⟩) L.length c, .agg #[.int .i64 x, .int .i64 y], .agg #[.int .i64 q1, .int .i64 q2]] W fun e w' => e = .returned (.bool (lessP L (x, y) (q1, q2))) ∧ Below W.heap.size W w') := hide (fun q1 q2 W h => unhide cL W x y q1 q2 h)
            go_wp2_with fail
            go_loopw [7] (fun i wz => ∃ q : Nat, q ≤ O.length ∧ i = .int .i64 q ∧ Hid (backK (lessP L) (x, y) O q = backK (lessP L) (x, y) O O.length) ∧ Hid (Below wc.heap.size wc wz)) (fun i _ => (intOf i).toNat)
            case atStart => exact ⟨O.length, Nat.le_refl _, rfl, hide rfl, hide (Below.refl _ _)⟩
            case round =>
              obtain ⟨q, hq, rfl, HK, HZ⟩ := hrel
              have O2 := hide ((unhide O1).kept (unhide HZ))
              have P2 := hide ((unhide P1).kept (unhide HZ))
              have S2 := hide ((unhide S1).kept (unhide HZ))
              have B2 := hide (below_call (unhide B1) (unhide HZ))
              match q, hq, HK with
              | 0, hq, HK =>
                have HQ : Hid (ON = O.take 0 ++ [(x, y)] ++ O.drop 0) := hide (by rw [unhide HNX]; unfold insP; rw [← unhide HK]; rfl)
                clear HK HNX
                go_wp2_with fail
                refine wp_region_quiet_below (by kernel_rfl) (by kernel_rfl) ?_
                repeat (go_big_quiet_step (fail))
                refine wpQuiet_nil ?_
                intro _ hw'
                obtain ⟨⟨dq, osq⟩, hw''⟩ := hw'
                subst hw''
                have hx := below_regrown wr dq osq
                have O3 := hide ((unhide O2).kept hx)
                have P3 := hide ((unhide P2).kept hx)
                have B3 := hide (below_call (unhide B2) hx)
                dsimp only
                generalize grow (redrawn wr dq) osq = w5 at *
                have hcaps := (unhide O3).caps
                have hgl := (unhide O3).block
                have hs5 := (unhide B3).size
                have hm9 : maxLen ≤ 9223372036854775807 := by decide +kernel
                have hm8 : 400 ≤ maxLen := by decide +kernel
                clear hx O2 P2 B2 S2 HZ
                have N5 := ownP_new w5 w5.heap.size (Nat.le_refl _)
                have O5 := (unhide O3).kept (below1 w5 (.cells #[] 50))
                go_wp2_with (at_builtin; refine wpList_append_own _ rfl _ _ 24 rfl w5.heap.size 50 i0 (.agg #[.int .i64 0, .int .i64 0]) 2 16 Tryd.underlying24 hi hz0 hz1 hz2 rfl (by decide) _ _ _ rfl N5 ⟨g, 0, none⟩ 0 cap (flatP (O.take 0)) rfl ?c0 (O5.part 0) (fun u hu => prC_cell hu) ?c3 ?c4 ?c5 ?_)
                case c0 => rw [flatP_len, List.length_take, Nat.min_eq_left (by omega)]
                case c3 => simp only [List.length_nil]; omega
                case c4 => simp only [List.length_nil]; omega
                case c5 => simp
                intro v6 V6 hown6 hgrow6 hnone6
                have hne6 : v6 ≠ .slice none 0 0 := hnone6
                obtain ⟨A, hA⟩ : ∃ A, A = O.take 0 := ⟨_, rfl⟩
                have hAl : A.length = 0 := by rw [hA, List.length_take, Nat.min_eq_left (by omega)]
                obtain ⟨g6, cap6, rfl, own6⟩ := toOwnP (O := A) hown6 hne6 (by first | (rw [hAl]; done) | (rw [hAl]; simp)) (by rw [hA]; rfl)
                have HA := hide hA
                have hlt6 : A.length ≤ 160 := by omega
                have HAl := hide hAl
                clear hA hAl
                have Z6 := belowNew (below1 w5 _) hgrow6 (Nat.le_refl _)
                have hb6 := own6.block
                have P6 := hide ((unhide P3).kept Z6)
                have U6 := hide ((unhide O3).kept Z6)
                have HZ6 := hide Z6
                have W6 := hide own6
                clear hown6 hgrow6 hnone6 hne6 Z6 N5 O5 P3 own6
                obtain ⟨p0, p1⟩ := unhide P6
                have N6 := (unhide W6).kept (below1 V6 (.cells #[.int .i64 x, .int .i64 y] 50))
                go_wp2_with (at_builtin; refine wpList_append_own _ rfl _ _ 24 rfl w5.heap.size 50 i0 (.agg #[.int .i64 0, .int .i64 0]) 2 16 Tryd.underlying24 hi hz0 hz1 hz2 rfl (by decide) _ _ _ rfl N6 ⟨V6.heap.size, 0, none⟩ 1 1 (flatP [(x, y)]) rfl rfl (pair_cells V6 x y 50) (fun u hu => prC_cell hu) ?d3 ?d4 ?d5 ?_)
                case d3 => omega
                case d4 => omega
                case d5 => have := (unhide HZ6).size; simp; omega
                intro v7 V7 hown7 hgrow7 hnone7
                obtain ⟨A7, hA7⟩ : ∃ A7, A7 = A ++ [(x, y)] := ⟨_, rfl⟩
                have hAl7 : A7.length = A.length + 1 := by rw [hA7, List.length_append]; rfl
                obtain ⟨g7, cap7, rfl, own7⟩ := toOwnP (O := A7) hown7 hnone7 hAl7.symm (by rw [hA7, flatP_app])
                have Z7 := belowNew (below_call (unhide HZ6) (below1 V6 _)) hgrow7 hb6.1
                have HA7 := hide hA7
                have hlt7 : A7.length ≤ 161 := by omega
                clear hA7 hAl7
                have hb7 := own7.block
                have U7 := hide ((unhide O3).kept Z7)
                have HZ7 := hide Z7
                have W7 := hide own7
                clear hown7 hgrow7 hnone7 Z7 N6 P6 own7 p0 p1 hb6 W6 U6
                have T7 := unhide U7
                have N7 := unhide W7
                have hON : ON = A7 ++ O.drop 0 := by rw [unhide HQ, unhide HA7, unhide HA]
                have HX := hide (show flatP A7 ++ flatP (O.drop 0) = flatP ON by rw [hON, flatP_app])
                have HXl := hide (show A7.length + (O.length - 0) = ON.length by rw [hON, List.length_append, List.length_drop])
                have hs7 := (unhide HZ7).size
                clear hON
                go_wp2_with (at_builtin; refine wpList_append_own _ rfl _ _ 24 rfl w5.heap.size 50 i0 (.agg #[.int .i64 0, .int .i64 0]) 2 16 Tryd.underlying24 hi hz0 hz1 hz2 rfl (by decide) _ _ _ rfl N7 ⟨g, 0 * 2, none⟩ (O.length - 0) (cap - 0) (flatP (O.drop 0)) ?e9 ?e0 (T7.tail 0) (fun u hu => prC_cell hu) ?e3 ?e4 ?e5 ?_)
                case e9 => first | rfl | simp [go_sem]
                case e0 => first | rfl | rw [flatP_len, List.length_drop]
                case e3 => omega
                case e4 => omega
                case e5 => omega
                intro v8 V8 hown8 hgrow8 hnone8
                obtain ⟨g8, cap8, rfl, own8⟩ := toOwnP (O := ON) hown8 hnone8 (by first | exact unhide HXl | (rw [← unhide HXl]; omega)) (by first | exact unhide HX | (rw [← unhide HX, List.drop_eq_nil_of_le (by omega)]; simp [flatP]))
                have Z8 := belowNew (unhide HZ7) hgrow8 hb7.1
                have B8 := hide (below_call (unhide B3) Z8)
                have W8 := hide (own8.less (show w.heap.size ≤ w5.heap.size by omega))
                clear hown8 hgrow8 hnone8 Z8 own8 N7 T7 U7 W7
                go_wp2_with fail
                go_roundw
                case rel => exact ⟨j + 1, g8, cap8, by omega, by omega, by go_num, by rw [unhide HON], by rw [unhide HON]; exact W8, B8⟩
                case measure => simp [intOf]; omega
              | q + 1, hq, HK =>
                have hq0 : (0 : Int) < ((q + 1 : Nat) : Int) := by omega
                obtain ⟨v0, v1⟩ := unhide P2
                have r0 := cell_regrown v0
                have r1 := cell_regrown v1
                obtain ⟨t0, t1⟩ := flatP_at O q (by omega)
                have r2 := cell_regrown ((unhide O2).cells _ _ t0)
                have r3 := cell_regrown ((unhide O2).cells _ _ t1)
                have cL' : Hid (∀ d os, Calls Tryd.prog 35 #[.slice (some ⟨b, o, none⟩) L.length c, .agg #[.int .i64 x, .int .i64 y], .agg #[.int .i64 (prA O q).1, .int .i64 (prA O q).2]] (grow (redrawn wr d) os) fun e w' => e = .returned (.bool (lessP L (x, y) (prA O q))) ∧ Below (grow (redrawn wr d) os).heap.size (grow (redrawn wr d) os) w') := hide (fun d os => unhide HCL _ _ _ ((unhide S2).kept (below_regrown wr d os)))
                generalize (prA O q).1 = e1 at *
                generalize (prA O q).2 = e2 at *
                clear v0 v1 t0 t1
                cases hls : lessP L (x, y) (prA O q)
                · rw [hls] at cL'
                  have HQ : Hid (ON = O.take (q + 1) ++ [(x, y)] ++ O.drop (q + 1)) := hide (by rw [unhide HNX]; unfold insP; rw [← unhide HK]; unfold backK; rw [hls]; rfl)
                  clear HK HNX hls
                  go_wp2_with fail
                  refine wp_region_quiet_below (by kernel_rfl) (by kernel_rfl) ?_
                  repeat (go_big_quiet_step (first | (with_reducible exact Calls.regrown_of (unhide cL' _ _))))
                  refine wpQuiet_nil ?_
                  intro _ hw'
                  obtain ⟨⟨dq, osq⟩, hw''⟩ := hw'
                  subst hw''
                  have hx := below_regrown wr dq osq
                  clear r0 r1 r2 r3
                  have O3 := hide ((unhide O2).kept hx)
                  have P3 := hide ((unhide P2).kept hx)
                  have B3 := hide (below_call (unhide B2) hx)
                  dsimp only
                  generalize grow (redrawn wr dq) osq = w5 at *
                  have hcaps := (unhide O3).caps
                  have hgl := (unhide O3).block
                  have hs5 := (unhide B3).size
                  have hm9 : maxLen ≤ 9223372036854775807 := by decide +kernel
                  have hm8 : 400 ≤ maxLen := by decide +kernel
                  clear hx O2 P2 B2 S2 HZ
                  have N5 := ownP_new w5 w5.heap.size (Nat.le_refl _)
                  have O5 := (unhide O3).kept (below1 w5 (.cells #[] 50))
                  go_wp2_with (at_builtin; refine wpList_append_own _ rfl _ _ 24 rfl w5.heap.size 50 i0 (.agg #[.int .i64 0, .int .i64 0]) 2 16 Tryd.underlying24 hi hz0 hz1 hz2 rfl (by decide) _ _ _ rfl N5 ⟨g, 0, none⟩ (q + 1) cap (flatP (O.take (q + 1))) rfl ?c0 (O5.part (q + 1)) (fun u hu => prC_cell hu) ?c3 ?c4 ?c5 ?_)
                  case c0 => rw [flatP_len, List.length_take, Nat.min_eq_left (by omega)]
                  case c3 => simp only [List.length_nil]; omega
                  case c4 => simp only [List.length_nil]; omega
                  case c5 => simp
                  intro v6 V6 hown6 hgrow6 hnone6
                  have hne6 : v6 ≠ .slice none 0 0 := hnone6
                  obtain ⟨A, hA⟩ : ∃ A, A = O.take (q + 1) := ⟨_, rfl⟩
                  have hAl : A.length = (q + 1) := by rw [hA, List.length_take, Nat.min_eq_left (by omega)]
                  obtain ⟨g6, cap6, rfl, own6⟩ := toOwnP (O := A) hown6 hne6 (by first | (rw [hAl]; done) | (rw [hAl]; simp)) (by rw [hA]; rfl)
                  have HA := hide hA
                  have hlt6 : A.length ≤ 160 := by omega
                  have HAl := hide hAl
                  clear hA hAl
                  have Z6 := belowNew (below1 w5 _) hgrow6 (Nat.le_refl _)
                  have hb6 := own6.block
                  have P6 := hide ((unhide P3).kept Z6)
                  have U6 := hide ((unhide O3).kept Z6)
                  have HZ6 := hide Z6
                  have W6 := hide own6
                  clear hown6 hgrow6 hnone6 hne6 Z6 N5 O5 P3 own6
                  obtain ⟨p0, p1⟩ := unhide P6
                  have N6 := (unhide W6).kept (below1 V6 (.cells #[.int .i64 x, .int .i64 y] 50))
                  go_wp2_with (at_builtin; refine wpList_append_own _ rfl _ _ 24 rfl w5.heap.size 50 i0 (.agg #[.int .i64 0, .int .i64 0]) 2 16 Tryd.underlying24 hi hz0 hz1 hz2 rfl (by decide) _ _ _ rfl N6 ⟨V6.heap.size, 0, none⟩ 1 1 (flatP [(x, y)]) rfl rfl (pair_cells V6 x y 50) (fun u hu => prC_cell hu) ?d3 ?d4 ?d5 ?_)
                  case d3 => omega
                  case d4 => omega
                  case d5 => have := (unhide HZ6).size; simp; omega
                  intro v7 V7 hown7 hgrow7 hnone7
                  obtain ⟨A7, hA7⟩ : ∃ A7, A7 = A ++ [(x, y)] := ⟨_, rfl⟩
                  have hAl7 : A7.length = A.length + 1 := by rw [hA7, List.length_append]; rfl
                  obtain ⟨g7, cap7, rfl, own7⟩ := toOwnP (O := A7) hown7 hnone7 hAl7.symm (by rw [hA7, flatP_app])
                  have Z7 := belowNew (below_call (unhide HZ6) (below1 V6 _)) hgrow7 hb6.1
                  have HA7 := hide hA7
                  have hlt7 : A7.length ≤ 161 := by omega
                  clear hA7 hAl7
                  have hb7 := own7.block
                  have U7 := hide ((unhide O3).kept Z7)
                  have HZ7 := hide Z7
                  have W7 := hide own7
                  clear hown7 hgrow7 hnone7 Z7 N6 P6 own7 p0 p1 hb6 W6 U6
                  have T7 := unhide U7
                  have N7 := unhide W7
                  have hON : ON = A7 ++ O.drop (q + 1) := by rw [unhide HQ, unhide HA7, unhide HA]
                  have HX := hide (show flatP A7 ++ flatP (O.drop (q + 1)) = flatP ON by rw [hON, flatP_app])
                  have HXl := hide (show A7.length + (O.length - (q + 1)) = ON.length by rw [hON, List.length_append, List.length_drop])
                  have hs7 := (unhide HZ7).size
                  clear hON
                  by_cases hce : cap = (q + 1)
                  · subst hce
                    go_wp2_with (at_builtin; refine wpList_append_own _ rfl _ _ 24 rfl w5.heap.size 50 i0 (.agg #[.int .i64 0, .int .i64 0]) 2 16 Tryd.underlying24 hi hz0 hz1 hz2 rfl (by decide) _ _ _ rfl N7 ⟨g, 0, none⟩ 0 0 [] ?e9 ?e0 (fun j u h => by simp at h) (fun u hu => by cases hu) ?e3 ?e4 ?e5 ?_)
                    case e9 => first | rfl | simp [go_sem]
                    case e0 => first | rfl | rw [flatP_len, List.length_drop]
                    case e3 => omega
                    case e4 => omega
                    case e5 => omega
                    intro v8 V8 hown8 hgrow8 hnone8
                    obtain ⟨g8, cap8, rfl, own8⟩ := toOwnP (O := ON) hown8 hnone8 (by first | exact unhide HXl | (rw [← unhide HXl]; omega)) (by first | exact unhide HX | (rw [← unhide HX, List.drop_eq_nil_of_le (by omega)]; simp [flatP]))
                    have Z8 := belowNew (unhide HZ7) hgrow8 hb7.1
                    have B8 := hide (below_call (unhide B3) Z8)
                    have W8 := hide (own8.less (show w.heap.size ≤ w5.heap.size by omega))
                    clear hown8 hgrow8 hnone8 Z8 own8 N7 T7 U7 W7
                    go_wp2_with fail
                    go_roundw
                    case rel => exact ⟨j + 1, g8, cap8, by omega, by omega, by go_num, by rw [unhide HON], by rw [unhide HON]; exact W8, B8⟩
                    case measure => simp [intOf]; omega
                  · go_wp2_with (at_builtin; refine wpList_append_own _ rfl _ _ 24 rfl w5.heap.size 50 i0 (.agg #[.int .i64 0, .int .i64 0]) 2 16 Tryd.underlying24 hi hz0 hz1 hz2 rfl (by decide) _ _ _ rfl N7 ⟨g, (q + 1) * 2, none⟩ (O.length - (q + 1)) (cap - (q + 1)) (flatP (O.drop (q + 1))) ?e9 ?e0 (T7.tail (q + 1)) (fun u hu => prC_cell hu) ?e3 ?e4 ?e5 ?_)
                    case e9 => first | rfl | simp [go_sem]
                    case e0 => first | rfl | rw [flatP_len, List.length_drop]
                    case e3 => omega
                    case e4 => omega
                    case e5 => omega
                    intro v8 V8 hown8 hgrow8 hnone8
                    obtain ⟨g8, cap8, rfl, own8⟩ := toOwnP (O := ON) hown8 hnone8 (by first | exact unhide HXl | (rw [← unhide HXl]; omega)) (by first | exact unhide HX | (rw [← unhide HX, List.drop_eq_nil_of_le (by omega)]; simp [flatP]))
                    have Z8 := belowNew (unhide HZ7) hgrow8 hb7.1
                    have B8 := hide (below_call (unhide B3) Z8)
                    have W8 := hide (own8.less (show w.heap.size ≤ w5.heap.size by omega))
                    clear hown8 hgrow8 hnone8 Z8 own8 N7 T7 U7 W7
                    go_wp2_with fail
                    go_roundw
                    case rel => exact ⟨j + 1, g8, cap8, by omega, by omega, by go_num, by rw [unhide HON], by rw [unhide HON]; exact W8, B8⟩
                    case measure => simp [intOf]; omega
                · rw [hls] at cL'
                  have HK2 : Hid (backK (lessP L) (x, y) O q = backK (lessP L) (x, y) O O.length) := hide (by rw [← unhide HK]; show _ = if _ then _ else _; rw [if_pos hls])
                  clear HK hls
                  go_wp2_with fail
                  refine wp_region_quiet_below (by kernel_rfl) (by kernel_rfl) ?_
                  repeat (go_big_quiet_step (first | (with_reducible exact Calls.regrown_of (unhide cL' _ _))))
                  refine wpQuiet_nil ?_
                  intro _ hw'
                  obtain ⟨⟨dq, osq⟩, hw''⟩ := hw'
                  subst hw''
                  have hx := below_regrown wr dq osq
                  clear r0 r1 r2 r3
                  go_wp2_with fail
                  go_roundw
                  case rel => exact ⟨q, by omega, by go_num, HK2, hide (below_call (unhide HZ) hx)⟩
                  case measure => simp [intOf]
        · obtain rfl : j = L.length := by omega
          go_wp2_with fail
          go_roundw
          case rel => exact ⟨k + 1, g, cap, by omega, by go_num, rfl, HO, HB⟩
          case measure => simp [intOf]; omega
    · obtain rfl : k = L.length := by omega
      go_wp2_with fail
      go_ret
      exact ⟨⟨g, cap, rfl, unhide HO⟩, unhide HB⟩
end Go.Proofs.YthmelofbdbplnaaDoor
