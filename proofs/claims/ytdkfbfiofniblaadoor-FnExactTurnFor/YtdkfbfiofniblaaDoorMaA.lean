/- MatchAt: the program's. -/
import Derived.Test.YtdkfbfiofniblaaDoorMaM
import Derived.Test.YtdkfbfiofniblaaDoorIdA
import Derived.Test.YtdkfbfiofniblaaDoorSkyD
import Derived.Test.YtdkfbfiofniblaaDoorTurnF
import Derived.Test.YtdkfbfiofniblaaDoorRowV
import Derived.OwnWalk
import Derived.Laws.OwnMore
namespace Go.Proofs.YtdkfbfiofniblaaDoor
open Go.RowKit Go.Sort
set_option linter.unusedVariables false

theorem info_i64 : (Tryd.prog.info? 2).map (fun i => (i.zero, i.size, i.bytes)) = some (some (.int .i64 0), 1, 8) := by kernel_rfl
theorem RowV.made {w' : World} {B b n : Nat} {v : Value} {t : TypeId} {c : Nat} {xs : List Value} {f : Nat → Value} (h : w'.ownsRow B t c (.slice (some ⟨b, 0, none⟩) n n) n xs) (hf : ∀ j, j < n * c → xs[j]? = some (f j)) : RowV w' t b (n * c) f := by
  rcases h.2 with ⟨h', _⟩ | ⟨g, cap, cur, hv, _, hg, _, _, _, htake⟩
  · simp at h'
  · simp only [Value.slice.injEq, Option.some.injEq, Addr.mk.injEq, and_true, true_and] at hv
    obtain ⟨rfl, rfl⟩ := hv
    refine ⟨cur, hg, fun j hj => ?_⟩
    have e := hf j hj
    rw [← htake, List.getElem?_take, if_pos hj] at e
    simpa using e
theorem below_grownN {w w' : World} (h : w.grownBy w' none) : Below w.heap.size w w' := ⟨h.os, h.tape, h.output, h.size, fun k hk => h.block k hk (by simp)⟩
/-- what the program's Apply answers of a right turn and a small direction -/
theorem apply_small (a b c d : Int) (v : D3) (w : World) (ht : rightT a b c d = true) (hv : smallB v.1 v.2.1 v.2.2 = true) :
    Calls Tryd.prog 51 #[.agg #[.int .i64 a, .int .i64 b, .int .i64 c, .int .i64 d], .agg #[.int .i64 v.1, .int .i64 v.2.1, .int .i64 v.2.2]] w fun e w' => e = .returned (.agg #[.int .i64 (apD a b c d v).1, .int .i64 (apD a b c d v).2.1, .int .i64 (apD a b c d v).2.2]) ∧ Below w.heap.size w w' := by
  refine (apply_any a b c d v.1 v.2.1 v.2.2 w).mono fun e w' h => ?_
  have hr : apR a b c d v.1 v.2.1 v.2.2 = true := by unfold apR; rw [ht, small_wideB hv]; rfl
  rw [hr] at h
  exact h
theorem TurnAt.same {w w' : World} {b : Nat} {p q r s : Int} (h : TurnAt w b p q r s) (e : w'.heap[b]? = w.heap[b]?) : TurnAt w' b p q r s := by
  obtain ⟨h0, h1, h2, h3⟩ := h
  exact ⟨(World.cell?_of_block (a := ⟨b, _, none⟩) e).trans h0, (World.cell?_of_block (a := ⟨b, _, none⟩) e).trans h1, (World.cell?_of_block (a := ⟨b, _, none⟩) e).trans h2, (World.cell?_of_block (a := ⟨b, _, none⟩) e).trans h3⟩
/-- what lies in memory while the spots are gone through -/
structure MSt (w wr : World) (g m : Nat) (a b c d : Int) (f : Nat → Value) : Prop where
  row : RowV wr 2 g (m * 1) f
  tur : TurnAt wr w.heap.size a b c d
  bel : Below w.heap.size w wr
  lo : w.heap.size < g
theorem MSt.kept {w wr wy : World} {g m : Nat} {a b c d : Int} {f : Nat → Value} (h : MSt w wr g m a b c d f) (hB : Below wr.heap.size wr wy) : MSt w wy g m a b c d f :=
  ⟨h.row.kept hB, h.tur.kept h.tur.lt hB, below_call h.bel hB, h.lo⟩
theorem MSt.set {w wr : World} {g m : Nat} {a b c d : Int} {f : Nat → Value} (h : MSt w wr g m a b c d f) (i : Nat) (v : Value) : MSt w (wr.setCell ⟨g, i, none⟩ v) g m a b c d (fun j => if j = i then v else f j) :=
  ⟨h.row.set i v, h.tur.same (heap_setCell_other wr ⟨g, i, none⟩ w.heap.size v (by have := h.lo; show w.heap.size ≠ g; omega)), h.bel.setCell (by have := h.lo; show w.heap.size ≤ g; omega) _, h.lo⟩
theorem MSt.congr {w wr : World} {g m : Nat} {a b c d : Int} {f f' : Nat → Value} (h : MSt w wr g m a b c d f) (e : ∀ j, j < m → f j = f' j) : MSt w wr g m a b c d f' := ⟨h.row.congr (fun j hj => e j (by omega)), h.tur, h.bel, h.lo⟩
/-- the row while spot i is held against the first k stars -/
def rowM (S : List D3) (fin : D3 → Int) (i : Nat) (x : Int) (j : Nat) : Value := .int .i64 (if j < i then fin (vA S j) else if j = i then x else 0)
set_option maxHeartbeats 4000000 in
set_option maxRecDepth 100000 in
theorem implMatchAt_any (L : List St) (S : List D3) (ar br : Option Addr) (cr dr : Nat) (a b c d : Int) (p : Addr) (w : World) (hn : L.length ≤ 1048576) (hcap : L.length ≤ cr) (hc9 : cr ≤ 9223372036854775807) (hn2 : S.length ≤ 1048576) (hcap2 : S.length ≤ dr) (hd9 : dr ≤ 9223372036854775807) (hS : Stars w ar L L.length) (hD : Dirs w br S S.length) (hE : ErrSky p w) :
    Calls Tryd.prog 26 #[.slice ar L.length cr, .agg #[.int .i64 a, .int .i64 b, .int .i64 c, .int .i64 d], .slice br S.length dr] w fun e w' => (∃ v, e = .returned v ∧ PRow w' 2 1 w.heap.size w'.heap.size (matchL L a b c d S).length v (fun j => .int .i64 ((matchL L a b c d S).getD j 0))) ∧ Below w.heap.size w w' := by
  obtain ⟨i0, hinf, hz0, hz1, hz2⟩ := info_parts info_i64
  have cK := hide (fun (W : World) hW hE => skyRight_any L ar cr p W hn hcap hc9 hW hE)
  have cP := hide (fun (W : World) hW => spotsRight_any S br dr W hn2 hcap2 hd9 hW)
  have H1 : Hid (skyB L = false → matchL L a b c d S = []) := hide match_no1
  have H2 : Hid (rightT a b c d = false → matchL L a b c d S = []) := hide match_no2
  have H3 : Hid (spotsB S = false → matchL L a b c d S = []) := hide match_no3
  have H4 : Hid (skyB L = true → rightT a b c d = true → spotsB S = true → matchL L a b c d S = S.map (fun v => idTo L a b c d v L.length)) := hide match_yes
  have H5 : Hid (skyB L = true → L.length ≤ 12 ∧ ∀ j, j < L.length → smallB (stA L j).2.1 (stA L j).2.2.1 (stA L j).2.2.2 = true) := hide (fun h => ⟨(sky_ok h).1, fun j hj => ok_small ((sky_ok h).2 j hj)⟩)
  have H6 : Hid (spotsB S = true → S.length ≤ 6) := hide (fun h => (spots_ok h).1)
  have HS := hide hS
  have HD := hide hD
  have HE := hide hE
  clear hS hD hE
  generalize matchL L a b c d S = R at *
  generalize hml : S.length = m at *
  have HML := hide hml
  clear hml
  generalize L.length = n at *
  clear hcap hcap2 hc9 hd9
  have T0 := turnAt_new w a b c d 48
  have B0 := below1 w (.cells #[.int .i64 a, .int .i64 b, .int .i64 c, .int .i64 d] 48)
  go_enter Tryd.func26, Tryd.ntmps26
  go_wp2_with fail
  generalize w.alloc (.cells #[.int .i64 a, .int .i64 b, .int .i64 c, .int .i64 d] 48) = W0 at T0 B0 ⊢
  refine (unhide cK _ ((unhide HS).kept B0) ((unhide HE).kept B0)).mono ?_
  rintro e W1 ⟨rfl, hx⟩
  have T1 := T0.kept T0.lt hx
  have B1 := below_call B0 hx
  clear hx T0 B0
  cases hk : skyB L
  · obtain rfl := unhide H1 hk
    go_wp2_with fail
    go_ret
    exact ⟨⟨_, rfl, .inl ⟨rfl, _, _, rfl⟩⟩, B1⟩
  have wT := T1
  obtain ⟨t0, t1, t2, t3⟩ := wT
  go_wp2_with fail
  clear t0 t1 t2 t3
  refine (turnRight_any a b c d _).mono ?_
  rintro e W2 ⟨rfl, hx⟩
  have T2 := T1.kept T1.lt hx
  have B2 := below_call B1 hx
  clear hx T1 B1
  cases hr : rightT a b c d
  · obtain rfl := unhide H2 hr
    go_wp2_with fail
    go_ret
    exact ⟨⟨_, rfl, .inl ⟨rfl, _, _, rfl⟩⟩, B2⟩
  go_wp2_with fail
  refine (unhide cP _ ((unhide HD).kept B2)).mono ?_
  rintro e W3 ⟨rfl, hx⟩
  have T3 := T2.kept T2.lt hx
  have B3 := below_call B2 hx
  clear hx T2 B2
  cases hp : spotsB S
  · obtain rfl := unhide H3 hp
    go_wp2_with fail
    go_ret
    exact ⟨⟨_, rfl, .inl ⟨rfl, _, _, rfl⟩⟩, B3⟩
  have HR := hide (unhide H4 hk hr hp)
  obtain ⟨hn12, hsm⟩ := unhide H5 hk
  have hm6 := unhide H6 hp
  have HSM := hide hsm
  have HRT := hide hr
  clear hsm hk hr hp H1 H2 H3 H4 H5 H6 cK cP
  go_wp2_with (at_make; refine wpList_make_full _ rfl _ _ 24 rfl W3.heap.size 2 i0 (.int .i64 0) 1 Tryd.underlying24 hinf hz0 hz1 .i64 .i64 _ _ m rfl rfl rfl rfl (by rw [hz2]; omega) (by unfold maxLen; omega) (Nat.le_refl _) ?_; intro w0 hown0 hgrow0)
  have hg3 : w.heap.size < W3.heap.size := T3.lt
  have hzero : ∀ j, j < m * 1 → (madeCells (Value.int .i64 0).cells (m * 1)).toList[j]? = some (rowM S (fun v => idTo L a b c d v n) 0 0 j) := by
    intro j hj
    have e : (Value.int .i64 0).cells = #[.int .i64 0] := rfl
    rw [e, toList_madeCells_one]
    have : rowM S (fun v => idTo L a b c d v n) 0 0 j = .int .i64 0 := by unfold rowM; rw [if_neg (by omega)]; split <;> rfl
    rw [this]
    simp at hj
    simp [hj]
  have HM : Hid (MSt w w0 W3.heap.size m a b c d (rowM S (fun v => idTo L a b c d v n) 0 0)) := hide ⟨RowV.made (v := .nilIface) hown0 hzero, T3.kept T3.lt (below_grownN hgrow0), below_call B3 (below_grownN hgrow0), hg3⟩
  clear hzero hown0 hgrow0 T3 B3 hg3
  generalize W3.heap.size = g at *
  clear W3
  go_loopw [30] (fun kk wr => ∃ i : Nat, i ≤ m ∧ kk = .int .i64 i ∧ Hid (MSt w wr g m a b c d (rowM S (fun v => idTo L a b c d v n) i 0))) (fun kk _ => m - (intOf kk).toNat)
  case atStart => exact ⟨0, by omega, rfl, HM⟩
  case round =>
    clear HM
    obtain ⟨i, hi, rfl, HM⟩ := hrel
    by_cases him : i < m
    · have him2 : (i : Int) < (m : Int) := by omega
      rcases unhide HD with h | ⟨bb, bo, rfl, hbb, hbc⟩
      · omega
      have hst := (hbc i him).kept hbb (unhide HM).bel
      clear hbc
      obtain ⟨⟨v1, v2, v3⟩, hv⟩ : ∃ v, vA S i = v := ⟨_, rfl⟩
      rw [hv] at hst
      obtain ⟨c0, c1, c2⟩ := hst
      have HV := hide hv
      clear hv
      have Z := below1 wr (.cells #[.int .i64 v1, .int .i64 v2, .int .i64 v3] 59)
      have HM1 := hide ((unhide HM).kept Z)
      have HV1 := hide (vecAt_new wr v1 v2 v3 59)
      have hvg : g < wr.heap.size := (unhide HM).row.lt
      clear Z HM
      go_wp2_with fail
      clear c0 c1 c2
      generalize wr.alloc (.cells #[.int .i64 v1, .int .i64 v2, .int .i64 v3] 59) = W1 at HM1 HV1 ⊢
      generalize wr.heap.size = vb at *
      rcases unhide HS with h0 | ⟨sb, so, rfl, hsb, hsc⟩
      · subst h0
        refine wp_loop_rounds 1 ?_
        rw [rounds_succ]
        have HM2 : Hid (MSt w W1 g m a b c d (rowM S (fun v => idTo L a b c d v 0) (i + 1) 0)) := hide ((unhide HM1).congr (fun j hj => by
          unfold rowM
          by_cases h : j < i
          · rw [if_pos h, if_pos (by omega)]
          · rw [if_neg h]
            by_cases h2 : j = i
            · rw [if_pos h2, if_pos (by omega)]; rfl
            · rw [if_neg h2, if_neg (by omega)]
              split <;> rfl))
        go_wp2_with fail
        go_roundw
        case rel => exact ⟨i + 1, by omega, by go_num, HM2⟩
        case measure => simp [intOf]; omega
      have HSC := hide hsc
      clear hsc
      go_loopw [37] (fun kk wr => ∃ k : Nat, k ≤ n ∧ kk = .int .i64 k ∧ Hid (MSt w wr g m a b c d (rowM S (fun v => idTo L a b c d v n) i (idTo L a b c d (v1, v2, v3) k))) ∧ Hid (VecAt wr vb v1 v2 v3)) (fun kk _ => n - (intOf kk).toNat)
      case atStart => exact ⟨0, by omega, rfl, HM1, HV1⟩
      case round =>
        clear HM1 HV1
        obtain ⟨k, hk, rfl, HM, HV1⟩ := hrel
        by_cases hkn : k < n
        · have hkn2 : (k : Int) < (n : Int) := by omega
          have hst := (unhide HSC k hkn).kept hsb (unhide HM).bel
          have hsm := unhide HSM k hkn
          have HID : Hid (idTo L a b c d (v1, v2, v3) (k + 1) = if sameD (v1, v2, v3) (apD a b c d (stA L k).2) = true then (stA L k).1 else idTo L a b c d (v1, v2, v3) k) := hide rfl
          obtain ⟨⟨s1, s2, s3, s4⟩, hs⟩ : ∃ s, stA L k = s := ⟨_, rfl⟩
          rw [hs] at hst hsm HID
          clear hs
          obtain ⟨c0, c1, c2, c3⟩ := hst
          have cA := hide (fun W => apply_small a b c d (s2, s3, s4) W (unhide HRT) hsm)
          have HID' : Hid (idTo L a b c d (v1, v2, v3) (k + 1) = if sameD (v1, v2, v3) (apD a b c d (s2, s3, s4)) = true then s1 else idTo L a b c d (v1, v2, v3) k) := HID
          clear HID hsm
          generalize apD a b c d (s2, s3, s4) = q at *
          obtain ⟨q1, q2, q3⟩ := q
          have cS : Hid (∀ W : World, Calls Tryd.prog 50 #[.agg #[.int .i64 v1, .int .i64 v2, .int .i64 v3], .agg #[.int .i64 q1, .int .i64 q2, .int .i64 q3]] W fun e w' => e = .returned (.bool (sameD (v1, v2, v3) (q1, q2, q3))) ∧ Below W.heap.size W w') := hide (fun W => sameWay_any v1 v2 v3 q1 q2 q3 W)
          generalize sameD (v1, v2, v3) (q1, q2, q3) = sm at *
          simp only at cA
          have Z := below1 wr (.cells #[.int .i64 s1, .int .i64 s2, .int .i64 s3, .int .i64 s4] 61)
          have HM2 := hide ((unhide HM).kept Z)
          have HV2 := hide ((unhide HV1).kept (vltD (unhide HV1)) Z)
          have N2 := starAt_new wr (s1, s2, s3, s4) 61
          clear Z HM HV1
          go_wp2_with fail
          clear c0 c1 c2 c3
          generalize wr.alloc (.cells #[.int .i64 s1, .int .i64 s2, .int .i64 s3, .int .i64 s4] 61) = W2 at HM2 HV2 N2 ⊢
          have HN2 := hide N2
          obtain ⟨c0, c1, c2, c3⟩ := N2
          simp only [Nat.zero_add] at c0 c1 c2 c3
          obtain ⟨d0, d1, d2⟩ := unhide HV2
          obtain ⟨e0, e1, e2, e3⟩ := (unhide HM2).tur
          have r0 := cell_regrown c0
          have r1 := cell_regrown c1
          have r2 := cell_regrown c2
          have r3 := cell_regrown c3
          have x0 := cell_regrown d0
          have x1 := cell_regrown d1
          have x2 := cell_regrown d2
          have y0 := cell_regrown e0
          have y1 := cell_regrown e1
          have y2 := cell_regrown e2
          have y3 := cell_regrown e3
          have hsl := World.block_lt_of_cell? _ _ c0
          clear c0 c1 c2 c3 d0 d1 d2 e0 e1 e2 e3
          generalize wr.heap.size = sb2 at *
          refine wp_region_quiet_below (by kernel_rfl) (by kernel_rfl) ?_
          repeat (go_big_quiet_step (first | (with_reducible exact Calls.regrown_of (unhide cA _)) | (with_reducible exact Calls.regrown_of (unhide cS _))))
          refine wpQuiet_nil ?_
          intro _ hw'
          obtain ⟨⟨dq, osq⟩, hw''⟩ := hw'
          subst hw''
          have hx := below_regrown W2 dq osq
          have HM3 := hide ((unhide HM2).kept hx)
          have HV3 := hide ((unhide HV2).kept (vltD (unhide HV2)) hx)
          have N3 := (unhide HN2).kept hsl hx
          generalize grow (redrawn W2 dq) osq = W3 at hx HM3 HV3 N3 ⊢
          clear hx cA cS r0 r1 r2 r3 x0 x1 x2 y0 y1 y2 y3 HM2 HV2 HN2
          cases sm
          · rw [if_neg (by simp)] at HID'
            have HM4 : Hid (MSt w W3 g m a b c d (rowM S (fun v => idTo L a b c d v n) i (idTo L a b c d (v1, v2, v3) (k + 1)))) := hide (by rw [unhide HID']; exact unhide HM3)
            go_wp2_with fail
            go_roundw
            case rel => exact ⟨k + 1, by omega, by go_num, HM4, HV3⟩
            case measure => simp [intOf]; omega
          · rw [if_pos rfl] at HID'
            obtain ⟨c0, c1, c2, c3⟩ := N3
            simp only [Nat.zero_add] at c0 c1 c2 c3
            have f0 := (unhide HM3).row.cell (j := i) (by omega)
            have f1 := (unhide HM3).row.free i
            have HM4 : Hid (MSt w (W3.setCell ⟨g, i, none⟩ (.int .i64 s1)) g m a b c d (rowM S (fun v => idTo L a b c d v n) i (idTo L a b c d (v1, v2, v3) (k + 1)))) := hide (((unhide HM3).set i (.int .i64 s1)).congr (fun j hj => by
              rw [unhide HID']
              unfold rowM
              by_cases h : j = i
              · rw [if_pos h, if_neg (by omega), if_pos h]
              · rw [if_neg h, if_neg h, if_neg h]))
            have HV4 : Hid (VecAt (W3.setCell ⟨g, i, none⟩ (.int .i64 s1)) vb v1 v2 v3) := hide (by
              have e := heap_setCell_other W3 ⟨g, i, none⟩ vb (.int .i64 s1) (by show vb ≠ g; omega)
              obtain ⟨h0, h1, h2⟩ := unhide HV3
              exact ⟨(World.cell?_of_block (a := ⟨vb, _, none⟩) e).trans h0, (World.cell?_of_block (a := ⟨vb, _, none⟩) e).trans h1, (World.cell?_of_block (a := ⟨vb, _, none⟩) e).trans h2⟩)
            clear HM3 HV3
            go_wp2_with fail
            go_roundw
            case rel => exact ⟨k + 1, by omega, by go_num, HM4, HV4⟩
            case measure => simp [intOf]; omega
        · have hkn' : k = n := by omega
          have HM2 : Hid (MSt w wr g m a b c d (rowM S (fun v => idTo L a b c d v n) (i + 1) 0)) := hide ((unhide HM).congr (fun j hj => by
            unfold rowM
            by_cases h : j < i
            · rw [if_pos h, if_pos (by omega)]
            · rw [if_neg h]
              by_cases h2 : j = i
              · rw [if_pos h2, if_pos (by omega), h2, unhide HV, hkn']
              · rw [if_neg h2, if_neg (by omega)]
                split <;> rfl))
          clear HM
          go_wp2_with fail
          go_roundw
          case rel => exact ⟨i + 1, by omega, by go_num, HM2⟩
          case measure => simp [intOf]; omega
    · have him' : i = m := by omega
      subst him'
      have HP : Hid (PRow wr 2 1 w.heap.size wr.heap.size R.length (.slice (some ⟨g, 0, none⟩) i i) (fun j => .int .i64 (R.getD j 0))) := hide (by
        have hl : R.length = i := by rw [unhide HR, List.length_map]; exact unhide HML
        rw [hl]
        refine .inr ⟨g, i, rfl, Nat.le_of_lt (unhide HM).lo, (unhide HM).row.lt, (unhide HM).row.congr (fun j hj => ?_)⟩
        have hj' : j < S.length := by rw [unhide HML]; omega
        unfold rowM
        rw [if_pos (by omega), unhide HR, List.getD_eq_getElem?_getD, List.getElem?_map, List.getElem?_eq_getElem hj']
        unfold vA
        rw [List.getD_eq_getElem?_getD, List.getElem?_eq_getElem hj']
        rfl)
      go_wp2_with fail
      go_ret
      exact ⟨⟨_, rfl, unhide HP⟩, (unhide HM).bel⟩
end Go.Proofs.YtdkfbfiofniblaaDoor
