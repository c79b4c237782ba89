/- What the laws on frames draw: a frame. -/
import Derived.Test.YtmacbegchdjdnaaSrc3
import Derived.Test.YtmacbegchdjdnaaFrC
import Derived.Test.YtmacbegchdjdnaaRowV
import Derived.OwnWalk
import Derived.Laws.OwnMore
import Derived.Deep.RegionHeld
import Derived.WalkMore
namespace Go.Proofs.Ytmacbegchdjdnaa
open Go.RowKit Go.Sort
set_option linter.unusedVariables false
set_option linter.unusedSimpArgs false

/-- block g is a row of n bytes -/
def BytesR (w : World) (g n : Nat) : Prop := ∃ f : Nat → Int, (∀ j, 0 ≤ f j ∧ f j ≤ 255) ∧ RowV w 5 g n (fun j => .int .u8 (f j))
theorem BytesR.lt {w : World} {g n : Nat} (h : BytesR w g n) : g < w.heap.size := by
  obtain ⟨f, _, h⟩ := h
  exact h.lt
theorem BytesR.same {w w' : World} {g n : Nat} (h : BytesR w g n) (e : w'.heap[g]? = w.heap[g]?) : BytesR w' g n := by
  obtain ⟨f, hf, h⟩ := h
  exact ⟨f, hf, h.same e⟩
theorem BytesR.set {w : World} {g n : Nat} (h : BytesR w g n) (i : Nat) (v : Int) (h0 : 0 ≤ v) (h1 : v ≤ 255) : BytesR (w.setCell ⟨g, i, none⟩ (.int .u8 v)) g n := by
  obtain ⟨f, hf, h⟩ := h
  refine ⟨fun j => if j = i then v else f j, fun j => ?_, (h.set i (.int .u8 v)).congr (fun j hj => ?_)⟩
  · show 0 ≤ (if j = i then v else f j) ∧ (if j = i then v else f j) ≤ 255
    split
    · exact ⟨h0, h1⟩
    · exact hf j
  · show (if j = i then Value.int .u8 v else .int .u8 (f j)) = .int .u8 (if j = i then v else f j)
    split <;> rfl
theorem BytesR.conv {w : World} {g n : Nat} (h : BytesR w g n) (cap : Nat) : ∃ s : ByteArray, s.size = n ∧ (convert 22 9 (.slice (some ⟨g, 0, none⟩) n cap)).run Try.prog w = .ok (.string s) w := by
  obtain ⟨f, hf, h⟩ := h
  refine ⟨strOfNums ((List.range n).map f), by show Array.size _ = n; simp [strOfNums], ?_⟩
  refine run_convert_bytes_arg (P := Try.prog) _ 22 5 Try.underlying22 Try.underlying5 g 0 n cap ((List.range n).map f) (by simp) ?_ 9 Try.underlying9
  intro i hi
  rw [Nat.zero_add, h.cell hi]
  congr 2
  rw [List.getD, List.getElem?_map, List.getElem?_range hi]
  rfl
/-- what lies in memory while a frame is drawn -/
structure FrSt (w wr : World) (b rb fb g N : Nat) (wd ht : Int) (px : ByteArray) : Prop where
  src : SrcAt b wr
  res : Blk wr rb [.int .i64 0, .int .i64 0, .string ⟨#[]⟩] 24
  fr : Blk wr fb [.int .i64 wd, .int .i64 ht, .string px] 24
  row : BytesR wr g N
  gr : w.grownBy wr (some b)
  lb : b < w.heap.size
  lr : w.heap.size ≤ rb
  lf : rb < fb
  lg : fb < g
theorem FrSt.call {w wr wy : World} {b rb fb g N : Nat} {wd ht : Int} {px : ByteArray} (h : FrSt w wr b rb fb g N wd ht px) (hS : SrcAt b wy) (hg : wr.grownBy wy (some b)) : FrSt w wy b rb fb g N wd ht px := by
  have := h.lb
  have := h.lr
  have := h.lf
  have := h.lg
  have ne : ∀ k, w.heap.size ≤ k → some k ≠ some b := fun k hk e => by have := Option.some.inj e; omega
  exact ⟨hS, (hg.block rb h.res.lt (ne _ (by omega))).trans h.res, (hg.block fb h.fr.lt (ne _ (by omega))).trans h.fr, h.row.same (hg.block g h.row.lt (ne _ (by omega))), grown_trans h.gr hg, h.lb, h.lr, h.lf, h.lg⟩
theorem FrSt.set {w wr : World} {b rb fb g N : Nat} {wd ht : Int} {px : ByteArray} (h : FrSt w wr b rb fb g N wd ht px) (i : Nat) (v : Int) (h0 : 0 ≤ v) (h1 : v ≤ 255) : FrSt w (wr.setCell ⟨g, i, none⟩ (.int .u8 v)) b rb fb g N wd ht px := by
  have := h.lb
  have := h.lr
  have := h.lf
  have := h.lg
  have hg : wr.grownBy (wr.setCell ⟨g, i, none⟩ (.int .u8 v)) (some g) := ⟨rfl, rfl, rfl, by simp [World.setCell], fun k _ hk => heap_setCell_other wr _ k _ (fun e => hk (by rw [e]))⟩
  refine ⟨h.src.kept hg (fun c e => by have := Option.some.inj e; omega), h.res.other _ _ (by show rb ≠ g; omega), h.fr.other _ _ (by show fb ≠ g; omega), h.row.set i v h0 h1, ⟨h.gr.os, h.gr.tape, h.gr.output, by simpa [World.setCell] using h.gr.size, fun k hk hne => ?_⟩, h.lb, h.lr, h.lf, h.lg⟩
  rw [heap_setCell_other wr _ k _ (by show k ≠ g; omega)]
  exact h.gr.block k hk hne
theorem FrSt.drewn {w wr : World} {b rb fb g N : Nat} {wd ht : Int} {px : ByteArray} (h : FrSt w wr b rb fb g N wd ht px) : FrSt w wr.drew b rb fb g N wd ht px :=
  ⟨h.src.kept (row := none) ⟨rfl, rfl, rfl, Nat.le_refl _, fun _ _ _ => rfl⟩ (fun _ e => by cases e), h.res, h.fr, h.row, ⟨h.gr.os, h.gr.tape, h.gr.output, h.gr.size, h.gr.block⟩, h.lb, h.lr, h.lf, h.lg⟩
theorem SrcAt.allocsF {b : Nat} {w : World} (h : SrcAt b w) (o : Obj) : SrcAt b (w.alloc o) := h.kept (World.grownBy_alloc w o none) (fun _ e => by cases e)
theorem Blk.grownC {w w' : World} {b c : Nat} {cs : List Value} {t : TypeId} (h : Blk w b cs t) (hg : w.grownBy w' (some c)) (hne : b ≠ c) : Blk w' b cs t := (hg.block b h.lt (fun e => hne (Option.some.inj e))).trans h
theorem info_u8 : (Try.prog.info? 5).map (fun i => (i.zero, i.size, i.bytes)) = some (some (.int .u8 0), 1, 1) := by kernel_rfl
theorem FrSt.frSet {w wr : World} {b rb fb g N : Nat} {wd ht : Int} {px : ByteArray} (h : FrSt w wr b rb fb g N wd ht px) (i : Nat) (v : Value) (wd' ht' : Int) (px' : ByteArray) (e : [.int .i64 wd, .int .i64 ht, .string px].set i v = [.int .i64 wd', .int .i64 ht', .string px']) : FrSt w (wr.setCell ⟨fb, i, none⟩ v) b rb fb g N wd' ht' px' := by
  have := h.lb
  have := h.lr
  have := h.lf
  have := h.lg
  have hg : wr.grownBy (wr.setCell ⟨fb, i, none⟩ v) (some fb) := ⟨rfl, rfl, rfl, by simp [World.setCell], fun k _ hk => heap_setCell_other wr _ k _ (fun e => hk (by rw [e]))⟩
  refine ⟨h.src.kept hg (fun c e => by have := Option.some.inj e; omega), h.res.other _ _ (by show rb ≠ fb; omega), by rw [← e]; exact h.fr.set i v, h.row.same (heap_setCell_other wr _ g _ (by show g ≠ fb; omega)), ⟨h.gr.os, h.gr.tape, h.gr.output, by simpa [World.setCell] using h.gr.size, fun k hk hne => ?_⟩, h.lb, h.lr, h.lf, h.lg⟩
  rw [heap_setCell_other wr _ k _ (by show k ≠ fb; omega)]
  exact h.gr.block k hk hne
theorem FrSt.px {w wr : World} {b rb fb g N : Nat} {wd ht : Int} {px : ByteArray} (h : FrSt w wr b rb fb g N wd ht px) (s : ByteArray) : FrSt w (wr.setCell ⟨fb, 2, none⟩ (.string s)) b rb fb g N wd ht s := h.frSet 2 _ _ _ _ rfl
theorem FrSt.wdSet {w wr : World} {b rb fb g N : Nat} {wd ht : Int} {px : ByteArray} (h : FrSt w wr b rb fb g N wd ht px) (z : Int) : FrSt w (wr.setCell ⟨fb, 0, none⟩ (.int .i64 z)) b rb fb g N z ht px := h.frSet 0 _ _ _ _ rfl
theorem FrSt.htSet {w wr : World} {b rb fb g N : Nat} {wd ht : Int} {px : ByteArray} (h : FrSt w wr b rb fb g N wd ht px) (z : Int) : FrSt w (wr.setCell ⟨fb, 1, none⟩ (.int .i64 z)) b rb fb g N wd z px := h.frSet 1 _ _ _ _ rfl
theorem FrSt.ends {w wr : World} {b rb fb g N : Nat} {wd ht : Int} {px : ByteArray} (h : FrSt w wr b rb fb g N wd ht px) (x y z : Value) : SrcAt b (((wr.setCell ⟨rb, 0, none⟩ x).setCell ⟨rb, 1, none⟩ y).setCell ⟨rb, 2, none⟩ z) ∧ w.grownBy (((wr.setCell ⟨rb, 0, none⟩ x).setCell ⟨rb, 1, none⟩ y).setCell ⟨rb, 2, none⟩ z) (some b) := by
  have := h.lb
  have := h.lr
  have one : ∀ (W : World) (i : Nat) (v : Value), W.grownBy (W.setCell ⟨rb, i, none⟩ v) (some rb) := fun W i v => ⟨rfl, rfl, rfl, by simp [World.setCell], fun k _ hk => heap_setCell_other W _ k _ (fun e => hk (by rw [e]))⟩
  have hg := grown_trans (grown_trans (one wr 0 x) (one _ 1 y)) (one _ 2 z)
  refine ⟨h.src.kept hg (fun c e => by have := Option.some.inj e; omega), ⟨h.gr.os, h.gr.tape, h.gr.output, Nat.le_trans h.gr.size hg.size, fun k hk hne => ?_⟩⟩
  rw [hg.block k (Nat.lt_of_lt_of_le hk h.gr.size) (fun e => by have := Option.some.inj e; omega)]
  exact h.gr.block k hk hne
theorem FrSt.alloc {w wr : World} {b rb fb g N : Nat} {wd ht : Int} {px : ByteArray} (h : FrSt w wr b rb fb g N wd ht px) (o : Obj) : FrSt w (wr.alloc o) b rb fb g N wd ht px :=
  h.call (h.src.allocsF o) (World.grownBy_alloc wr o (some b))
theorem wrap8 (k : Int) : 0 ≤ IntKind.u8.wrap k ∧ IntKind.u8.wrap k ≤ 255 := by
  unfold IntKind.wrap
  simp [IntKind.signed, IntKind.bits]
  omega
set_option maxHeartbeats 8000000 in
set_option maxRecDepth 100000 in
theorem l05Frame_any (b : Nat) (w : World) (hS : SrcAt b w) :
    Calls Try.prog 29 #[.pointer (some ⟨b, 0, none⟩)] w fun e w' => ∃ (wd ht : Int) (s : ByteArray), e = .returned (.agg #[.int .i64 wd, .int .i64 ht, .string s]) ∧ s.size ≤ 200 ∧ SrcAt b w' ∧ w.grownBy w' (some b) := by
  have hlt := hS.lt
  have HS := hide hS
  clear hS
  have R0 := blk_new w [.int .i64 0, .int .i64 0, .string ⟨#[]⟩] 24
  go_enter Try.func29, Try.ntmps29
  go_wp2_with fail
  refine (n_any b 6 _ ((unhide HS).allocsF _) (by omega)).mono ?_
  rintro e w1 ⟨k1, rfl, hk0, hk1, _, hS1, hg1⟩
  have hk1' := hk1 (by omega)
  have R1 := hide (R0.grownC hg1 (by omega))
  have HG1 := hide (grown_trans (World.grownBy_alloc w (.cells #[.int .i64 0, .int .i64 0, .string ⟨#[]⟩] 24) (some b)) hg1)
  have HS1 := hide hS1
  clear hS1 hg1 hk1 R0
  go_wp2_with fail
  refine (n_any b 5 _ (unhide HS1) (by omega)).mono ?_
  rintro e w2 ⟨k2, rfl, hk20, hk2, _, hS2, hg2⟩
  have hk2' := hk2 (by omega)
  have HS2 := hide (hS2.allocsF (.cells #[.int .i64 (5 + k1), .int .i64 (4 + k2), .string ⟨#[]⟩] 24))
  have R2 := hide (((unhide R1).grownC hg2 (by omega)).alloc (.cells #[.int .i64 (5 + k1), .int .i64 (4 + k2), .string ⟨#[]⟩] 24))
  have F2 := hide (blk_new w2 [.int .i64 (5 + k1), .int .i64 (4 + k2), .string ⟨#[]⟩] 24)
  have HG2 := hide (grown_trans (grown_trans (unhide HG1) hg2) (World.grownBy_alloc w2 (.cells #[.int .i64 (5 + k1), .int .i64 (4 + k2), .string ⟨#[]⟩] 24) (some b)))
  have hw2 : w.heap.size < w2.heap.size := Nat.lt_of_lt_of_le (unhide R1).lt hg2.size
  clear hS2 hg2 hk2 R1 HG1 HS1
  obtain ⟨wn, hwn⟩ : ∃ wn : Nat, 5 + k1 = (wn : Int) := ⟨(5 + k1).toNat, by omega⟩
  obtain ⟨hn, hhn⟩ : ∃ hn : Nat, 4 + k2 = (hn : Int) := ⟨(4 + k2).toNat, by omega⟩
  rw [hwn, hhn] at HS2 R2 F2 HG2
  rw [hwn]
  have hwb : wn ≤ 10 ∧ 5 ≤ wn := by omega
  have hhb : hn ≤ 8 ∧ 4 ≤ hn := by omega
  have hmul : (wn : Int) * (hn : Int) = ((wn * hn : Nat) : Int) := (Int.natCast_mul _ _).symm
  have hN : wn * hn ≤ 80 := by have := Nat.mul_le_mul hwb.1 hhb.1; omega
  have hN0 : 20 ≤ wn * hn := by have := Nat.mul_le_mul hwb.2 hhb.2; omega
  generalize hNe : wn * hn = N at hmul hN hN0
  obtain ⟨i0, hinf, hz0, hz1, hz2⟩ := info_parts info_u8
  have f0 := (unhide F2).cell 0 _ rfl
  have f1 := (unhide F2).cell 1 _ rfl
  go_wp2_with (at_make; refine wpList_make_full _ rfl _ _ 22 rfl (w2.heap.size + 1) 5 i0 (.int .u8 0) 1 Try.underlying22 hinf hz0 hz1 .i64 .i64 _ _ N (by first | rfl | simp [hmul]) (by first | rfl | simp [hmul]) (by first | rfl | simp [hmul]) (by first | rfl | simp [hmul]) (by rw [hz2]; omega) (by unfold maxLen; omega) (by simp) ?_; intro w0 hown0 hgrow0)
  have hzero : ∀ j, j < N * 1 → (madeCells (Value.int .u8 0).cells (N * 1)).toList[j]? = some (.int .u8 ((fun _ => 0 : Nat → Int) j)) := by
    intro j hj
    have e : (Value.int .u8 0).cells = #[.int .u8 0] := rfl
    rw [e, toList_madeCells_one]
    simp at hj
    simp [hj]
  have hB0 : Below (w2.alloc (.cells #[.int .i64 (wn : Int), .int .i64 (hn : Int), .string ⟨#[]⟩] 24)).heap.size (w2.alloc (.cells #[.int .i64 (wn : Int), .int .i64 (hn : Int), .string ⟨#[]⟩] 24)) w0 := ⟨hgrow0.os, hgrow0.tape, hgrow0.output, hgrow0.size, fun k hk => hgrow0.block k hk (by simp)⟩
  have hrow : BytesR w0 (w2.heap.size + 1) N := by
    refine ⟨fun _ => 0, fun j => ⟨by show (0 : Int) ≤ 0; omega, by show (0 : Int) ≤ 255; omega⟩, ?_⟩
    rcases hown0.2 with ⟨h', _⟩ | ⟨g, cap, cur, hv, _, hg, _, _, _, htake⟩
    · simp at h'
    · simp only [World.size_alloc, Value.slice.injEq, Option.some.injEq, Addr.mk.injEq, and_true, true_and] at hv
      obtain ⟨rfl, rfl⟩ := hv
      refine ⟨cur, hg, fun j hj => ?_⟩
      have e := hzero j (by omega)
      rw [← htake, List.getElem?_take, if_pos (by omega)] at e
      simpa using e
  have HST : Hid (FrSt w w0 b w.heap.size w2.heap.size (w2.heap.size + 1) N wn hn ⟨#[]⟩) := hide ⟨(unhide HS2).kept (row := none) ⟨hgrow0.os, hgrow0.tape, hgrow0.output, hgrow0.size, hgrow0.block⟩ (fun _ e => by cases e), (unhide R2).kept hB0, (unhide F2).kept hB0, hrow, grown_trans (unhide HG2) ⟨hgrow0.os, hgrow0.tape, hgrow0.output, hgrow0.size, fun k hk _ => hgrow0.block k hk (by simp)⟩, hlt, Nat.le_refl _, hw2, Nat.lt_succ_self _⟩
  clear hzero hown0 hgrow0 hB0 hrow HS2 R2 F2 HG2 f0 f1 hwn hhn
  generalize w2.heap.size + 1 = g at *
  generalize w2.heap.size = fb at *
  clear hk20 hk2' hk0 hk1' hmul
  go_loopw [5] (fun kk wr => ∃ i : Nat, i ≤ N ∧ kk = .int .i64 i ∧ Hid (FrSt w wr b w.heap.size fb g N wn hn ⟨#[]⟩)) (fun kk _ => N - (intOf kk).toNat)
  case atStart => exact ⟨0, by omega, rfl, HST⟩
  case round =>
    clear HST
    obtain ⟨i, hi, rfl, HST⟩ := hrel
    by_cases hiN : i < N
    · have hiN2 : (i : Int) < (N : Int) := by omega
      go_wp2_with fail
      refine (n_any b 3 _ (unhide HST).src (by omega)).mono ?_
      rintro e w3 ⟨k3, rfl, hk30, hk3, _, hS3, hg3⟩
      have hk3' := hk3 (by omega)
      have ST2 := (unhide HST).call hS3 hg3
      obtain ⟨fz, hfz, hrow⟩ := ST2.row
      have c0 := hrow.cell (j := i) hiN
      have g0 := hrow.free i
      have HST3 := hide (ST2.set i k3 hk30 (by omega))
      clear hS3 hg3 hk3 HST hrow ST2
      go_wp2_with fail
      go_roundw
      case rel => exact ⟨i + 1, by omega, by go_num, HST3⟩
      case measure => simp [intOf] <;> omega
    · have hiN' : i = N := by omega
      go_wp2_with fail
      refine (n_any b 6 _ (unhide HST).src (by omega)).mono ?_
      rintro e w3 ⟨k3, rfl, hk30, hk3, _, hS3, hg3⟩
      have hk3' := hk3 (by omega)
      have HST2 := hide ((unhide HST).call hS3 hg3)
      clear hS3 hg3 hk3 HST
      obtain ⟨kn, rfl⟩ := Int.eq_ofNat_of_zero_le hk30
      go_wp2_with fail
      go_loopw [6] (fun kk wr => ∃ q : Nat, q ≤ 5 ∧ kk = .int .i64 q ∧ Hid (FrSt w wr b w.heap.size fb g N wn hn ⟨#[]⟩)) (fun kk _ => (intOf kk).toNat)
      case atStart => exact ⟨kn, by omega, rfl, HST2⟩
      case round =>
        clear HST2
        obtain ⟨q, hq, rfl, HST⟩ := hrel
        by_cases hq0 : 0 < q
        · have hq02 : (0 : Int) < (q : Int) := by omega
          go_wp2_with fail
          refine (n_any b (N : Int) _ (unhide HST).src (by omega)).mono ?_
          rintro e w4 ⟨k4, rfl, hk40, hk4, _, hS4, hg4⟩
          have hk4' := hk4 (by omega)
          have HST4 := hide ((unhide HST).call hS4 hg4)
          clear hS4 hg4 hk4 HST
          obtain ⟨i4, rfl⟩ := Int.eq_ofNat_of_zero_le hk40
          have hi4 : i4 < N := by omega
          go_wp2_with fail
          refine (n_any b 150 _ (unhide HST4).src (by omega)).mono ?_
          rintro e w5 ⟨k5, rfl, hk50, hk5, _, hS5, hg5⟩
          have hk5' := hk5 (by omega)
          have ST5 := (unhide HST4).call hS5 hg5
          obtain ⟨fz5, hfz5, hrow5⟩ := ST5.row
          have c0 := hrow5.cell (j := i4) hi4
          have g0 := hrow5.free i4
          have HST5 := hide (ST5.set i4 (50 + k5) (by omega) (by omega))
          clear hS5 hg5 hk5 HST4 hrow5 ST5
          go_wp2_with fail
          generalize w5.setCell ⟨g, i4, none⟩ (.int .u8 (50 + k5)) = W5 at HST5 ⊢
          clear c0 g0
          refine (one_any b 2 _ (unhide HST5).src (by omega)).mono ?_
          rintro e w6 ⟨y6, rfl, hS6, hg6⟩
          have HST6 := hide ((unhide HST5).call hS6 hg6)
          clear hS6 hg6 HST5
          cases y6
          · go_wp2_with fail
            refine (one_any b 3 _ (unhide HST6).src (by omega)).mono ?_
            rintro e w8 ⟨y8, rfl, hS8, hg8⟩
            have HST8 := hide ((unhide HST6).call hS8 hg8)
            clear hS8 hg8 HST6
            have f0 := (unhide HST8).fr.cell 0 _ rfl
            cases y8
            · clear f0
              go_wp2_with fail
              go_roundw
              case rel => exact ⟨q - 1, by omega, by go_num, HST8⟩
              case measure => simp [intOf] <;> omega
            by_cases hiw : i4 < wn
            · have hiw2 : ¬ (wn : Int) ≤ (i4 : Int) := by omega
              go_wp2_with fail
              go_roundw
              case rel => exact ⟨q - 1, by omega, by go_num, HST8⟩
              case measure => simp [intOf] <;> omega
            have hiw2 : (wn : Int) ≤ (i4 : Int) := by omega
            obtain ⟨d4, hd4⟩ : ∃ d4 : Nat, (i4 : Int) - (wn : Int) = (d4 : Int) := ⟨i4 - wn, by omega⟩
            have hd4N : d4 < N := by omega
            have hd4N2 : (d4 : Int) < (N : Int) := by omega
            have hwr : IntKind.i64.wrap (d4 : Int) = (d4 : Int) := by unfold IntKind.wrap; simp [IntKind.signed, IntKind.bits]; omega
            go_wp2_with fail
            refine wp_region_held_drew (S := (fun w' => w'.cell? ⟨fb, 0, none⟩ = some (.int .i64 (wn : Int)))) (by kernel_rfl) ?_ (fun hHeld => ?_)
            · exact f0
            refine wpAnyH_take (i := 0) (v := ?_) rfl (by kernel_rfl) (by kernel_rfl) (by kernel_rfl) (fun _ _ _ h => h) (Or.inl ⟨by rfl, ?_⟩) (by assumption) ?_
            rotate_left
            · intro W0 hSw; (try dsimp only at hSw); go_simp <;> with_reducible rfl
            try simp only [Act.put, List.setIfInBounds_toArray, List.set_cons_zero, List.set_cons_succ]
            refine wpAnyH_take (i := 1) (v := ?_) rfl (by kernel_rfl) (by kernel_rfl) (by kernel_rfl) (fun _ _ _ h => h) (Or.inl ⟨by rfl, ?_⟩) (by assumption) ?_
            rotate_left
            · intro W0 hSw; (try dsimp only at hSw); go_simp <;> with_reducible rfl
            try simp only [Act.put, List.setIfInBounds_toArray, List.set_cons_zero, List.set_cons_succ]
            refine wpAnyH_take (i := 2) (v := ?_) rfl (by kernel_rfl) (by kernel_rfl) (by kernel_rfl) (fun _ _ _ h => h) (Or.inl ⟨by rfl, ?_⟩) (by assumption) ?_
            rotate_left
            · intro W0 hSw; (try dsimp only at hSw); go_simp <;> with_reducible rfl
            try simp only [Act.put, List.setIfInBounds_toArray, List.set_cons_zero, List.set_cons_succ]
            refine wpAnyH_take (i := 3) (v := ?_) rfl (by kernel_rfl) (by kernel_rfl) (by kernel_rfl) (fun _ _ _ h => h) (Or.inl ⟨by rfl, ?_⟩) (by assumption) ?_
            rotate_left
            · intro W0 hSw; (try dsimp only at hSw); go_simp <;> with_reducible rfl
            try simp only [Act.put, List.setIfInBounds_toArray, List.set_cons_zero, List.set_cons_succ]
            refine wpAnyH_take (i := 4) (v := ?_) rfl (by kernel_rfl) (by kernel_rfl) (by kernel_rfl) (fun _ _ _ h => h) (Or.inl ⟨by rfl, ?_⟩) (by assumption) ?_
            rotate_left
            · intro W0 hSw; (try dsimp only at hSw); go_simp <;> with_reducible rfl
            try simp only [Act.put, List.setIfInBounds_toArray, List.set_cons_zero, List.set_cons_succ]
            refine wpAnyH_take (i := 5) (v := ?_) rfl (by kernel_rfl) (by kernel_rfl) (by kernel_rfl) (fun _ _ _ h => h) (Or.inl ⟨by rfl, ?_⟩) (by assumption) ?_
            rotate_left
            · intro W0 hSw; (try dsimp only at hSw); go_simp <;> with_reducible rfl
            try simp only [Act.put, List.setIfInBounds_toArray, List.set_cons_zero, List.set_cons_succ]
            refine wpAnyH_ready (rs := [6]) (by kernel_rfl) (by simp) ?_
            refine AllReadyH.cons rfl (fun K hK => ?_) AllReadyH.nil
            go_simp
            refine (n_any b 80 _ (unhide HST8).drewn.src (by omega)).mono ?_
            rintro e w9 ⟨k9, rfl, hk90, hk9, _, hS9, hg9⟩
            have hk9' := hk9 (by omega)
            have ST9 := (unhide HST8).drewn.call hS9 hg9
            have f9 := ST9.fr.cell 0 _ rfl
            refine hK.out _ _ ?_ (fun hHeld2 => ?_)
            · exact f9
            clear hK K
            refine wpAnyH_take (i := 7) (v := ?_) rfl (by kernel_rfl) (by kernel_rfl) (by kernel_rfl) (fun _ _ _ h => h) (Or.inl ⟨by rfl, ?_⟩) (by assumption) ?_
            rotate_left
            · intro W0 hSw; (try dsimp only at hSw); go_simp <;> with_reducible rfl
            try simp only [Act.put, List.setIfInBounds_toArray, List.set_cons_zero, List.set_cons_succ]
            refine wpAnyH_take (i := 8) (v := ?_) rfl (by kernel_rfl) (by kernel_rfl) (by kernel_rfl) (fun _ _ _ h => h) (Or.inl ⟨by rfl, ?_⟩) (by assumption) ?_
            rotate_left
            · intro W0 hSw; (try dsimp only at hSw); go_simp <;> with_reducible rfl
            try simp only [Act.put, List.setIfInBounds_toArray, List.set_cons_zero, List.set_cons_succ]
            refine wpAnyH_take (i := 9) (v := ?_) rfl (by kernel_rfl) (by kernel_rfl) (by kernel_rfl) (fun _ _ _ h => h) (Or.inl ⟨by rfl, ?_⟩) (by assumption) ?_
            rotate_left
            · intro W0 hSw; (try dsimp only at hSw); go_simp <;> with_reducible rfl
            try simp only [Act.put, List.setIfInBounds_toArray, List.set_cons_zero, List.set_cons_succ]
            refine wpAnyH_ready (rs := [10]) (by kernel_rfl) (by simp) ?_
            refine AllReadyH.cons rfl (fun K hK => ?_) AllReadyH.nil
            obtain ⟨fz9, hfz9, hrow9⟩ := ST9.row
            have c9 := hrow9.cell (j := d4) hd4N
            have g9 := hrow9.free d4
            have ST10 := ST9.set d4 (IntKind.u8.wrap (IntKind.i64.wrap (20 + k9))) (wrap8 _).1 (wrap8 _).2
            have f10 := ST10.fr.cell 0 _ rfl
            have HST10 := hide ST10
            go_simp
            refine hK.out _ _ ?_ (fun hHeld3 => ?_)
            · exact f10
            clear hK K
            refine wpAnyH_done (by kernel_rfl) ?_ _
            clear hS9 hg9 hk9 ST9 f9 hrow9 c9 g9 ST10 f10 hHeld3 HST8 f0
            generalize w9.setCell ⟨g, d4, none⟩ (.int .u8 (IntKind.u8.wrap (IntKind.i64.wrap (20 + k9)))) = W10 at HST10 ⊢
            go_wp2_with fail
            go_roundw
            case rel => exact ⟨q - 1, by omega, by go_num, HST10⟩
            case measure => simp [intOf] <;> omega
          by_cases hi1 : N ≤ i4 + 1
          · have hi12 : ¬ (i4 : Int) + 1 < (N : Int) := by omega
            go_wp2_with fail
            clear hi12
            refine (one_any b 3 _ (unhide HST6).src (by omega)).mono ?_
            rintro e w8 ⟨y8, rfl, hS8, hg8⟩
            have HST8 := hide ((unhide HST6).call hS8 hg8)
            clear hS8 hg8 HST6
            have f0 := (unhide HST8).fr.cell 0 _ rfl
            cases y8
            · clear f0
              go_wp2_with fail
              go_roundw
              case rel => exact ⟨q - 1, by omega, by go_num, HST8⟩
              case measure => simp [intOf] <;> omega
            by_cases hiw : i4 < wn
            · exfalso; omega
            have hiw2 : (wn : Int) ≤ (i4 : Int) := by omega
            obtain ⟨d4, hd4⟩ : ∃ d4 : Nat, (i4 : Int) - (wn : Int) = (d4 : Int) := ⟨i4 - wn, by omega⟩
            have hd4N : d4 < N := by omega
            have hd4N2 : (d4 : Int) < (N : Int) := by omega
            have hwr : IntKind.i64.wrap (d4 : Int) = (d4 : Int) := by unfold IntKind.wrap; simp [IntKind.signed, IntKind.bits]; omega
            go_wp2_with fail
            refine wp_region_held_drew (S := (fun w' => w'.cell? ⟨fb, 0, none⟩ = some (.int .i64 (wn : Int)))) (by kernel_rfl) ?_ (fun hHeld => ?_)
            · exact f0
            refine wpAnyH_take (i := 0) (v := ?_) rfl (by kernel_rfl) (by kernel_rfl) (by kernel_rfl) (fun _ _ _ h => h) (Or.inl ⟨by rfl, ?_⟩) (by assumption) ?_
            rotate_left
            · intro W0 hSw; (try dsimp only at hSw); go_simp <;> with_reducible rfl
            try simp only [Act.put, List.setIfInBounds_toArray, List.set_cons_zero, List.set_cons_succ]
            refine wpAnyH_take (i := 1) (v := ?_) rfl (by kernel_rfl) (by kernel_rfl) (by kernel_rfl) (fun _ _ _ h => h) (Or.inl ⟨by rfl, ?_⟩) (by assumption) ?_
            rotate_left
            · intro W0 hSw; (try dsimp only at hSw); go_simp <;> with_reducible rfl
            try simp only [Act.put, List.setIfInBounds_toArray, List.set_cons_zero, List.set_cons_succ]
            refine wpAnyH_take (i := 2) (v := ?_) rfl (by kernel_rfl) (by kernel_rfl) (by kernel_rfl) (fun _ _ _ h => h) (Or.inl ⟨by rfl, ?_⟩) (by assumption) ?_
            rotate_left
            · intro W0 hSw; (try dsimp only at hSw); go_simp <;> with_reducible rfl
            try simp only [Act.put, List.setIfInBounds_toArray, List.set_cons_zero, List.set_cons_succ]
            refine wpAnyH_take (i := 3) (v := ?_) rfl (by kernel_rfl) (by kernel_rfl) (by kernel_rfl) (fun _ _ _ h => h) (Or.inl ⟨by rfl, ?_⟩) (by assumption) ?_
            rotate_left
            · intro W0 hSw; (try dsimp only at hSw); go_simp <;> with_reducible rfl
            try simp only [Act.put, List.setIfInBounds_toArray, List.set_cons_zero, List.set_cons_succ]
            refine wpAnyH_take (i := 4) (v := ?_) rfl (by kernel_rfl) (by kernel_rfl) (by kernel_rfl) (fun _ _ _ h => h) (Or.inl ⟨by rfl, ?_⟩) (by assumption) ?_
            rotate_left
            · intro W0 hSw; (try dsimp only at hSw); go_simp <;> with_reducible rfl
            try simp only [Act.put, List.setIfInBounds_toArray, List.set_cons_zero, List.set_cons_succ]
            refine wpAnyH_take (i := 5) (v := ?_) rfl (by kernel_rfl) (by kernel_rfl) (by kernel_rfl) (fun _ _ _ h => h) (Or.inl ⟨by rfl, ?_⟩) (by assumption) ?_
            rotate_left
            · intro W0 hSw; (try dsimp only at hSw); go_simp <;> with_reducible rfl
            try simp only [Act.put, List.setIfInBounds_toArray, List.set_cons_zero, List.set_cons_succ]
            refine wpAnyH_ready (rs := [6]) (by kernel_rfl) (by simp) ?_
            refine AllReadyH.cons rfl (fun K hK => ?_) AllReadyH.nil
            go_simp
            refine (n_any b 80 _ (unhide HST8).drewn.src (by omega)).mono ?_
            rintro e w9 ⟨k9, rfl, hk90, hk9, _, hS9, hg9⟩
            have hk9' := hk9 (by omega)
            have ST9 := (unhide HST8).drewn.call hS9 hg9
            have f9 := ST9.fr.cell 0 _ rfl
            refine hK.out _ _ ?_ (fun hHeld2 => ?_)
            · exact f9
            clear hK K
            refine wpAnyH_take (i := 7) (v := ?_) rfl (by kernel_rfl) (by kernel_rfl) (by kernel_rfl) (fun _ _ _ h => h) (Or.inl ⟨by rfl, ?_⟩) (by assumption) ?_
            rotate_left
            · intro W0 hSw; (try dsimp only at hSw); go_simp <;> with_reducible rfl
            try simp only [Act.put, List.setIfInBounds_toArray, List.set_cons_zero, List.set_cons_succ]
            refine wpAnyH_take (i := 8) (v := ?_) rfl (by kernel_rfl) (by kernel_rfl) (by kernel_rfl) (fun _ _ _ h => h) (Or.inl ⟨by rfl, ?_⟩) (by assumption) ?_
            rotate_left
            · intro W0 hSw; (try dsimp only at hSw); go_simp <;> with_reducible rfl
            try simp only [Act.put, List.setIfInBounds_toArray, List.set_cons_zero, List.set_cons_succ]
            refine wpAnyH_take (i := 9) (v := ?_) rfl (by kernel_rfl) (by kernel_rfl) (by kernel_rfl) (fun _ _ _ h => h) (Or.inl ⟨by rfl, ?_⟩) (by assumption) ?_
            rotate_left
            · intro W0 hSw; (try dsimp only at hSw); go_simp <;> with_reducible rfl
            try simp only [Act.put, List.setIfInBounds_toArray, List.set_cons_zero, List.set_cons_succ]
            refine wpAnyH_ready (rs := [10]) (by kernel_rfl) (by simp) ?_
            refine AllReadyH.cons rfl (fun K hK => ?_) AllReadyH.nil
            obtain ⟨fz9, hfz9, hrow9⟩ := ST9.row
            have c9 := hrow9.cell (j := d4) hd4N
            have g9 := hrow9.free d4
            have ST10 := ST9.set d4 (IntKind.u8.wrap (IntKind.i64.wrap (20 + k9))) (wrap8 _).1 (wrap8 _).2
            have f10 := ST10.fr.cell 0 _ rfl
            have HST10 := hide ST10
            go_simp
            refine hK.out _ _ ?_ (fun hHeld3 => ?_)
            · exact f10
            clear hK K
            refine wpAnyH_done (by kernel_rfl) ?_ _
            clear hS9 hg9 hk9 ST9 f9 hrow9 c9 g9 ST10 f10 hHeld3 HST8 f0
            generalize w9.setCell ⟨g, d4, none⟩ (.int .u8 (IntKind.u8.wrap (IntKind.i64.wrap (20 + k9)))) = W10 at HST10 ⊢
            go_wp2_with fail
            go_roundw
            case rel => exact ⟨q - 1, by omega, by go_num, HST10⟩
            case measure => simp [intOf] <;> omega
          have hi12 : (i4 : Int) + 1 < (N : Int) := by omega
          go_wp2_with fail
          refine (n_any b 80 _ (unhide HST6).src (by omega)).mono ?_
          rintro e w7 ⟨k7, rfl, hk70, hk7, _, hS7, hg7⟩
          have hk7' := hk7 (by omega)
          have ST7 := (unhide HST6).call hS7 hg7
          obtain ⟨fz7, hfz7, hrow7⟩ := ST7.row
          have c7 := hrow7.cell (j := i4 + 1) (by omega)
          have g7 := hrow7.free (i4 + 1)
          have HST7 := hide (ST7.set (i4 + 1) (20 + k7) (by omega) (by omega))
          clear hS7 hg7 hk7 HST6 hrow7 ST7
          go_wp2_with fail
          generalize w7.setCell ⟨g, i4 + 1, none⟩ (.int .u8 (20 + k7)) = W7 at HST7 ⊢
          clear c7 g7
          refine (one_any b 3 _ (unhide HST7).src (by omega)).mono ?_
          rintro e w8 ⟨y8, rfl, hS8, hg8⟩
          have HST8 := hide ((unhide HST7).call hS8 hg8)
          clear hS8 hg8 HST7
          have f0 := (unhide HST8).fr.cell 0 _ rfl
          cases y8
          · clear f0
            go_wp2_with fail
            go_roundw
            case rel => exact ⟨q - 1, by omega, by go_num, HST8⟩
            case measure => simp [intOf] <;> omega
          by_cases hiw : i4 < wn
          · have hiw2 : ¬ (wn : Int) ≤ (i4 : Int) := by omega
            go_wp2_with fail
            go_roundw
            case rel => exact ⟨q - 1, by omega, by go_num, HST8⟩
            case measure => simp [intOf] <;> omega
          have hiw2 : (wn : Int) ≤ (i4 : Int) := by omega
          obtain ⟨d4, hd4⟩ : ∃ d4 : Nat, (i4 : Int) - (wn : Int) = (d4 : Int) := ⟨i4 - wn, by omega⟩
          have hd4N : d4 < N := by omega
          have hd4N2 : (d4 : Int) < (N : Int) := by omega
          have hwr : IntKind.i64.wrap (d4 : Int) = (d4 : Int) := by unfold IntKind.wrap; simp [IntKind.signed, IntKind.bits]; omega
          go_wp2_with fail
          refine wp_region_held_drew (S := (fun w' => w'.cell? ⟨fb, 0, none⟩ = some (.int .i64 (wn : Int)))) (by kernel_rfl) ?_ (fun hHeld => ?_)
          · exact f0
          refine wpAnyH_take (i := 0) (v := ?_) rfl (by kernel_rfl) (by kernel_rfl) (by kernel_rfl) (fun _ _ _ h => h) (Or.inl ⟨by rfl, ?_⟩) (by assumption) ?_
          rotate_left
          · intro W0 hSw; (try dsimp only at hSw); go_simp <;> with_reducible rfl
          try simp only [Act.put, List.setIfInBounds_toArray, List.set_cons_zero, List.set_cons_succ]
          refine wpAnyH_take (i := 1) (v := ?_) rfl (by kernel_rfl) (by kernel_rfl) (by kernel_rfl) (fun _ _ _ h => h) (Or.inl ⟨by rfl, ?_⟩) (by assumption) ?_
          rotate_left
          · intro W0 hSw; (try dsimp only at hSw); go_simp <;> with_reducible rfl
          try simp only [Act.put, List.setIfInBounds_toArray, List.set_cons_zero, List.set_cons_succ]
          refine wpAnyH_take (i := 2) (v := ?_) rfl (by kernel_rfl) (by kernel_rfl) (by kernel_rfl) (fun _ _ _ h => h) (Or.inl ⟨by rfl, ?_⟩) (by assumption) ?_
          rotate_left
          · intro W0 hSw; (try dsimp only at hSw); go_simp <;> with_reducible rfl
          try simp only [Act.put, List.setIfInBounds_toArray, List.set_cons_zero, List.set_cons_succ]
          refine wpAnyH_take (i := 3) (v := ?_) rfl (by kernel_rfl) (by kernel_rfl) (by kernel_rfl) (fun _ _ _ h => h) (Or.inl ⟨by rfl, ?_⟩) (by assumption) ?_
          rotate_left
          · intro W0 hSw; (try dsimp only at hSw); go_simp <;> with_reducible rfl
          try simp only [Act.put, List.setIfInBounds_toArray, List.set_cons_zero, List.set_cons_succ]
          refine wpAnyH_take (i := 4) (v := ?_) rfl (by kernel_rfl) (by kernel_rfl) (by kernel_rfl) (fun _ _ _ h => h) (Or.inl ⟨by rfl, ?_⟩) (by assumption) ?_
          rotate_left
          · intro W0 hSw; (try dsimp only at hSw); go_simp <;> with_reducible rfl
          try simp only [Act.put, List.setIfInBounds_toArray, List.set_cons_zero, List.set_cons_succ]
          refine wpAnyH_take (i := 5) (v := ?_) rfl (by kernel_rfl) (by kernel_rfl) (by kernel_rfl) (fun _ _ _ h => h) (Or.inl ⟨by rfl, ?_⟩) (by assumption) ?_
          rotate_left
          · intro W0 hSw; (try dsimp only at hSw); go_simp <;> with_reducible rfl
          try simp only [Act.put, List.setIfInBounds_toArray, List.set_cons_zero, List.set_cons_succ]
          refine wpAnyH_ready (rs := [6]) (by kernel_rfl) (by simp) ?_
          refine AllReadyH.cons rfl (fun K hK => ?_) AllReadyH.nil
          go_simp
          refine (n_any b 80 _ (unhide HST8).drewn.src (by omega)).mono ?_
          rintro e w9 ⟨k9, rfl, hk90, hk9, _, hS9, hg9⟩
          have hk9' := hk9 (by omega)
          have ST9 := (unhide HST8).drewn.call hS9 hg9
          have f9 := ST9.fr.cell 0 _ rfl
          refine hK.out _ _ ?_ (fun hHeld2 => ?_)
          · exact f9
          clear hK K
          refine wpAnyH_take (i := 7) (v := ?_) rfl (by kernel_rfl) (by kernel_rfl) (by kernel_rfl) (fun _ _ _ h => h) (Or.inl ⟨by rfl, ?_⟩) (by assumption) ?_
          rotate_left
          · intro W0 hSw; (try dsimp only at hSw); go_simp <;> with_reducible rfl
          try simp only [Act.put, List.setIfInBounds_toArray, List.set_cons_zero, List.set_cons_succ]
          refine wpAnyH_take (i := 8) (v := ?_) rfl (by kernel_rfl) (by kernel_rfl) (by kernel_rfl) (fun _ _ _ h => h) (Or.inl ⟨by rfl, ?_⟩) (by assumption) ?_
          rotate_left
          · intro W0 hSw; (try dsimp only at hSw); go_simp <;> with_reducible rfl
          try simp only [Act.put, List.setIfInBounds_toArray, List.set_cons_zero, List.set_cons_succ]
          refine wpAnyH_take (i := 9) (v := ?_) rfl (by kernel_rfl) (by kernel_rfl) (by kernel_rfl) (fun _ _ _ h => h) (Or.inl ⟨by rfl, ?_⟩) (by assumption) ?_
          rotate_left
          · intro W0 hSw; (try dsimp only at hSw); go_simp <;> with_reducible rfl
          try simp only [Act.put, List.setIfInBounds_toArray, List.set_cons_zero, List.set_cons_succ]
          refine wpAnyH_ready (rs := [10]) (by kernel_rfl) (by simp) ?_
          refine AllReadyH.cons rfl (fun K hK => ?_) AllReadyH.nil
          obtain ⟨fz9, hfz9, hrow9⟩ := ST9.row
          have c9 := hrow9.cell (j := d4) hd4N
          have g9 := hrow9.free d4
          have ST10 := ST9.set d4 (IntKind.u8.wrap (IntKind.i64.wrap (20 + k9))) (wrap8 _).1 (wrap8 _).2
          have f10 := ST10.fr.cell 0 _ rfl
          have HST10 := hide ST10
          go_simp
          refine hK.out _ _ ?_ (fun hHeld3 => ?_)
          · exact f10
          clear hK K
          refine wpAnyH_done (by kernel_rfl) ?_ _
          clear hS9 hg9 hk9 ST9 f9 hrow9 c9 g9 ST10 f10 hHeld3 HST8 f0
          generalize w9.setCell ⟨g, d4, none⟩ (.int .u8 (IntKind.u8.wrap (IntKind.i64.wrap (20 + k9)))) = W10 at HST10 ⊢
          go_wp2_with fail
          go_roundw
          case rel => exact ⟨q - 1, by omega, by go_num, HST10⟩
          case measure => simp [intOf] <;> omega
        · have hq0' : q = 0 := by omega
          subst hq0'
          obtain ⟨sx, hsx, hcv⟩ := (unhide HST).row.conv N
          have f0 := (unhide HST).fr.cell 0 _ rfl
          have f1 := (unhide HST).fr.cell 1 _ rfl
          have f2 := (unhide HST).fr.cell 2 _ rfl
          have e2 := (unhide HST).fr.free 2
          have HST2 := hide ((unhide HST).px sx)
          clear HST
          go_wp2_with fail
          clear f0 f1 f2 e2 hcv
          generalize wr.setCell ⟨fb, 2, none⟩ (.string sx) = W2 at HST2 ⊢
          refine (one_any b 12 _ (unhide HST2).src (by omega)).mono ?_
          rintro e w3 ⟨y3, rfl, hS3, hg3⟩
          have HST3 := hide ((unhide HST2).call hS3 hg3)
          clear hS3 hg3 HST2
          cases y3
          · have f0 := (unhide HST3).fr.cell 0 _ rfl
            have f1 := (unhide HST3).fr.cell 1 _ rfl
            have f2 := (unhide HST3).fr.cell 2 _ rfl
            have r0 := (unhide HST3).res.cell 0 _ rfl
            have r1 := (unhide HST3).res.cell 1 _ rfl
            have r2 := (unhide HST3).res.cell 2 _ rfl
            have x0 := (unhide HST3).res.free 0
            have x1 := (unhide HST3).res.free 1
            have x2 := (unhide HST3).res.free 2
            have hEnd := (unhide HST3).ends (.int .i64 (wn : Int)) (.int .i64 (hn : Int)) (.string sx)
            go_wp2_with fail
            exact bodyPost_ret (v := .agg #[.int .i64 (wn : Int), .int .i64 (hn : Int), .string sx]) (by simp [results, Try.results29, go_sem, r0, r1, r2]) rfl ⟨_, _, _, rfl, by omega, hEnd.1, hEnd.2⟩
          go_wp2_with fail
          refine (n_any b 3 _ (unhide HST3).src (by omega)).mono ?_
          rintro e w4 ⟨k4, rfl, hk40, hk4, _, hS4, hg4⟩
          have hk4' := hk4 (by omega)
          have HST4 := hide ((unhide HST3).call hS4 hg4)
          clear hS4 hg4 hk4 HST3
          have f0 := (unhide HST4).fr.cell 0 _ rfl
          have f1 := (unhide HST4).fr.cell 1 _ rfl
          have f2 := (unhide HST4).fr.cell 2 _ rfl
          have e0 := (unhide HST4).fr.free 0
          have e1 := (unhide HST4).fr.free 1
          have e2 := (unhide HST4).fr.free 2
          have hcase : k4 = 0 ∨ k4 = 1 ∨ k4 = 2 := by omega
          rcases hcase with rfl | rfl | rfl
          · go_wp2_with fail
            refine (n_any b 3 _ ((unhide HST4).src.allocsF _) (by omega)).mono ?_
            rintro e w5 ⟨k5, rfl, hk50, hk5, _, hS5, hg5⟩
            have hk5' := hk5 (by omega)
            obtain ⟨i5, rfl⟩ := Int.eq_ofNat_of_zero_le hk50
            have ST5 := ((unhide HST4).alloc (.cells #[.int .i64 0, .int .i64 16, .int .i64 17] 2)).call hS5 hg5
            have L5 : Blk w5 w4.heap.size [.int .i64 0, .int .i64 16, .int .i64 17] 2 := (blk_new w4 [.int .i64 0, .int .i64 16, .int .i64 17] 2).grownC hg5 (by have := (unhide HST4).src.lt; omega)
            obtain ⟨z5, hz5⟩ : ∃ z : Int, ([.int .i64 0, .int .i64 16, .int .i64 17] : List Value)[i5]? = some (.int .i64 z) := by
              have : i5 = 0 ∨ i5 = 1 ∨ i5 = 2 := by omega
              rcases this with rfl | rfl | rfl <;> exact ⟨_, rfl⟩
            have c5 := L5.cell i5 _ hz5
            have g0 := ST5.fr.cell 0 _ rfl
            have h0 := ST5.fr.free 0
            have ST6 := ST5.wdSet z5
            have hEnd := ST6.ends (.int .i64 z5) (.int .i64 (hn : Int)) (.string sx)
            have g1 := ST5.fr.cell 1 _ rfl
            have g2 := ST5.fr.cell 2 _ rfl
            have r0 := ST5.res.cell 0 _ rfl
            have r1 := ST5.res.cell 1 _ rfl
            have r2 := ST5.res.cell 2 _ rfl
            have x0 := ST5.res.free 0
            have x1 := ST5.res.free 1
            have x2 := ST5.res.free 2
            have hi53 : (i5 : Int) < 3 := by omega
            have hne : fb ≠ w.heap.size := by have := ST5.lf; omega
            clear hS5 hg5 hk5 ST5 ST6 L5 hz5 HST4 f0 f1 f2 e0 e1 e2
            go_wp2_with fail
            exact bodyPost_ret (v := .agg #[.int .i64 z5, .int .i64 (hn : Int), .string sx]) (by simp [results, Try.results29, go_sem, r0, r1, r2]) rfl ⟨_, _, _, rfl, by first | omega | (simp; omega), hEnd.1, hEnd.2⟩
          · have hcat : ¬ sx.size + 1 > 9223372036854775807 := by omega
            have htl : (sx ++ ⟨#[120]⟩ : ByteArray).size ≤ 200 := by simp; show sx.size + 1 ≤ 200; omega
            have hEnd := ((unhide HST4).px (sx ++ ⟨#[120]⟩)).ends (.int .i64 (wn : Int)) (.int .i64 (hn : Int)) (.string (sx ++ ⟨#[120]⟩))
            have r0 := (unhide HST4).res.cell 0 _ rfl
            have r1 := (unhide HST4).res.cell 1 _ rfl
            have r2 := (unhide HST4).res.cell 2 _ rfl
            have x0 := (unhide HST4).res.free 0
            have x1 := (unhide HST4).res.free 1
            have x2 := (unhide HST4).res.free 2
            have hne : fb ≠ w.heap.size := by have := (unhide HST4).lf; omega
            clear HST4
            go_wp2_with fail
            exact bodyPost_ret (v := .agg #[.int .i64 (wn : Int), .int .i64 (hn : Int), .string (sx ++ ⟨#[120]⟩)]) (by simp [results, Try.results29, go_sem, r0, r1, r2]) rfl ⟨_, _, _, rfl, htl, hEnd.1, hEnd.2⟩
          · have hEnd := (((unhide HST4).htSet (-(hn : Int))).wdSet (-(wn : Int))).ends (.int .i64 (-(wn : Int))) (.int .i64 (-(hn : Int))) (.string sx)
            have r0 := (unhide HST4).res.cell 0 _ rfl
            have r1 := (unhide HST4).res.cell 1 _ rfl
            have r2 := (unhide HST4).res.cell 2 _ rfl
            have x0 := (unhide HST4).res.free 0
            have x1 := (unhide HST4).res.free 1
            have x2 := (unhide HST4).res.free 2
            have hne : fb ≠ w.heap.size := by have := (unhide HST4).lf; omega
            clear HST4
            go_wp2_with fail
            exact bodyPost_ret (v := .agg #[.int .i64 (-(wn : Int)), .int .i64 (-(hn : Int)), .string sx]) (by simp [results, Try.results29, go_sem, r0, r1, r2]) rfl ⟨_, _, _, rfl, by first | omega | (simp; omega), hEnd.1, hEnd.2⟩
end Go.Proofs.Ytmacbegchdjdnaa
