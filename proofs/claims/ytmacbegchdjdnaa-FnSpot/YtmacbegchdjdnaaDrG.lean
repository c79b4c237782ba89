/- What the laws on frames draw: a blob. -/
import Derived.Test.YtmacbegchdjdnaaDrF
import Derived.Test.YtmacbegchdjdnaaBlC
import Derived.Test.YtmacbegchdjdnaaSpD
namespace Go.Proofs.Ytmacbegchdjdnaa
open Go.RowKit Go.Sort
set_option linter.unusedVariables false
set_option linter.unusedSimpArgs false

/-- what lies in memory while a blob is drawn -/
structure BbSt (w wr : World) (b rb : Nat) : Prop where
  src : SrcAt b wr
  res : Blk wr rb [.int .i64 0, .int .i64 0, .int .i64 0, .int .i64 0, .bool false] 40
  gr : w.grownBy wr (some b)
  lb : b < w.heap.size
  lr : w.heap.size ≤ rb
theorem BbSt.call {w wr wy : World} {b rb : Nat} (h : BbSt w wr b rb) (hS : SrcAt b wy) (hg : wr.grownBy wy (some b)) : BbSt w wy b rb :=
  ⟨hS, h.res.grownC hg (by have := h.lb; have := h.lr; omega), grown_trans h.gr hg, h.lb, h.lr⟩
theorem BbSt.below {w wr wy : World} {b rb : Nat} (h : BbSt w wr b rb) (hB : Below wr.heap.size wr wy) : BbSt w wy b rb :=
  h.call (h.src.kept (row := none) ⟨hB.os, hB.tape, hB.output, hB.size, fun k hk _ => hB.block k hk⟩ (fun _ e => by cases e)) ⟨hB.os, hB.tape, hB.output, hB.size, fun k hk _ => hB.block k hk⟩
theorem BbSt.drewn {w wr : World} {b rb : Nat} (h : BbSt w wr b rb) : BbSt w wr.drew b rb :=
  ⟨h.src.kept (row := none) ⟨rfl, rfl, rfl, Nat.le_refl _, fun _ _ _ => rfl⟩ (fun _ e => by cases e), h.res, ⟨h.gr.os, h.gr.tape, h.gr.output, h.gr.size, h.gr.block⟩, h.lb, h.lr⟩
theorem src_set {w W : World} {b rb : Nat} (h : SrcAt b W ∧ w.grownBy W (some b)) (hb : b < rb) (hr : w.heap.size ≤ rb) (i : Nat) (v : Value) : SrcAt b (W.setCell ⟨rb, i, none⟩ v) ∧ w.grownBy (W.setCell ⟨rb, i, none⟩ v) (some b) := by
  have one : W.grownBy (W.setCell ⟨rb, i, none⟩ v) (some rb) := ⟨rfl, rfl, rfl, by simp [World.setCell], fun k _ hk => heap_setCell_other W _ k _ (fun e => hk (by rw [e]))⟩
  refine ⟨h.1.kept one (fun c e => by have := Option.some.inj e; omega), ⟨h.2.os, h.2.tape, h.2.output, Nat.le_trans h.2.size one.size, fun k hk hne => ?_⟩⟩
  rw [one.block k (Nat.lt_of_lt_of_le hk h.2.size) (fun e => by have := Option.some.inj e; omega)]
  exact h.2.block k hk hne
theorem BbSt.ends {w wr : World} {b rb : Nat} (h : BbSt w wr b rb) (x y z u v : Value) : SrcAt b (((((wr.setCell ⟨rb, 0, none⟩ x).setCell ⟨rb, 1, none⟩ y).setCell ⟨rb, 2, none⟩ z).setCell ⟨rb, 3, none⟩ u).setCell ⟨rb, 4, none⟩ v) ∧ w.grownBy (((((wr.setCell ⟨rb, 0, none⟩ x).setCell ⟨rb, 1, none⟩ y).setCell ⟨rb, 2, none⟩ z).setCell ⟨rb, 3, none⟩ u).setCell ⟨rb, 4, none⟩ v) (some b) := by
  have hb : b < rb := by have := h.lb; have := h.lr; omega
  exact src_set (src_set (src_set (src_set (src_set ⟨h.src, h.gr⟩ hb h.lr 0 x) hb h.lr 1 y) hb h.lr 2 z) hb h.lr 3 u) hb h.lr 4 v
theorem BbSt.alloc {w wr : World} {b rb : Nat} (h : BbSt w wr b rb) (o : Obj) : BbSt w (wr.alloc o) b rb := h.below (below1 _ _)
/-- a cell of a literal list of numbers -/
theorem lit_cell {w : World} {b k : Nat} {cs : List Value} {t : TypeId} (h : Blk w b cs t) (hall : ∀ v ∈ cs, ∃ z : Int, v = .int .i64 z) (hk : k < cs.length) : ∃ z : Int, w.cell? ⟨b, k, none⟩ = some (.int .i64 z) := by
  obtain ⟨z, hz⟩ := hall cs[k] (List.getElem_mem hk)
  exact ⟨z, h.cell k _ (by rw [List.getElem?_eq_getElem hk, hz])⟩
set_option maxHeartbeats 8000000 in
set_option maxRecDepth 100000 in
theorem l05Blob_any (b : Nat) (wd ht : Int) (s : ByteArray) (w : World) (hs : s.size ≤ 200) (hS : SrcAt b w) :
    Calls Try.prog 38 #[.pointer (some ⟨b, 0, none⟩), .agg #[.int .i64 wd, .int .i64 ht, .string s]] w fun e w' => ∃ (ar su sx sy : Int) (ed : Bool), e = .returned (.agg #[.int .i64 ar, .int .i64 su, .int .i64 sx, .int .i64 sy, .bool ed]) ∧ SrcAt b w' ∧ w.grownBy w' (some b) := by
  have hlt := hS.lt
  have hm8 : 1000 ≤ maxLen := by decide +kernel
  have cB := hide (fun W => specBlobsOf_any wd ht s 10 W (by omega))
  have hml := resB_len' wd ht s 10
  generalize codeB wd ht s 10 = code at *
  generalize resB wd ht s 10 = S at *
  have B0 := below2 w (.cells #[.int .i64 wd, .int .i64 ht, .string s] 24) (.cells #[.int .i64 0, .int .i64 0, .int .i64 0, .int .i64 0, .bool false] 40)
  have F0 := (blk_new w [.int .i64 wd, .int .i64 ht, .string s] 24).alloc (.cells #[.int .i64 0, .int .i64 0, .int .i64 0, .int .i64 0, .bool false] 40)
  have R0 := blk_new (w.alloc (.cells #[.int .i64 wd, .int .i64 ht, .string s] 24)) [.int .i64 0, .int .i64 0, .int .i64 0, .int .i64 0, .bool false] 40
  have e1 : (w.alloc (.cells #[.int .i64 wd, .int .i64 ht, .string s] 24)).heap.size = w.heap.size + 1 := by simp
  rw [e1] at R0
  clear e1
  have ST0 : BbSt w ((w.alloc (.cells #[.int .i64 wd, .int .i64 ht, .string s] 24)).alloc (.cells #[.int .i64 0, .int .i64 0, .int .i64 0, .int .i64 0, .bool false] 40)) b (w.heap.size + 1) :=
    ⟨(hS.allocsF _).allocsF _, R0, ⟨B0.os, B0.tape, B0.output, B0.size, fun k hk _ => B0.block k hk⟩, hlt, by omega⟩
  clear hS R0 B0
  go_enter Try.func38, Try.ntmps38
  have f0 := F0.cell 0 _ rfl
  have f1 := F0.cell 1 _ rfl
  have f2 := F0.cell 2 _ rfl
  go_wp2_with fail
  clear f0 f1 f2 F0
  refine (unhide cB _).mono ?_
  rintro e W1 ⟨⟨v1, rfl, ho⟩, hx⟩
  obtain ⟨a1, c1, rfl⟩ := own_slice ho
  have Z := below1 W1 (.cells #[.slice a1 S.length c1, .int .i64 code] 29)
  have HST1 := hide ((ST0.below hx).below Z)
  have X1 := blk_new W1 [.slice a1 S.length c1, .int .i64 code] 29
  have O1 := own_kept ho Z
  have hx1s := hx.size
  clear ho hx Z ST0 cB
  have x0 := X1.cell 0 _ rfl
  have x1 := X1.cell 1 _ rfl
  have hrW : w.heap.size + 1 < W1.heap.size := by have := hx1s; simp at this; omega
  generalize w.heap.size + 1 = rb at *
  have hxr0 : rb < W1.heap.size := hrW
  generalize hSl : S.length = n at *
  have HSL := hide hSl
  clear hSl
  go_upto_region 2 with fail
  generalize W1.alloc (.cells #[.slice a1 n c1, .int .i64 code] 29) = W2 at HST1 X1 O1 x0 x1 ⊢
  have hxr : W1.heap.size ≠ rb := by have := hxr0; omega
  have hx0b : b < W1.heap.size := by have := (unhide HST1).lb; have := (unhide HST1).lr; omega
  generalize W1.heap.size = xb at *
  have HX1 := hide X1
  have HO1 := hide O1
  clear X1 O1
  go_cut [16] (fun v wx => ∃ y : Bool, v = .bool y ∧ (y = true → 0 < n) ∧ Hid (BbSt w wx b rb) ∧ Hid (Blk wx xb [.slice a1 n c1, .int .i64 code] 29) ∧ Hid (∃ B, wx.ownsRow B 40 5 (.slice a1 n c1) n (flatB S) ∧ b < B))
  case first =>
    by_cases hn0 : n = 0
    · have hn1 : ¬ (0 : Int) < (n : Int) := by omega
      have hn2 : decide ((0 : Int) < (n : Int)) = false := decide_eq_false hn1
      have HN := hide hn0
      clear hn0
      go_wp2_with fail
      go_meet
      exact ⟨false, rfl, by simp, HST1, HX1, hide ⟨_, unhide HO1, by simp; omega⟩⟩
    · have hn1 : (0 : Int) < (n : Int) := by omega
      have hn2 : decide ((0 : Int) < (n : Int)) = true := decide_eq_true hn1
      go_wp2_with fail
      refine (one_any b 5 _ (unhide HST1).src (by omega)).mono ?_
      rintro e W3 ⟨y, rfl, hS3, hg3⟩
      have HST3 := hide ((unhide HST1).call hS3 hg3)
      have HX3 := hide ((unhide HX1).grownC hg3 (by have := hx0b; omega))
      have HO3 := hide ((unhide HO1).kept hg3 (by
        cases hv : (Value.slice a1 n c1).ownBlock with
        | none => exact .inl rfl
        | some z => exact .inr (fun e => by have h1 := ((unhide HO1).lt z hv).1; have h2 := Option.some.inj e; simp at h1; omega)))
      clear hS3 hg3
      go_wp2_with fail
      go_meet
      exact ⟨!y, rfl, fun _ => by omega, HST3, HX3, hide ⟨_, unhide HO3, by simp; omega⟩⟩
  case rest =>
  obtain ⟨y, rfl, hy, HST, HX, HO⟩ := hcut
  have hbw := (unhide HST).src.lt
  clear HST1 HX1 HO1 x0 x1
  cases y
  · go_wp2_with fail
    generalize hwe : wc = W2 at HST HX HO ⊢
    clear hwe HX HO
    refine wp_region_held_drew (S := (fun _ => True)) (by kernel_rfl) trivial (fun hHeld => ?_)
    have HSd := hide (unhide HST).drewn
    generalize W2.drew = V0 at HSd hHeld ⊢
    refine wpAnyH_take (i := 0) (v := ?_) rfl (by kernel_rfl) (by kernel_rfl) (by kernel_rfl) (fun _ _ _ h => h) (Or.inl ⟨by rfl, ?_⟩) (by assumption) ?_
    rotate_left
    · intro W0 hSw; (try dsimp only at hSw); go_simp <;> with_reducible rfl
    try simp only [Act.put, List.setIfInBounds_toArray, List.set_cons_zero, List.set_cons_succ]
    refine wpAnyH_take (i := 3) (v := ?_) rfl (by kernel_rfl) (by kernel_rfl) (by kernel_rfl) (fun _ _ _ h => h) (Or.inl ⟨by rfl, ?_⟩) (by assumption) ?_
    rotate_left
    · intro W0 hSw; (try dsimp only at hSw); go_simp <;> with_reducible rfl
    try simp only [Act.put, List.setIfInBounds_toArray, List.set_cons_zero, List.set_cons_succ]
    refine wpAnyH_take (i := 7) (v := ?_) rfl (by kernel_rfl) (by kernel_rfl) (by kernel_rfl) (fun _ _ _ h => h) (Or.inl ⟨by rfl, ?_⟩) (by assumption) ?_
    rotate_left
    · intro W0 hSw; (try dsimp only at hSw); go_simp <;> with_reducible rfl
    try simp only [Act.put, List.setIfInBounds_toArray, List.set_cons_zero, List.set_cons_succ]
    refine wpAnyH_take (i := 9) (v := ?_) rfl (by kernel_rfl) (by kernel_rfl) (by kernel_rfl) (fun _ _ _ h => h) (Or.inl ⟨by rfl, ?_⟩) (by assumption) ?_
    rotate_left
    · intro W0 hSw; (try dsimp only at hSw); go_simp <;> with_reducible rfl
    try simp only [Act.put, List.setIfInBounds_toArray, List.set_cons_zero, List.set_cons_succ]
    refine wpAnyH_take (i := 11) (v := ?_) rfl (by kernel_rfl) (by kernel_rfl) (by kernel_rfl) (fun _ _ _ h => h) (Or.inl ⟨by rfl, ?_⟩) (by assumption) ?_
    rotate_left
    · intro W0 hSw; (try dsimp only at hSw); go_simp <;> with_reducible rfl
    try simp only [Act.put, List.setIfInBounds_toArray, List.set_cons_zero, List.set_cons_succ]
    refine wpAnyH_ready (rs := [1, 2]) (by kernel_rfl) (by simp) ?_
    refine (AllReadyH.cons rfl (fun K hK => ?_) (AllReadyH.cons rfl (fun K hK => ?_) AllReadyH.nil))
    · go_simp
      refine (n_any b 25 _ (unhide HSd).src (by omega)).mono ?_
      rintro e w1 ⟨k1, rfl, hk1a, hk1b, _, hS1, hg1⟩
      have HST1 := hide ((unhide HSd).call hS1 hg1)
      refine hK.out _ _ ?_ (fun hHeld1 => ?_)
      · exact trivial
      clear hK K
      refine wpAnyH_ready (rs := [2, 4]) (by kernel_rfl) (by simp) ?_
      refine (AllReadyH.cons rfl (fun K hK => ?_) (AllReadyH.cons rfl (fun K hK => ?_) AllReadyH.nil))
      · go_simp
        have hlb2 : b < w1.heap.size := (unhide HST1).src.lt
        have L2 := hide (blk_new w1 [.int .i64 0, .int .i64 5, .int .i64 10000, .int .i64 10001] 2)
        have HST2 := hide ((unhide HST1).alloc (.cells #[.int .i64 0, .int .i64 5, .int .i64 10000, .int .i64 10001] 2))
        generalize w1.alloc (.cells #[.int .i64 0, .int .i64 5, .int .i64 10000, .int .i64 10001] 2) = v2 at L2 HST2 ⊢
        generalize w1.heap.size = lb2 at *
        refine hK.out _ _ ?_ (fun hHeld2 => ?_)
        · exact trivial
        clear hK K
        refine wpAnyH_ready (rs := [4]) (by kernel_rfl) (by simp) ?_
        refine (AllReadyH.cons rfl (fun K hK => ?_) AllReadyH.nil)
        go_simp
        refine (n_any b 4 _ (unhide HST2).src (by omega)).mono ?_
        rintro e w3 ⟨k3, rfl, hk3a, hk3b, _, hS3, hg3⟩
        have HST3 := hide ((unhide HST2).call hS3 hg3)
        have L3 := hide ((unhide L2).grownC hg3 (by omega))
        obtain ⟨i3, hi3⟩ := Int.eq_ofNat_of_zero_le hk3a
        have hk3c := hk3b (by omega)
        subst hi3
        have hi3n : i3 < 4 := by omega
        have hi3m : (i3 : Int) < 4 := by omega
        refine hK.out _ _ ?_ (fun hHeld3 => ?_)
        · exact trivial
        clear hK K
        refine wpAnyH_take (i := 5) (v := ?_) rfl (by kernel_rfl) (by kernel_rfl) (by kernel_rfl) (fun _ _ _ h => h) (Or.inl ⟨by rfl, ?_⟩) (by assumption) ?_
        rotate_left
        · intro W0 hSw; (try dsimp only at hSw); go_simp <;> with_reducible rfl
        try simp only [Act.put, List.setIfInBounds_toArray, List.set_cons_zero, List.set_cons_succ]
        refine wpAnyH_ready (rs := [6, 8]) (by kernel_rfl) (by simp) ?_
        refine (AllReadyH.cons rfl (fun K hK => ?_) (AllReadyH.cons rfl (fun K hK => ?_) AllReadyH.nil))
        · obtain ⟨z4, hz4⟩ := lit_cell (unhide L3) (by simp) hi3n
          go_simp
          refine hK.out _ _ ?_ (fun hHeld4 => ?_)
          · exact trivial
          clear hK K
          refine wpAnyH_ready (rs := [8]) (by kernel_rfl) (by simp) ?_
          refine (AllReadyH.cons rfl (fun K hK => ?_) AllReadyH.nil)
          go_simp
          refine (n_any b 90 _ (unhide HST3).src (by omega)).mono ?_
          rintro e w5 ⟨k5, rfl, hk5a, hk5b, _, hS5, hg5⟩
          have HST5 := hide ((unhide HST3).call hS5 hg5)
          refine hK.out _ _ ?_ (fun hHeld5 => ?_)
          · exact trivial
          clear hK K
          refine wpAnyH_ready (rs := [10]) (by kernel_rfl) (by simp) ?_
          refine (AllReadyH.cons rfl (fun K hK => ?_) AllReadyH.nil)
          go_simp
          refine (n_any b 90 _ (unhide HST5).src (by omega)).mono ?_
          rintro e w6 ⟨k6, rfl, hk6a, hk6b, _, hS6, hg6⟩
          have HST6 := hide ((unhide HST5).call hS6 hg6)
          refine hK.out _ _ ?_ (fun hHeld6 => ?_)
          · exact trivial
          clear hK K
          refine wpAnyH_ready (rs := [12]) (by kernel_rfl) (by simp) ?_
          refine (AllReadyH.cons rfl (fun K hK => ?_) AllReadyH.nil)
          go_simp
          refine (one_any b 2 _ (unhide HST6).src (by omega)).mono ?_
          rintro e w7 ⟨y7, rfl, hS7, hg7⟩
          have HST7 := hide ((unhide HST6).call hS7 hg7)
          refine hK.out _ _ ?_ (fun hHeld7 => ?_)
          · exact trivial
          clear hK K
          refine wpAnyH_take (i := 13) (v := ?_) rfl (by kernel_rfl) (by kernel_rfl) (by kernel_rfl) (fun _ _ _ h => h) (Or.inl ⟨by rfl, ?_⟩) (by assumption) ?_
          rotate_left
          · intro W0 hSw; (try dsimp only at hSw); go_simp <;> with_reducible rfl
          try simp only [Act.put, List.setIfInBounds_toArray, List.set_cons_zero, List.set_cons_succ]
          refine wpAnyH_ready (rs := [14]) (by kernel_rfl) (by simp) ?_
          refine (AllReadyH.cons rfl (fun K hK => ?_) AllReadyH.nil)
          have r0 := (unhide HST7).res.cell 0 _ rfl
          have r1 := (unhide HST7).res.cell 1 _ rfl
          have r2 := (unhide HST7).res.cell 2 _ rfl
          have r3 := (unhide HST7).res.cell 3 _ rfl
          have r4 := (unhide HST7).res.cell 4 _ rfl
          have x0 := (unhide HST7).res.free 0
          have x1 := (unhide HST7).res.free 1
          have x2 := (unhide HST7).res.free 2
          have x3 := (unhide HST7).res.free 3
          have x4 := (unhide HST7).res.free 4
          have hEnd := (unhide HST7).ends (.int .i64 k1) (.int .i64 z4) (.int .i64 k5) (.int .i64 k6) (.bool y7)
          go_simp
          refine hK.out _ _ ?_ (fun hHeld8 => ?_)
          · exact trivial
          clear hK K
          refine wpAnyH_done (by kernel_rfl) ?_ _
          go_wp2_with fail
          exact bodyPost_ret (v := .agg #[.int .i64 k1, .int .i64 z4, .int .i64 k5, .int .i64 k6, .bool y7]) (by simp [results, Try.results38, go_sem, r0, r1, r2, r3, r4]) rfl (by first | exact ⟨_, _, _, _, _, rfl, hEnd.1, hEnd.2⟩ | exact ⟨⟨_, _, _, _, by first | exact .inl rfl | exact .inr rfl | (cases ed; exact .inl rfl; exact .inr rfl)⟩, hEnd.1, hEnd.2⟩)
        · go_simp
          refine (n_any b 90 _ (unhide HST3).src (by omega)).mono ?_
          rintro e w9 ⟨k9, rfl, hk9a, hk9b, _, hS9, hg9⟩
          have HST9 := hide ((unhide HST3).call hS9 hg9)
          have L9 := hide ((unhide L3).grownC hg9 (by omega))
          refine hK.out _ _ ?_ (fun hHeld9 => ?_)
          · exact trivial
          clear hK K
          refine wpAnyH_ready (rs := [6, 10]) (by kernel_rfl) (by simp) ?_
          refine (AllReadyH.cons rfl (fun K hK => ?_) (AllReadyH.cons rfl (fun K hK => ?_) AllReadyH.nil))
          · obtain ⟨z10, hz10⟩ := lit_cell (unhide L9) (by simp) hi3n
            go_simp
            refine hK.out _ _ ?_ (fun hHeld10 => ?_)
            · exact trivial
            clear hK K
            refine wpAnyH_ready (rs := [10]) (by kernel_rfl) (by simp) ?_
            refine (AllReadyH.cons rfl (fun K hK => ?_) AllReadyH.nil)
            go_simp
            refine (n_any b 90 _ (unhide HST9).src (by omega)).mono ?_
            rintro e w11 ⟨k11, rfl, hk11a, hk11b, _, hS11, hg11⟩
            have HST11 := hide ((unhide HST9).call hS11 hg11)
            refine hK.out _ _ ?_ (fun hHeld11 => ?_)
            · exact trivial
            clear hK K
            refine wpAnyH_ready (rs := [12]) (by kernel_rfl) (by simp) ?_
            refine (AllReadyH.cons rfl (fun K hK => ?_) AllReadyH.nil)
            go_simp
            refine (one_any b 2 _ (unhide HST11).src (by omega)).mono ?_
            rintro e w12 ⟨y12, rfl, hS12, hg12⟩
            have HST12 := hide ((unhide HST11).call hS12 hg12)
            refine hK.out _ _ ?_ (fun hHeld12 => ?_)
            · exact trivial
            clear hK K
            refine wpAnyH_take (i := 13) (v := ?_) rfl (by kernel_rfl) (by kernel_rfl) (by kernel_rfl) (fun _ _ _ h => h) (Or.inl ⟨by rfl, ?_⟩) (by assumption) ?_
            rotate_left
            · intro W0 hSw; (try dsimp only at hSw); go_simp <;> with_reducible rfl
            try simp only [Act.put, List.setIfInBounds_toArray, List.set_cons_zero, List.set_cons_succ]
            refine wpAnyH_ready (rs := [14]) (by kernel_rfl) (by simp) ?_
            refine (AllReadyH.cons rfl (fun K hK => ?_) AllReadyH.nil)
            have r0 := (unhide HST12).res.cell 0 _ rfl
            have r1 := (unhide HST12).res.cell 1 _ rfl
            have r2 := (unhide HST12).res.cell 2 _ rfl
            have r3 := (unhide HST12).res.cell 3 _ rfl
            have r4 := (unhide HST12).res.cell 4 _ rfl
            have x0 := (unhide HST12).res.free 0
            have x1 := (unhide HST12).res.free 1
            have x2 := (unhide HST12).res.free 2
            have x3 := (unhide HST12).res.free 3
            have x4 := (unhide HST12).res.free 4
            have hEnd := (unhide HST12).ends (.int .i64 k1) (.int .i64 z10) (.int .i64 k9) (.int .i64 k11) (.bool y12)
            go_simp
            refine hK.out _ _ ?_ (fun hHeld13 => ?_)
            · exact trivial
            clear hK K
            refine wpAnyH_done (by kernel_rfl) ?_ _
            go_wp2_with fail
            exact bodyPost_ret (v := .agg #[.int .i64 k1, .int .i64 z10, .int .i64 k9, .int .i64 k11, .bool y12]) (by simp [results, Try.results38, go_sem, r0, r1, r2, r3, r4]) rfl (by first | exact ⟨_, _, _, _, _, rfl, hEnd.1, hEnd.2⟩ | exact ⟨⟨_, _, _, _, by first | exact .inl rfl | exact .inr rfl | (cases ed; exact .inl rfl; exact .inr rfl)⟩, hEnd.1, hEnd.2⟩)
          · go_simp
            refine (n_any b 90 _ (unhide HST9).src (by omega)).mono ?_
            rintro e w14 ⟨k14, rfl, hk14a, hk14b, _, hS14, hg14⟩
            have HST14 := hide ((unhide HST9).call hS14 hg14)
            have L14 := hide ((unhide L9).grownC hg14 (by omega))
            refine hK.out _ _ ?_ (fun hHeld14 => ?_)
            · exact trivial
            clear hK K
            refine wpAnyH_ready (rs := [6, 12]) (by kernel_rfl) (by simp) ?_
            refine (AllReadyH.cons rfl (fun K hK => ?_) (AllReadyH.cons rfl (fun K hK => ?_) AllReadyH.nil))
            · obtain ⟨z15, hz15⟩ := lit_cell (unhide L14) (by simp) hi3n
              go_simp
              refine hK.out _ _ ?_ (fun hHeld15 => ?_)
              · exact trivial
              clear hK K
              refine wpAnyH_ready (rs := [12]) (by kernel_rfl) (by simp) ?_
              refine (AllReadyH.cons rfl (fun K hK => ?_) AllReadyH.nil)
              go_simp
              refine (one_any b 2 _ (unhide HST14).src (by omega)).mono ?_
              rintro e w16 ⟨y16, rfl, hS16, hg16⟩
              have HST16 := hide ((unhide HST14).call hS16 hg16)
              refine hK.out _ _ ?_ (fun hHeld16 => ?_)
              · exact trivial
              clear hK K
              refine wpAnyH_take (i := 13) (v := ?_) rfl (by kernel_rfl) (by kernel_rfl) (by kernel_rfl) (fun _ _ _ h => h) (Or.inl ⟨by rfl, ?_⟩) (by assumption) ?_
              rotate_left
              · intro W0 hSw; (try dsimp only at hSw); go_simp <;> with_reducible rfl
              try simp only [Act.put, List.setIfInBounds_toArray, List.set_cons_zero, List.set_cons_succ]
              refine wpAnyH_ready (rs := [14]) (by kernel_rfl) (by simp) ?_
              refine (AllReadyH.cons rfl (fun K hK => ?_) AllReadyH.nil)
              have r0 := (unhide HST16).res.cell 0 _ rfl
              have r1 := (unhide HST16).res.cell 1 _ rfl
              have r2 := (unhide HST16).res.cell 2 _ rfl
              have r3 := (unhide HST16).res.cell 3 _ rfl
              have r4 := (unhide HST16).res.cell 4 _ rfl
              have x0 := (unhide HST16).res.free 0
              have x1 := (unhide HST16).res.free 1
              have x2 := (unhide HST16).res.free 2
              have x3 := (unhide HST16).res.free 3
              have x4 := (unhide HST16).res.free 4
              have hEnd := (unhide HST16).ends (.int .i64 k1) (.int .i64 z15) (.int .i64 k9) (.int .i64 k14) (.bool y16)
              go_simp
              refine hK.out _ _ ?_ (fun hHeld17 => ?_)
              · exact trivial
              clear hK K
              refine wpAnyH_done (by kernel_rfl) ?_ _
              go_wp2_with fail
              exact bodyPost_ret (v := .agg #[.int .i64 k1, .int .i64 z15, .int .i64 k9, .int .i64 k14, .bool y16]) (by simp [results, Try.results38, go_sem, r0, r1, r2, r3, r4]) rfl (by first | exact ⟨_, _, _, _, _, rfl, hEnd.1, hEnd.2⟩ | exact ⟨⟨_, _, _, _, by first | exact .inl rfl | exact .inr rfl | (cases ed; exact .inl rfl; exact .inr rfl)⟩, hEnd.1, hEnd.2⟩)
            · go_simp
              refine (one_any b 2 _ (unhide HST14).src (by omega)).mono ?_
              rintro e w18 ⟨y18, rfl, hS18, hg18⟩
              have HST18 := hide ((unhide HST14).call hS18 hg18)
              have L18 := hide ((unhide L14).grownC hg18 (by omega))
              refine hK.out _ _ ?_ (fun hHeld18 => ?_)
              · exact trivial
              clear hK K
              refine wpAnyH_ready (rs := [6]) (by kernel_rfl) (by simp) ?_
              refine (AllReadyH.cons rfl (fun K hK => ?_) AllReadyH.nil)
              obtain ⟨z19, hz19⟩ := lit_cell (unhide L18) (by simp) hi3n
              go_simp
              refine hK.out _ _ ?_ (fun hHeld19 => ?_)
              · exact trivial
              clear hK K
              refine wpAnyH_take (i := 13) (v := ?_) rfl (by kernel_rfl) (by kernel_rfl) (by kernel_rfl) (fun _ _ _ h => h) (Or.inl ⟨by rfl, ?_⟩) (by assumption) ?_
              rotate_left
              · intro W0 hSw; (try dsimp only at hSw); go_simp <;> with_reducible rfl
              try simp only [Act.put, List.setIfInBounds_toArray, List.set_cons_zero, List.set_cons_succ]
              refine wpAnyH_ready (rs := [14]) (by kernel_rfl) (by simp) ?_
              refine (AllReadyH.cons rfl (fun K hK => ?_) AllReadyH.nil)
              have r0 := (unhide HST18).res.cell 0 _ rfl
              have r1 := (unhide HST18).res.cell 1 _ rfl
              have r2 := (unhide HST18).res.cell 2 _ rfl
              have r3 := (unhide HST18).res.cell 3 _ rfl
              have r4 := (unhide HST18).res.cell 4 _ rfl
              have x0 := (unhide HST18).res.free 0
              have x1 := (unhide HST18).res.free 1
              have x2 := (unhide HST18).res.free 2
              have x3 := (unhide HST18).res.free 3
              have x4 := (unhide HST18).res.free 4
              have hEnd := (unhide HST18).ends (.int .i64 k1) (.int .i64 z19) (.int .i64 k9) (.int .i64 k14) (.bool y18)
              go_simp
              refine hK.out _ _ ?_ (fun hHeld20 => ?_)
              · exact trivial
              clear hK K
              refine wpAnyH_done (by kernel_rfl) ?_ _
              go_wp2_with fail
              exact bodyPost_ret (v := .agg #[.int .i64 k1, .int .i64 z19, .int .i64 k9, .int .i64 k14, .bool y18]) (by simp [results, Try.results38, go_sem, r0, r1, r2, r3, r4]) rfl (by first | exact ⟨_, _, _, _, _, rfl, hEnd.1, hEnd.2⟩ | exact ⟨⟨_, _, _, _, by first | exact .inl rfl | exact .inr rfl | (cases ed; exact .inl rfl; exact .inr rfl)⟩, hEnd.1, hEnd.2⟩)
      · go_simp
        refine (n_any b 4 _ (unhide HST1).src (by omega)).mono ?_
        rintro e w21 ⟨k21, rfl, hk21a, hk21b, _, hS21, hg21⟩
        have HST21 := hide ((unhide HST1).call hS21 hg21)
        obtain ⟨i21, hi21⟩ := Int.eq_ofNat_of_zero_le hk21a
        have hk21c := hk21b (by omega)
        subst hi21
        have hi21n : i21 < 4 := by omega
        have hi21m : (i21 : Int) < 4 := by omega
        refine hK.out _ _ ?_ (fun hHeld21 => ?_)
        · exact trivial
        clear hK K
        refine wpAnyH_ready (rs := [2, 8]) (by kernel_rfl) (by simp) ?_
        refine (AllReadyH.cons rfl (fun K hK => ?_) (AllReadyH.cons rfl (fun K hK => ?_) AllReadyH.nil))
        · go_simp
          have hlb22 : b < w21.heap.size := (unhide HST21).src.lt
          have L22 := hide (blk_new w21 [.int .i64 0, .int .i64 5, .int .i64 10000, .int .i64 10001] 2)
          have HST22 := hide ((unhide HST21).alloc (.cells #[.int .i64 0, .int .i64 5, .int .i64 10000, .int .i64 10001] 2))
          generalize w21.alloc (.cells #[.int .i64 0, .int .i64 5, .int .i64 10000, .int .i64 10001] 2) = v22 at L22 HST22 ⊢
          generalize w21.heap.size = lb22 at *
          refine hK.out _ _ ?_ (fun hHeld22 => ?_)
          · exact trivial
          clear hK K
          refine wpAnyH_take (i := 5) (v := ?_) rfl (by kernel_rfl) (by kernel_rfl) (by kernel_rfl) (fun _ _ _ h => h) (Or.inl ⟨by rfl, ?_⟩) (by assumption) ?_
          rotate_left
          · intro W0 hSw; (try dsimp only at hSw); go_simp <;> with_reducible rfl
          try simp only [Act.put, List.setIfInBounds_toArray, List.set_cons_zero, List.set_cons_succ]
          refine wpAnyH_ready (rs := [6, 8]) (by kernel_rfl) (by simp) ?_
          refine (AllReadyH.cons rfl (fun K hK => ?_) (AllReadyH.cons rfl (fun K hK => ?_) AllReadyH.nil))
          · obtain ⟨z23, hz23⟩ := lit_cell (unhide L22) (by simp) hi21n
            go_simp
            refine hK.out _ _ ?_ (fun hHeld23 => ?_)
            · exact trivial
            clear hK K
            refine wpAnyH_ready (rs := [8]) (by kernel_rfl) (by simp) ?_
            refine (AllReadyH.cons rfl (fun K hK => ?_) AllReadyH.nil)
            go_simp
            refine (n_any b 90 _ (unhide HST22).src (by omega)).mono ?_
            rintro e w24 ⟨k24, rfl, hk24a, hk24b, _, hS24, hg24⟩
            have HST24 := hide ((unhide HST22).call hS24 hg24)
            refine hK.out _ _ ?_ (fun hHeld24 => ?_)
            · exact trivial
            clear hK K
            refine wpAnyH_ready (rs := [10]) (by kernel_rfl) (by simp) ?_
            refine (AllReadyH.cons rfl (fun K hK => ?_) AllReadyH.nil)
            go_simp
            refine (n_any b 90 _ (unhide HST24).src (by omega)).mono ?_
            rintro e w25 ⟨k25, rfl, hk25a, hk25b, _, hS25, hg25⟩
            have HST25 := hide ((unhide HST24).call hS25 hg25)
            refine hK.out _ _ ?_ (fun hHeld25 => ?_)
            · exact trivial
            clear hK K
            refine wpAnyH_ready (rs := [12]) (by kernel_rfl) (by simp) ?_
            refine (AllReadyH.cons rfl (fun K hK => ?_) AllReadyH.nil)
            go_simp
            refine (one_any b 2 _ (unhide HST25).src (by omega)).mono ?_
            rintro e w26 ⟨y26, rfl, hS26, hg26⟩
            have HST26 := hide ((unhide HST25).call hS26 hg26)
            refine hK.out _ _ ?_ (fun hHeld26 => ?_)
            · exact trivial
            clear hK K
            refine wpAnyH_take (i := 13) (v := ?_) rfl (by kernel_rfl) (by kernel_rfl) (by kernel_rfl) (fun _ _ _ h => h) (Or.inl ⟨by rfl, ?_⟩) (by assumption) ?_
            rotate_left
            · intro W0 hSw; (try dsimp only at hSw); go_simp <;> with_reducible rfl
            try simp only [Act.put, List.setIfInBounds_toArray, List.set_cons_zero, List.set_cons_succ]
            refine wpAnyH_ready (rs := [14]) (by kernel_rfl) (by simp) ?_
            refine (AllReadyH.cons rfl (fun K hK => ?_) AllReadyH.nil)
            have r0 := (unhide HST26).res.cell 0 _ rfl
            have r1 := (unhide HST26).res.cell 1 _ rfl
            have r2 := (unhide HST26).res.cell 2 _ rfl
            have r3 := (unhide HST26).res.cell 3 _ rfl
            have r4 := (unhide HST26).res.cell 4 _ rfl
            have x0 := (unhide HST26).res.free 0
            have x1 := (unhide HST26).res.free 1
            have x2 := (unhide HST26).res.free 2
            have x3 := (unhide HST26).res.free 3
            have x4 := (unhide HST26).res.free 4
            have hEnd := (unhide HST26).ends (.int .i64 k1) (.int .i64 z23) (.int .i64 k24) (.int .i64 k25) (.bool y26)
            go_simp
            refine hK.out _ _ ?_ (fun hHeld27 => ?_)
            · exact trivial
            clear hK K
            refine wpAnyH_done (by kernel_rfl) ?_ _
            go_wp2_with fail
            exact bodyPost_ret (v := .agg #[.int .i64 k1, .int .i64 z23, .int .i64 k24, .int .i64 k25, .bool y26]) (by simp [results, Try.results38, go_sem, r0, r1, r2, r3, r4]) rfl (by first | exact ⟨_, _, _, _, _, rfl, hEnd.1, hEnd.2⟩ | exact ⟨⟨_, _, _, _, by first | exact .inl rfl | exact .inr rfl | (cases ed; exact .inl rfl; exact .inr rfl)⟩, hEnd.1, hEnd.2⟩)
          · go_simp
            refine (n_any b 90 _ (unhide HST22).src (by omega)).mono ?_
            rintro e w28 ⟨k28, rfl, hk28a, hk28b, _, hS28, hg28⟩
            have HST28 := hide ((unhide HST22).call hS28 hg28)
            have L28 := hide ((unhide L22).grownC hg28 (by omega))
            refine hK.out _ _ ?_ (fun hHeld28 => ?_)
            · exact trivial
            clear hK K
            refine wpAnyH_ready (rs := [6, 10]) (by kernel_rfl) (by simp) ?_
            refine (AllReadyH.cons rfl (fun K hK => ?_) (AllReadyH.cons rfl (fun K hK => ?_) AllReadyH.nil))
            · obtain ⟨z29, hz29⟩ := lit_cell (unhide L28) (by simp) hi21n
              go_simp
              refine hK.out _ _ ?_ (fun hHeld29 => ?_)
              · exact trivial
              clear hK K
              refine wpAnyH_ready (rs := [10]) (by kernel_rfl) (by simp) ?_
              refine (AllReadyH.cons rfl (fun K hK => ?_) AllReadyH.nil)
              go_simp
              refine (n_any b 90 _ (unhide HST28).src (by omega)).mono ?_
              rintro e w30 ⟨k30, rfl, hk30a, hk30b, _, hS30, hg30⟩
              have HST30 := hide ((unhide HST28).call hS30 hg30)
              refine hK.out _ _ ?_ (fun hHeld30 => ?_)
              · exact trivial
              clear hK K
              refine wpAnyH_ready (rs := [12]) (by kernel_rfl) (by simp) ?_
              refine (AllReadyH.cons rfl (fun K hK => ?_) AllReadyH.nil)
              go_simp
              refine (one_any b 2 _ (unhide HST30).src (by omega)).mono ?_
              rintro e w31 ⟨y31, rfl, hS31, hg31⟩
              have HST31 := hide ((unhide HST30).call hS31 hg31)
              refine hK.out _ _ ?_ (fun hHeld31 => ?_)
              · exact trivial
              clear hK K
              refine wpAnyH_take (i := 13) (v := ?_) rfl (by kernel_rfl) (by kernel_rfl) (by kernel_rfl) (fun _ _ _ h => h) (Or.inl ⟨by rfl, ?_⟩) (by assumption) ?_
              rotate_left
              · intro W0 hSw; (try dsimp only at hSw); go_simp <;> with_reducible rfl
              try simp only [Act.put, List.setIfInBounds_toArray, List.set_cons_zero, List.set_cons_succ]
              refine wpAnyH_ready (rs := [14]) (by kernel_rfl) (by simp) ?_
              refine (AllReadyH.cons rfl (fun K hK => ?_) AllReadyH.nil)
              have r0 := (unhide HST31).res.cell 0 _ rfl
              have r1 := (unhide HST31).res.cell 1 _ rfl
              have r2 := (unhide HST31).res.cell 2 _ rfl
              have r3 := (unhide HST31).res.cell 3 _ rfl
              have r4 := (unhide HST31).res.cell 4 _ rfl
              have x0 := (unhide HST31).res.free 0
              have x1 := (unhide HST31).res.free 1
              have x2 := (unhide HST31).res.free 2
              have x3 := (unhide HST31).res.free 3
              have x4 := (unhide HST31).res.free 4
              have hEnd := (unhide HST31).ends (.int .i64 k1) (.int .i64 z29) (.int .i64 k28) (.int .i64 k30) (.bool y31)
              go_simp
              refine hK.out _ _ ?_ (fun hHeld32 => ?_)
              · exact trivial
              clear hK K
              refine wpAnyH_done (by kernel_rfl) ?_ _
              go_wp2_with fail
              exact bodyPost_ret (v := .agg #[.int .i64 k1, .int .i64 z29, .int .i64 k28, .int .i64 k30, .bool y31]) (by simp [results, Try.results38, go_sem, r0, r1, r2, r3, r4]) rfl (by first | exact ⟨_, _, _, _, _, rfl, hEnd.1, hEnd.2⟩ | exact ⟨⟨_, _, _, _, by first | exact .inl rfl | exact .inr rfl | (cases ed; exact .inl rfl; exact .inr rfl)⟩, hEnd.1, hEnd.2⟩)
            · go_simp
              refine (n_any b 90 _ (unhide HST28).src (by omega)).mono ?_
              rintro e w33 ⟨k33, rfl, hk33a, hk33b, _, hS33, hg33⟩
              have HST33 := hide ((unhide HST28).call hS33 hg33)
              have L33 := hide ((unhide L28).grownC hg33 (by omega))
              refine hK.out _ _ ?_ (fun hHeld33 => ?_)
              · exact trivial
              clear hK K
              refine wpAnyH_ready (rs := [6, 12]) (by kernel_rfl) (by simp) ?_
              refine (AllReadyH.cons rfl (fun K hK => ?_) (AllReadyH.cons rfl (fun K hK => ?_) AllReadyH.nil))
              · obtain ⟨z34, hz34⟩ := lit_cell (unhide L33) (by simp) hi21n
                go_simp
                refine hK.out _ _ ?_ (fun hHeld34 => ?_)
                · exact trivial
                clear hK K
                refine wpAnyH_ready (rs := [12]) (by kernel_rfl) (by simp) ?_
                refine (AllReadyH.cons rfl (fun K hK => ?_) AllReadyH.nil)
                go_simp
                refine (one_any b 2 _ (unhide HST33).src (by omega)).mono ?_
                rintro e w35 ⟨y35, rfl, hS35, hg35⟩
                have HST35 := hide ((unhide HST33).call hS35 hg35)
                refine hK.out _ _ ?_ (fun hHeld35 => ?_)
                · exact trivial
                clear hK K
                refine wpAnyH_take (i := 13) (v := ?_) rfl (by kernel_rfl) (by kernel_rfl) (by kernel_rfl) (fun _ _ _ h => h) (Or.inl ⟨by rfl, ?_⟩) (by assumption) ?_
                rotate_left
                · intro W0 hSw; (try dsimp only at hSw); go_simp <;> with_reducible rfl
                try simp only [Act.put, List.setIfInBounds_toArray, List.set_cons_zero, List.set_cons_succ]
                refine wpAnyH_ready (rs := [14]) (by kernel_rfl) (by simp) ?_
                refine (AllReadyH.cons rfl (fun K hK => ?_) AllReadyH.nil)
                have r0 := (unhide HST35).res.cell 0 _ rfl
                have r1 := (unhide HST35).res.cell 1 _ rfl
                have r2 := (unhide HST35).res.cell 2 _ rfl
                have r3 := (unhide HST35).res.cell 3 _ rfl
                have r4 := (unhide HST35).res.cell 4 _ rfl
                have x0 := (unhide HST35).res.free 0
                have x1 := (unhide HST35).res.free 1
                have x2 := (unhide HST35).res.free 2
                have x3 := (unhide HST35).res.free 3
                have x4 := (unhide HST35).res.free 4
                have hEnd := (unhide HST35).ends (.int .i64 k1) (.int .i64 z34) (.int .i64 k28) (.int .i64 k33) (.bool y35)
                go_simp
                refine hK.out _ _ ?_ (fun hHeld36 => ?_)
                · exact trivial
                clear hK K
                refine wpAnyH_done (by kernel_rfl) ?_ _
                go_wp2_with fail
                exact bodyPost_ret (v := .agg #[.int .i64 k1, .int .i64 z34, .int .i64 k28, .int .i64 k33, .bool y35]) (by simp [results, Try.results38, go_sem, r0, r1, r2, r3, r4]) rfl (by first | exact ⟨_, _, _, _, _, rfl, hEnd.1, hEnd.2⟩ | exact ⟨⟨_, _, _, _, by first | exact .inl rfl | exact .inr rfl | (cases ed; exact .inl rfl; exact .inr rfl)⟩, hEnd.1, hEnd.2⟩)
              · go_simp
                refine (one_any b 2 _ (unhide HST33).src (by omega)).mono ?_
                rintro e w37 ⟨y37, rfl, hS37, hg37⟩
                have HST37 := hide ((unhide HST33).call hS37 hg37)
                have L37 := hide ((unhide L33).grownC hg37 (by omega))
                refine hK.out _ _ ?_ (fun hHeld37 => ?_)
                · exact trivial
                clear hK K
                refine wpAnyH_ready (rs := [6]) (by kernel_rfl) (by simp) ?_
                refine (AllReadyH.cons rfl (fun K hK => ?_) AllReadyH.nil)
                obtain ⟨z38, hz38⟩ := lit_cell (unhide L37) (by simp) hi21n
                go_simp
                refine hK.out _ _ ?_ (fun hHeld38 => ?_)
                · exact trivial
                clear hK K
                refine wpAnyH_take (i := 13) (v := ?_) rfl (by kernel_rfl) (by kernel_rfl) (by kernel_rfl) (fun _ _ _ h => h) (Or.inl ⟨by rfl, ?_⟩) (by assumption) ?_
                rotate_left
                · intro W0 hSw; (try dsimp only at hSw); go_simp <;> with_reducible rfl
                try simp only [Act.put, List.setIfInBounds_toArray, List.set_cons_zero, List.set_cons_succ]
                refine wpAnyH_ready (rs := [14]) (by kernel_rfl) (by simp) ?_
                refine (AllReadyH.cons rfl (fun K hK => ?_) AllReadyH.nil)
                have r0 := (unhide HST37).res.cell 0 _ rfl
                have r1 := (unhide HST37).res.cell 1 _ rfl
                have r2 := (unhide HST37).res.cell 2 _ rfl
                have r3 := (unhide HST37).res.cell 3 _ rfl
                have r4 := (unhide HST37).res.cell 4 _ rfl
                have x0 := (unhide HST37).res.free 0
                have x1 := (unhide HST37).res.free 1
                have x2 := (unhide HST37).res.free 2
                have x3 := (unhide HST37).res.free 3
                have x4 := (unhide HST37).res.free 4
                have hEnd := (unhide HST37).ends (.int .i64 k1) (.int .i64 z38) (.int .i64 k28) (.int .i64 k33) (.bool y37)
                go_simp
                refine hK.out _ _ ?_ (fun hHeld39 => ?_)
                · exact trivial
                clear hK K
                refine wpAnyH_done (by kernel_rfl) ?_ _
                go_wp2_with fail
                exact bodyPost_ret (v := .agg #[.int .i64 k1, .int .i64 z38, .int .i64 k28, .int .i64 k33, .bool y37]) (by simp [results, Try.results38, go_sem, r0, r1, r2, r3, r4]) rfl (by first | exact ⟨_, _, _, _, _, rfl, hEnd.1, hEnd.2⟩ | exact ⟨⟨_, _, _, _, by first | exact .inl rfl | exact .inr rfl | (cases ed; exact .inl rfl; exact .inr rfl)⟩, hEnd.1, hEnd.2⟩)
        · go_simp
          refine (n_any b 90 _ (unhide HST21).src (by omega)).mono ?_
          rintro e w40 ⟨k40, rfl, hk40a, hk40b, _, hS40, hg40⟩
          have HST40 := hide ((unhide HST21).call hS40 hg40)
          refine hK.out _ _ ?_ (fun hHeld40 => ?_)
          · exact trivial
          clear hK K
          refine wpAnyH_ready (rs := [2, 10]) (by kernel_rfl) (by simp) ?_
          refine (AllReadyH.cons rfl (fun K hK => ?_) (AllReadyH.cons rfl (fun K hK => ?_) AllReadyH.nil))
          · go_simp
            have hlb41 : b < w40.heap.size := (unhide HST40).src.lt
            have L41 := hide (blk_new w40 [.int .i64 0, .int .i64 5, .int .i64 10000, .int .i64 10001] 2)
            have HST41 := hide ((unhide HST40).alloc (.cells #[.int .i64 0, .int .i64 5, .int .i64 10000, .int .i64 10001] 2))
            generalize w40.alloc (.cells #[.int .i64 0, .int .i64 5, .int .i64 10000, .int .i64 10001] 2) = v41 at L41 HST41 ⊢
            generalize w40.heap.size = lb41 at *
            refine hK.out _ _ ?_ (fun hHeld41 => ?_)
            · exact trivial
            clear hK K
            refine wpAnyH_take (i := 5) (v := ?_) rfl (by kernel_rfl) (by kernel_rfl) (by kernel_rfl) (fun _ _ _ h => h) (Or.inl ⟨by rfl, ?_⟩) (by assumption) ?_
            rotate_left
            · intro W0 hSw; (try dsimp only at hSw); go_simp <;> with_reducible rfl
            try simp only [Act.put, List.setIfInBounds_toArray, List.set_cons_zero, List.set_cons_succ]
            refine wpAnyH_ready (rs := [6, 10]) (by kernel_rfl) (by simp) ?_
            refine (AllReadyH.cons rfl (fun K hK => ?_) (AllReadyH.cons rfl (fun K hK => ?_) AllReadyH.nil))
            · obtain ⟨z42, hz42⟩ := lit_cell (unhide L41) (by simp) hi21n
              go_simp
              refine hK.out _ _ ?_ (fun hHeld42 => ?_)
              · exact trivial
              clear hK K
              refine wpAnyH_ready (rs := [10]) (by kernel_rfl) (by simp) ?_
              refine (AllReadyH.cons rfl (fun K hK => ?_) AllReadyH.nil)
              go_simp
              refine (n_any b 90 _ (unhide HST41).src (by omega)).mono ?_
              rintro e w43 ⟨k43, rfl, hk43a, hk43b, _, hS43, hg43⟩
              have HST43 := hide ((unhide HST41).call hS43 hg43)
              refine hK.out _ _ ?_ (fun hHeld43 => ?_)
              · exact trivial
              clear hK K
              refine wpAnyH_ready (rs := [12]) (by kernel_rfl) (by simp) ?_
              refine (AllReadyH.cons rfl (fun K hK => ?_) AllReadyH.nil)
              go_simp
              refine (one_any b 2 _ (unhide HST43).src (by omega)).mono ?_
              rintro e w44 ⟨y44, rfl, hS44, hg44⟩
              have HST44 := hide ((unhide HST43).call hS44 hg44)
              refine hK.out _ _ ?_ (fun hHeld44 => ?_)
              · exact trivial
              clear hK K
              refine wpAnyH_take (i := 13) (v := ?_) rfl (by kernel_rfl) (by kernel_rfl) (by kernel_rfl) (fun _ _ _ h => h) (Or.inl ⟨by rfl, ?_⟩) (by assumption) ?_
              rotate_left
              · intro W0 hSw; (try dsimp only at hSw); go_simp <;> with_reducible rfl
              try simp only [Act.put, List.setIfInBounds_toArray, List.set_cons_zero, List.set_cons_succ]
              refine wpAnyH_ready (rs := [14]) (by kernel_rfl) (by simp) ?_
              refine (AllReadyH.cons rfl (fun K hK => ?_) AllReadyH.nil)
              have r0 := (unhide HST44).res.cell 0 _ rfl
              have r1 := (unhide HST44).res.cell 1 _ rfl
              have r2 := (unhide HST44).res.cell 2 _ rfl
              have r3 := (unhide HST44).res.cell 3 _ rfl
              have r4 := (unhide HST44).res.cell 4 _ rfl
              have x0 := (unhide HST44).res.free 0
              have x1 := (unhide HST44).res.free 1
              have x2 := (unhide HST44).res.free 2
              have x3 := (unhide HST44).res.free 3
              have x4 := (unhide HST44).res.free 4
              have hEnd := (unhide HST44).ends (.int .i64 k1) (.int .i64 z42) (.int .i64 k40) (.int .i64 k43) (.bool y44)
              go_simp
              refine hK.out _ _ ?_ (fun hHeld45 => ?_)
              · exact trivial
              clear hK K
              refine wpAnyH_done (by kernel_rfl) ?_ _
              go_wp2_with fail
              exact bodyPost_ret (v := .agg #[.int .i64 k1, .int .i64 z42, .int .i64 k40, .int .i64 k43, .bool y44]) (by simp [results, Try.results38, go_sem, r0, r1, r2, r3, r4]) rfl (by first | exact ⟨_, _, _, _, _, rfl, hEnd.1, hEnd.2⟩ | exact ⟨⟨_, _, _, _, by first | exact .inl rfl | exact .inr rfl | (cases ed; exact .inl rfl; exact .inr rfl)⟩, hEnd.1, hEnd.2⟩)
            · go_simp
              refine (n_any b 90 _ (unhide HST41).src (by omega)).mono ?_
              rintro e w46 ⟨k46, rfl, hk46a, hk46b, _, hS46, hg46⟩
              have HST46 := hide ((unhide HST41).call hS46 hg46)
              have L46 := hide ((unhide L41).grownC hg46 (by omega))
              refine hK.out _ _ ?_ (fun hHeld46 => ?_)
              · exact trivial
              clear hK K
              refine wpAnyH_ready (rs := [6, 12]) (by kernel_rfl) (by simp) ?_
              refine (AllReadyH.cons rfl (fun K hK => ?_) (AllReadyH.cons rfl (fun K hK => ?_) AllReadyH.nil))
              · obtain ⟨z47, hz47⟩ := lit_cell (unhide L46) (by simp) hi21n
                go_simp
                refine hK.out _ _ ?_ (fun hHeld47 => ?_)
                · exact trivial
                clear hK K
                refine wpAnyH_ready (rs := [12]) (by kernel_rfl) (by simp) ?_
                refine (AllReadyH.cons rfl (fun K hK => ?_) AllReadyH.nil)
                go_simp
                refine (one_any b 2 _ (unhide HST46).src (by omega)).mono ?_
                rintro e w48 ⟨y48, rfl, hS48, hg48⟩
                have HST48 := hide ((unhide HST46).call hS48 hg48)
                refine hK.out _ _ ?_ (fun hHeld48 => ?_)
                · exact trivial
                clear hK K
                refine wpAnyH_take (i := 13) (v := ?_) rfl (by kernel_rfl) (by kernel_rfl) (by kernel_rfl) (fun _ _ _ h => h) (Or.inl ⟨by rfl, ?_⟩) (by assumption) ?_
                rotate_left
                · intro W0 hSw; (try dsimp only at hSw); go_simp <;> with_reducible rfl
                try simp only [Act.put, List.setIfInBounds_toArray, List.set_cons_zero, List.set_cons_succ]
                refine wpAnyH_ready (rs := [14]) (by kernel_rfl) (by simp) ?_
                refine (AllReadyH.cons rfl (fun K hK => ?_) AllReadyH.nil)
                have r0 := (unhide HST48).res.cell 0 _ rfl
                have r1 := (unhide HST48).res.cell 1 _ rfl
                have r2 := (unhide HST48).res.cell 2 _ rfl
                have r3 := (unhide HST48).res.cell 3 _ rfl
                have r4 := (unhide HST48).res.cell 4 _ rfl
                have x0 := (unhide HST48).res.free 0
                have x1 := (unhide HST48).res.free 1
                have x2 := (unhide HST48).res.free 2
                have x3 := (unhide HST48).res.free 3
                have x4 := (unhide HST48).res.free 4
                have hEnd := (unhide HST48).ends (.int .i64 k1) (.int .i64 z47) (.int .i64 k40) (.int .i64 k46) (.bool y48)
                go_simp
                refine hK.out _ _ ?_ (fun hHeld49 => ?_)
                · exact trivial
                clear hK K
                refine wpAnyH_done (by kernel_rfl) ?_ _
                go_wp2_with fail
                exact bodyPost_ret (v := .agg #[.int .i64 k1, .int .i64 z47, .int .i64 k40, .int .i64 k46, .bool y48]) (by simp [results, Try.results38, go_sem, r0, r1, r2, r3, r4]) rfl (by first | exact ⟨_, _, _, _, _, rfl, hEnd.1, hEnd.2⟩ | exact ⟨⟨_, _, _, _, by first | exact .inl rfl | exact .inr rfl | (cases ed; exact .inl rfl; exact .inr rfl)⟩, hEnd.1, hEnd.2⟩)
              · go_simp
                refine (one_any b 2 _ (unhide HST46).src (by omega)).mono ?_
                rintro e w50 ⟨y50, rfl, hS50, hg50⟩
                have HST50 := hide ((unhide HST46).call hS50 hg50)
                have L50 := hide ((unhide L46).grownC hg50 (by omega))
                refine hK.out _ _ ?_ (fun hHeld50 => ?_)
                · exact trivial
                clear hK K
                refine wpAnyH_ready (rs := [6]) (by kernel_rfl) (by simp) ?_
                refine (AllReadyH.cons rfl (fun K hK => ?_) AllReadyH.nil)
                obtain ⟨z51, hz51⟩ := lit_cell (unhide L50) (by simp) hi21n
                go_simp
                refine hK.out _ _ ?_ (fun hHeld51 => ?_)
                · exact trivial
                clear hK K
                refine wpAnyH_take (i := 13) (v := ?_) rfl (by kernel_rfl) (by kernel_rfl) (by kernel_rfl) (fun _ _ _ h => h) (Or.inl ⟨by rfl, ?_⟩) (by assumption) ?_
                rotate_left
                · intro W0 hSw; (try dsimp only at hSw); go_simp <;> with_reducible rfl
                try simp only [Act.put, List.setIfInBounds_toArray, List.set_cons_zero, List.set_cons_succ]
                refine wpAnyH_ready (rs := [14]) (by kernel_rfl) (by simp) ?_
                refine (AllReadyH.cons rfl (fun K hK => ?_) AllReadyH.nil)
                have r0 := (unhide HST50).res.cell 0 _ rfl
                have r1 := (unhide HST50).res.cell 1 _ rfl
                have r2 := (unhide HST50).res.cell 2 _ rfl
                have r3 := (unhide HST50).res.cell 3 _ rfl
                have r4 := (unhide HST50).res.cell 4 _ rfl
                have x0 := (unhide HST50).res.free 0
                have x1 := (unhide HST50).res.free 1
                have x2 := (unhide HST50).res.free 2
                have x3 := (unhide HST50).res.free 3
                have x4 := (unhide HST50).res.free 4
                have hEnd := (unhide HST50).ends (.int .i64 k1) (.int .i64 z51) (.int .i64 k40) (.int .i64 k46) (.bool y50)
                go_simp
                refine hK.out _ _ ?_ (fun hHeld52 => ?_)
                · exact trivial
                clear hK K
                refine wpAnyH_done (by kernel_rfl) ?_ _
                go_wp2_with fail
                exact bodyPost_ret (v := .agg #[.int .i64 k1, .int .i64 z51, .int .i64 k40, .int .i64 k46, .bool y50]) (by simp [results, Try.results38, go_sem, r0, r1, r2, r3, r4]) rfl (by first | exact ⟨_, _, _, _, _, rfl, hEnd.1, hEnd.2⟩ | exact ⟨⟨_, _, _, _, by first | exact .inl rfl | exact .inr rfl | (cases ed; exact .inl rfl; exact .inr rfl)⟩, hEnd.1, hEnd.2⟩)
          · go_simp
            refine (n_any b 90 _ (unhide HST40).src (by omega)).mono ?_
            rintro e w53 ⟨k53, rfl, hk53a, hk53b, _, hS53, hg53⟩
            have HST53 := hide ((unhide HST40).call hS53 hg53)
            refine hK.out _ _ ?_ (fun hHeld53 => ?_)
            · exact trivial
            clear hK K
            refine wpAnyH_ready (rs := [2, 12]) (by kernel_rfl) (by simp) ?_
            refine (AllReadyH.cons rfl (fun K hK => ?_) (AllReadyH.cons rfl (fun K hK => ?_) AllReadyH.nil))
            · go_simp
              have hlb54 : b < w53.heap.size := (unhide HST53).src.lt
              have L54 := hide (blk_new w53 [.int .i64 0, .int .i64 5, .int .i64 10000, .int .i64 10001] 2)
              have HST54 := hide ((unhide HST53).alloc (.cells #[.int .i64 0, .int .i64 5, .int .i64 10000, .int .i64 10001] 2))
              generalize w53.alloc (.cells #[.int .i64 0, .int .i64 5, .int .i64 10000, .int .i64 10001] 2) = v54 at L54 HST54 ⊢
              generalize w53.heap.size = lb54 at *
              refine hK.out _ _ ?_ (fun hHeld54 => ?_)
              · exact trivial
              clear hK K
              refine wpAnyH_take (i := 5) (v := ?_) rfl (by kernel_rfl) (by kernel_rfl) (by kernel_rfl) (fun _ _ _ h => h) (Or.inl ⟨by rfl, ?_⟩) (by assumption) ?_
              rotate_left
              · intro W0 hSw; (try dsimp only at hSw); go_simp <;> with_reducible rfl
              try simp only [Act.put, List.setIfInBounds_toArray, List.set_cons_zero, List.set_cons_succ]
              refine wpAnyH_ready (rs := [6, 12]) (by kernel_rfl) (by simp) ?_
              refine (AllReadyH.cons rfl (fun K hK => ?_) (AllReadyH.cons rfl (fun K hK => ?_) AllReadyH.nil))
              · obtain ⟨z55, hz55⟩ := lit_cell (unhide L54) (by simp) hi21n
                go_simp
                refine hK.out _ _ ?_ (fun hHeld55 => ?_)
                · exact trivial
                clear hK K
                refine wpAnyH_ready (rs := [12]) (by kernel_rfl) (by simp) ?_
                refine (AllReadyH.cons rfl (fun K hK => ?_) AllReadyH.nil)
                go_simp
                refine (one_any b 2 _ (unhide HST54).src (by omega)).mono ?_
                rintro e w56 ⟨y56, rfl, hS56, hg56⟩
                have HST56 := hide ((unhide HST54).call hS56 hg56)
                refine hK.out _ _ ?_ (fun hHeld56 => ?_)
                · exact trivial
                clear hK K
                refine wpAnyH_take (i := 13) (v := ?_) rfl (by kernel_rfl) (by kernel_rfl) (by kernel_rfl) (fun _ _ _ h => h) (Or.inl ⟨by rfl, ?_⟩) (by assumption) ?_
                rotate_left
                · intro W0 hSw; (try dsimp only at hSw); go_simp <;> with_reducible rfl
                try simp only [Act.put, List.setIfInBounds_toArray, List.set_cons_zero, List.set_cons_succ]
                refine wpAnyH_ready (rs := [14]) (by kernel_rfl) (by simp) ?_
                refine (AllReadyH.cons rfl (fun K hK => ?_) AllReadyH.nil)
                have r0 := (unhide HST56).res.cell 0 _ rfl
                have r1 := (unhide HST56).res.cell 1 _ rfl
                have r2 := (unhide HST56).res.cell 2 _ rfl
                have r3 := (unhide HST56).res.cell 3 _ rfl
                have r4 := (unhide HST56).res.cell 4 _ rfl
                have x0 := (unhide HST56).res.free 0
                have x1 := (unhide HST56).res.free 1
                have x2 := (unhide HST56).res.free 2
                have x3 := (unhide HST56).res.free 3
                have x4 := (unhide HST56).res.free 4
                have hEnd := (unhide HST56).ends (.int .i64 k1) (.int .i64 z55) (.int .i64 k40) (.int .i64 k53) (.bool y56)
                go_simp
                refine hK.out _ _ ?_ (fun hHeld57 => ?_)
                · exact trivial
                clear hK K
                refine wpAnyH_done (by kernel_rfl) ?_ _
                go_wp2_with fail
                exact bodyPost_ret (v := .agg #[.int .i64 k1, .int .i64 z55, .int .i64 k40, .int .i64 k53, .bool y56]) (by simp [results, Try.results38, go_sem, r0, r1, r2, r3, r4]) rfl (by first | exact ⟨_, _, _, _, _, rfl, hEnd.1, hEnd.2⟩ | exact ⟨⟨_, _, _, _, by first | exact .inl rfl | exact .inr rfl | (cases ed; exact .inl rfl; exact .inr rfl)⟩, hEnd.1, hEnd.2⟩)
              · go_simp
                refine (one_any b 2 _ (unhide HST54).src (by omega)).mono ?_
                rintro e w58 ⟨y58, rfl, hS58, hg58⟩
                have HST58 := hide ((unhide HST54).call hS58 hg58)
                have L58 := hide ((unhide L54).grownC hg58 (by omega))
                refine hK.out _ _ ?_ (fun hHeld58 => ?_)
                · exact trivial
                clear hK K
                refine wpAnyH_ready (rs := [6]) (by kernel_rfl) (by simp) ?_
                refine (AllReadyH.cons rfl (fun K hK => ?_) AllReadyH.nil)
                obtain ⟨z59, hz59⟩ := lit_cell (unhide L58) (by simp) hi21n
                go_simp
                refine hK.out _ _ ?_ (fun hHeld59 => ?_)
                · exact trivial
                clear hK K
                refine wpAnyH_take (i := 13) (v := ?_) rfl (by kernel_rfl) (by kernel_rfl) (by kernel_rfl) (fun _ _ _ h => h) (Or.inl ⟨by rfl, ?_⟩) (by assumption) ?_
                rotate_left
                · intro W0 hSw; (try dsimp only at hSw); go_simp <;> with_reducible rfl
                try simp only [Act.put, List.setIfInBounds_toArray, List.set_cons_zero, List.set_cons_succ]
                refine wpAnyH_ready (rs := [14]) (by kernel_rfl) (by simp) ?_
                refine (AllReadyH.cons rfl (fun K hK => ?_) AllReadyH.nil)
                have r0 := (unhide HST58).res.cell 0 _ rfl
                have r1 := (unhide HST58).res.cell 1 _ rfl
                have r2 := (unhide HST58).res.cell 2 _ rfl
                have r3 := (unhide HST58).res.cell 3 _ rfl
                have r4 := (unhide HST58).res.cell 4 _ rfl
                have x0 := (unhide HST58).res.free 0
                have x1 := (unhide HST58).res.free 1
                have x2 := (unhide HST58).res.free 2
                have x3 := (unhide HST58).res.free 3
                have x4 := (unhide HST58).res.free 4
                have hEnd := (unhide HST58).ends (.int .i64 k1) (.int .i64 z59) (.int .i64 k40) (.int .i64 k53) (.bool y58)
                go_simp
                refine hK.out _ _ ?_ (fun hHeld60 => ?_)
                · exact trivial
                clear hK K
                refine wpAnyH_done (by kernel_rfl) ?_ _
                go_wp2_with fail
                exact bodyPost_ret (v := .agg #[.int .i64 k1, .int .i64 z59, .int .i64 k40, .int .i64 k53, .bool y58]) (by simp [results, Try.results38, go_sem, r0, r1, r2, r3, r4]) rfl (by first | exact ⟨_, _, _, _, _, rfl, hEnd.1, hEnd.2⟩ | exact ⟨⟨_, _, _, _, by first | exact .inl rfl | exact .inr rfl | (cases ed; exact .inl rfl; exact .inr rfl)⟩, hEnd.1, hEnd.2⟩)
            · go_simp
              refine (one_any b 2 _ (unhide HST53).src (by omega)).mono ?_
              rintro e w61 ⟨y61, rfl, hS61, hg61⟩
              have HST61 := hide ((unhide HST53).call hS61 hg61)
              refine hK.out _ _ ?_ (fun hHeld61 => ?_)
              · exact trivial
              clear hK K
              refine wpAnyH_ready (rs := [2]) (by kernel_rfl) (by simp) ?_
              refine (AllReadyH.cons rfl (fun K hK => ?_) AllReadyH.nil)
              go_simp
              have hlb62 : b < w61.heap.size := (unhide HST61).src.lt
              have L62 := hide (blk_new w61 [.int .i64 0, .int .i64 5, .int .i64 10000, .int .i64 10001] 2)
              have HST62 := hide ((unhide HST61).alloc (.cells #[.int .i64 0, .int .i64 5, .int .i64 10000, .int .i64 10001] 2))
              generalize w61.alloc (.cells #[.int .i64 0, .int .i64 5, .int .i64 10000, .int .i64 10001] 2) = v62 at L62 HST62 ⊢
              generalize w61.heap.size = lb62 at *
              refine hK.out _ _ ?_ (fun hHeld62 => ?_)
              · exact trivial
              clear hK K
              refine wpAnyH_take (i := 5) (v := ?_) rfl (by kernel_rfl) (by kernel_rfl) (by kernel_rfl) (fun _ _ _ h => h) (Or.inl ⟨by rfl, ?_⟩) (by assumption) ?_
              rotate_left
              · intro W0 hSw; (try dsimp only at hSw); go_simp <;> with_reducible rfl
              try simp only [Act.put, List.setIfInBounds_toArray, List.set_cons_zero, List.set_cons_succ]
              refine wpAnyH_ready (rs := [6]) (by kernel_rfl) (by simp) ?_
              refine (AllReadyH.cons rfl (fun K hK => ?_) AllReadyH.nil)
              obtain ⟨z63, hz63⟩ := lit_cell (unhide L62) (by simp) hi21n
              go_simp
              refine hK.out _ _ ?_ (fun hHeld63 => ?_)
              · exact trivial
              clear hK K
              refine wpAnyH_take (i := 13) (v := ?_) rfl (by kernel_rfl) (by kernel_rfl) (by kernel_rfl) (fun _ _ _ h => h) (Or.inl ⟨by rfl, ?_⟩) (by assumption) ?_
              rotate_left
              · intro W0 hSw; (try dsimp only at hSw); go_simp <;> with_reducible rfl
              try simp only [Act.put, List.setIfInBounds_toArray, List.set_cons_zero, List.set_cons_succ]
              refine wpAnyH_ready (rs := [14]) (by kernel_rfl) (by simp) ?_
              refine (AllReadyH.cons rfl (fun K hK => ?_) AllReadyH.nil)
              have r0 := (unhide HST62).res.cell 0 _ rfl
              have r1 := (unhide HST62).res.cell 1 _ rfl
              have r2 := (unhide HST62).res.cell 2 _ rfl
              have r3 := (unhide HST62).res.cell 3 _ rfl
              have r4 := (unhide HST62).res.cell 4 _ rfl
              have x0 := (unhide HST62).res.free 0
              have x1 := (unhide HST62).res.free 1
              have x2 := (unhide HST62).res.free 2
              have x3 := (unhide HST62).res.free 3
              have x4 := (unhide HST62).res.free 4
              have hEnd := (unhide HST62).ends (.int .i64 k1) (.int .i64 z63) (.int .i64 k40) (.int .i64 k53) (.bool y61)
              go_simp
              refine hK.out _ _ ?_ (fun hHeld64 => ?_)
              · exact trivial
              clear hK K
              refine wpAnyH_done (by kernel_rfl) ?_ _
              go_wp2_with fail
              exact bodyPost_ret (v := .agg #[.int .i64 k1, .int .i64 z63, .int .i64 k40, .int .i64 k53, .bool y61]) (by simp [results, Try.results38, go_sem, r0, r1, r2, r3, r4]) rfl (by first | exact ⟨_, _, _, _, _, rfl, hEnd.1, hEnd.2⟩ | exact ⟨⟨_, _, _, _, by first | exact .inl rfl | exact .inr rfl | (cases ed; exact .inl rfl; exact .inr rfl)⟩, hEnd.1, hEnd.2⟩)
    · go_simp
      have hlb65 : b < V0.heap.size := (unhide HSd).src.lt
      have L65 := hide (blk_new V0 [.int .i64 0, .int .i64 5, .int .i64 10000, .int .i64 10001] 2)
      have HST65 := hide ((unhide HSd).alloc (.cells #[.int .i64 0, .int .i64 5, .int .i64 10000, .int .i64 10001] 2))
      generalize V0.alloc (.cells #[.int .i64 0, .int .i64 5, .int .i64 10000, .int .i64 10001] 2) = v65 at L65 HST65 ⊢
      generalize V0.heap.size = lb65 at *
      refine hK.out _ _ ?_ (fun hHeld65 => ?_)
      · exact trivial
      clear hK K
      refine wpAnyH_ready (rs := [1]) (by kernel_rfl) (by simp) ?_
      refine (AllReadyH.cons rfl (fun K hK => ?_) AllReadyH.nil)
      go_simp
      refine (n_any b 25 _ (unhide HST65).src (by omega)).mono ?_
      rintro e w66 ⟨k66, rfl, hk66a, hk66b, _, hS66, hg66⟩
      have HST66 := hide ((unhide HST65).call hS66 hg66)
      have L66 := hide ((unhide L65).grownC hg66 (by omega))
      refine hK.out _ _ ?_ (fun hHeld66 => ?_)
      · exact trivial
      clear hK K
      refine wpAnyH_ready (rs := [4]) (by kernel_rfl) (by simp) ?_
      refine (AllReadyH.cons rfl (fun K hK => ?_) AllReadyH.nil)
      go_simp
      refine (n_any b 4 _ (unhide HST66).src (by omega)).mono ?_
      rintro e w67 ⟨k67, rfl, hk67a, hk67b, _, hS67, hg67⟩
      have HST67 := hide ((unhide HST66).call hS67 hg67)
      have L67 := hide ((unhide L66).grownC hg67 (by omega))
      obtain ⟨i67, hi67⟩ := Int.eq_ofNat_of_zero_le hk67a
      have hk67c := hk67b (by omega)
      subst hi67
      have hi67n : i67 < 4 := by omega
      have hi67m : (i67 : Int) < 4 := by omega
      refine hK.out _ _ ?_ (fun hHeld67 => ?_)
      · exact trivial
      clear hK K
      refine wpAnyH_take (i := 5) (v := ?_) rfl (by kernel_rfl) (by kernel_rfl) (by kernel_rfl) (fun _ _ _ h => h) (Or.inl ⟨by rfl, ?_⟩) (by assumption) ?_
      rotate_left
      · intro W0 hSw; (try dsimp only at hSw); go_simp <;> with_reducible rfl
      try simp only [Act.put, List.setIfInBounds_toArray, List.set_cons_zero, List.set_cons_succ]
      refine wpAnyH_ready (rs := [6, 8]) (by kernel_rfl) (by simp) ?_
      refine (AllReadyH.cons rfl (fun K hK => ?_) (AllReadyH.cons rfl (fun K hK => ?_) AllReadyH.nil))
      · obtain ⟨z68, hz68⟩ := lit_cell (unhide L67) (by simp) hi67n
        go_simp
        refine hK.out _ _ ?_ (fun hHeld68 => ?_)
        · exact trivial
        clear hK K
        refine wpAnyH_ready (rs := [8]) (by kernel_rfl) (by simp) ?_
        refine (AllReadyH.cons rfl (fun K hK => ?_) AllReadyH.nil)
        go_simp
        refine (n_any b 90 _ (unhide HST67).src (by omega)).mono ?_
        rintro e w69 ⟨k69, rfl, hk69a, hk69b, _, hS69, hg69⟩
        have HST69 := hide ((unhide HST67).call hS69 hg69)
        refine hK.out _ _ ?_ (fun hHeld69 => ?_)
        · exact trivial
        clear hK K
        refine wpAnyH_ready (rs := [10]) (by kernel_rfl) (by simp) ?_
        refine (AllReadyH.cons rfl (fun K hK => ?_) AllReadyH.nil)
        go_simp
        refine (n_any b 90 _ (unhide HST69).src (by omega)).mono ?_
        rintro e w70 ⟨k70, rfl, hk70a, hk70b, _, hS70, hg70⟩
        have HST70 := hide ((unhide HST69).call hS70 hg70)
        refine hK.out _ _ ?_ (fun hHeld70 => ?_)
        · exact trivial
        clear hK K
        refine wpAnyH_ready (rs := [12]) (by kernel_rfl) (by simp) ?_
        refine (AllReadyH.cons rfl (fun K hK => ?_) AllReadyH.nil)
        go_simp
        refine (one_any b 2 _ (unhide HST70).src (by omega)).mono ?_
        rintro e w71 ⟨y71, rfl, hS71, hg71⟩
        have HST71 := hide ((unhide HST70).call hS71 hg71)
        refine hK.out _ _ ?_ (fun hHeld71 => ?_)
        · exact trivial
        clear hK K
        refine wpAnyH_take (i := 13) (v := ?_) rfl (by kernel_rfl) (by kernel_rfl) (by kernel_rfl) (fun _ _ _ h => h) (Or.inl ⟨by rfl, ?_⟩) (by assumption) ?_
        rotate_left
        · intro W0 hSw; (try dsimp only at hSw); go_simp <;> with_reducible rfl
        try simp only [Act.put, List.setIfInBounds_toArray, List.set_cons_zero, List.set_cons_succ]
        refine wpAnyH_ready (rs := [14]) (by kernel_rfl) (by simp) ?_
        refine (AllReadyH.cons rfl (fun K hK => ?_) AllReadyH.nil)
        have r0 := (unhide HST71).res.cell 0 _ rfl
        have r1 := (unhide HST71).res.cell 1 _ rfl
        have r2 := (unhide HST71).res.cell 2 _ rfl
        have r3 := (unhide HST71).res.cell 3 _ rfl
        have r4 := (unhide HST71).res.cell 4 _ rfl
        have x0 := (unhide HST71).res.free 0
        have x1 := (unhide HST71).res.free 1
        have x2 := (unhide HST71).res.free 2
        have x3 := (unhide HST71).res.free 3
        have x4 := (unhide HST71).res.free 4
        have hEnd := (unhide HST71).ends (.int .i64 k66) (.int .i64 z68) (.int .i64 k69) (.int .i64 k70) (.bool y71)
        go_simp
        refine hK.out _ _ ?_ (fun hHeld72 => ?_)
        · exact trivial
        clear hK K
        refine wpAnyH_done (by kernel_rfl) ?_ _
        go_wp2_with fail
        exact bodyPost_ret (v := .agg #[.int .i64 k66, .int .i64 z68, .int .i64 k69, .int .i64 k70, .bool y71]) (by simp [results, Try.results38, go_sem, r0, r1, r2, r3, r4]) rfl (by first | exact ⟨_, _, _, _, _, rfl, hEnd.1, hEnd.2⟩ | exact ⟨⟨_, _, _, _, by first | exact .inl rfl | exact .inr rfl | (cases ed; exact .inl rfl; exact .inr rfl)⟩, hEnd.1, hEnd.2⟩)
      · go_simp
        refine (n_any b 90 _ (unhide HST67).src (by omega)).mono ?_
        rintro e w73 ⟨k73, rfl, hk73a, hk73b, _, hS73, hg73⟩
        have HST73 := hide ((unhide HST67).call hS73 hg73)
        have L73 := hide ((unhide L67).grownC hg73 (by omega))
        refine hK.out _ _ ?_ (fun hHeld73 => ?_)
        · exact trivial
        clear hK K
        refine wpAnyH_ready (rs := [6, 10]) (by kernel_rfl) (by simp) ?_
        refine (AllReadyH.cons rfl (fun K hK => ?_) (AllReadyH.cons rfl (fun K hK => ?_) AllReadyH.nil))
        · obtain ⟨z74, hz74⟩ := lit_cell (unhide L73) (by simp) hi67n
          go_simp
          refine hK.out _ _ ?_ (fun hHeld74 => ?_)
          · exact trivial
          clear hK K
          refine wpAnyH_ready (rs := [10]) (by kernel_rfl) (by simp) ?_
          refine (AllReadyH.cons rfl (fun K hK => ?_) AllReadyH.nil)
          go_simp
          refine (n_any b 90 _ (unhide HST73).src (by omega)).mono ?_
          rintro e w75 ⟨k75, rfl, hk75a, hk75b, _, hS75, hg75⟩
          have HST75 := hide ((unhide HST73).call hS75 hg75)
          refine hK.out _ _ ?_ (fun hHeld75 => ?_)
          · exact trivial
          clear hK K
          refine wpAnyH_ready (rs := [12]) (by kernel_rfl) (by simp) ?_
          refine (AllReadyH.cons rfl (fun K hK => ?_) AllReadyH.nil)
          go_simp
          refine (one_any b 2 _ (unhide HST75).src (by omega)).mono ?_
          rintro e w76 ⟨y76, rfl, hS76, hg76⟩
          have HST76 := hide ((unhide HST75).call hS76 hg76)
          refine hK.out _ _ ?_ (fun hHeld76 => ?_)
          · exact trivial
          clear hK K
          refine wpAnyH_take (i := 13) (v := ?_) rfl (by kernel_rfl) (by kernel_rfl) (by kernel_rfl) (fun _ _ _ h => h) (Or.inl ⟨by rfl, ?_⟩) (by assumption) ?_
          rotate_left
          · intro W0 hSw; (try dsimp only at hSw); go_simp <;> with_reducible rfl
          try simp only [Act.put, List.setIfInBounds_toArray, List.set_cons_zero, List.set_cons_succ]
          refine wpAnyH_ready (rs := [14]) (by kernel_rfl) (by simp) ?_
          refine (AllReadyH.cons rfl (fun K hK => ?_) AllReadyH.nil)
          have r0 := (unhide HST76).res.cell 0 _ rfl
          have r1 := (unhide HST76).res.cell 1 _ rfl
          have r2 := (unhide HST76).res.cell 2 _ rfl
          have r3 := (unhide HST76).res.cell 3 _ rfl
          have r4 := (unhide HST76).res.cell 4 _ rfl
          have x0 := (unhide HST76).res.free 0
          have x1 := (unhide HST76).res.free 1
          have x2 := (unhide HST76).res.free 2
          have x3 := (unhide HST76).res.free 3
          have x4 := (unhide HST76).res.free 4
          have hEnd := (unhide HST76).ends (.int .i64 k66) (.int .i64 z74) (.int .i64 k73) (.int .i64 k75) (.bool y76)
          go_simp
          refine hK.out _ _ ?_ (fun hHeld77 => ?_)
          · exact trivial
          clear hK K
          refine wpAnyH_done (by kernel_rfl) ?_ _
          go_wp2_with fail
          exact bodyPost_ret (v := .agg #[.int .i64 k66, .int .i64 z74, .int .i64 k73, .int .i64 k75, .bool y76]) (by simp [results, Try.results38, go_sem, r0, r1, r2, r3, r4]) rfl (by first | exact ⟨_, _, _, _, _, rfl, hEnd.1, hEnd.2⟩ | exact ⟨⟨_, _, _, _, by first | exact .inl rfl | exact .inr rfl | (cases ed; exact .inl rfl; exact .inr rfl)⟩, hEnd.1, hEnd.2⟩)
        · go_simp
          refine (n_any b 90 _ (unhide HST73).src (by omega)).mono ?_
          rintro e w78 ⟨k78, rfl, hk78a, hk78b, _, hS78, hg78⟩
          have HST78 := hide ((unhide HST73).call hS78 hg78)
          have L78 := hide ((unhide L73).grownC hg78 (by omega))
          refine hK.out _ _ ?_ (fun hHeld78 => ?_)
          · exact trivial
          clear hK K
          refine wpAnyH_ready (rs := [6, 12]) (by kernel_rfl) (by simp) ?_
          refine (AllReadyH.cons rfl (fun K hK => ?_) (AllReadyH.cons rfl (fun K hK => ?_) AllReadyH.nil))
          · obtain ⟨z79, hz79⟩ := lit_cell (unhide L78) (by simp) hi67n
            go_simp
            refine hK.out _ _ ?_ (fun hHeld79 => ?_)
            · exact trivial
            clear hK K
            refine wpAnyH_ready (rs := [12]) (by kernel_rfl) (by simp) ?_
            refine (AllReadyH.cons rfl (fun K hK => ?_) AllReadyH.nil)
            go_simp
            refine (one_any b 2 _ (unhide HST78).src (by omega)).mono ?_
            rintro e w80 ⟨y80, rfl, hS80, hg80⟩
            have HST80 := hide ((unhide HST78).call hS80 hg80)
            refine hK.out _ _ ?_ (fun hHeld80 => ?_)
            · exact trivial
            clear hK K
            refine wpAnyH_take (i := 13) (v := ?_) rfl (by kernel_rfl) (by kernel_rfl) (by kernel_rfl) (fun _ _ _ h => h) (Or.inl ⟨by rfl, ?_⟩) (by assumption) ?_
            rotate_left
            · intro W0 hSw; (try dsimp only at hSw); go_simp <;> with_reducible rfl
            try simp only [Act.put, List.setIfInBounds_toArray, List.set_cons_zero, List.set_cons_succ]
            refine wpAnyH_ready (rs := [14]) (by kernel_rfl) (by simp) ?_
            refine (AllReadyH.cons rfl (fun K hK => ?_) AllReadyH.nil)
            have r0 := (unhide HST80).res.cell 0 _ rfl
            have r1 := (unhide HST80).res.cell 1 _ rfl
            have r2 := (unhide HST80).res.cell 2 _ rfl
            have r3 := (unhide HST80).res.cell 3 _ rfl
            have r4 := (unhide HST80).res.cell 4 _ rfl
            have x0 := (unhide HST80).res.free 0
            have x1 := (unhide HST80).res.free 1
            have x2 := (unhide HST80).res.free 2
            have x3 := (unhide HST80).res.free 3
            have x4 := (unhide HST80).res.free 4
            have hEnd := (unhide HST80).ends (.int .i64 k66) (.int .i64 z79) (.int .i64 k73) (.int .i64 k78) (.bool y80)
            go_simp
            refine hK.out _ _ ?_ (fun hHeld81 => ?_)
            · exact trivial
            clear hK K
            refine wpAnyH_done (by kernel_rfl) ?_ _
            go_wp2_with fail
            exact bodyPost_ret (v := .agg #[.int .i64 k66, .int .i64 z79, .int .i64 k73, .int .i64 k78, .bool y80]) (by simp [results, Try.results38, go_sem, r0, r1, r2, r3, r4]) rfl (by first | exact ⟨_, _, _, _, _, rfl, hEnd.1, hEnd.2⟩ | exact ⟨⟨_, _, _, _, by first | exact .inl rfl | exact .inr rfl | (cases ed; exact .inl rfl; exact .inr rfl)⟩, hEnd.1, hEnd.2⟩)
          · go_simp
            refine (one_any b 2 _ (unhide HST78).src (by omega)).mono ?_
            rintro e w82 ⟨y82, rfl, hS82, hg82⟩
            have HST82 := hide ((unhide HST78).call hS82 hg82)
            have L82 := hide ((unhide L78).grownC hg82 (by omega))
            refine hK.out _ _ ?_ (fun hHeld82 => ?_)
            · exact trivial
            clear hK K
            refine wpAnyH_ready (rs := [6]) (by kernel_rfl) (by simp) ?_
            refine (AllReadyH.cons rfl (fun K hK => ?_) AllReadyH.nil)
            obtain ⟨z83, hz83⟩ := lit_cell (unhide L82) (by simp) hi67n
            go_simp
            refine hK.out _ _ ?_ (fun hHeld83 => ?_)
            · exact trivial
            clear hK K
            refine wpAnyH_take (i := 13) (v := ?_) rfl (by kernel_rfl) (by kernel_rfl) (by kernel_rfl) (fun _ _ _ h => h) (Or.inl ⟨by rfl, ?_⟩) (by assumption) ?_
            rotate_left
            · intro W0 hSw; (try dsimp only at hSw); go_simp <;> with_reducible rfl
            try simp only [Act.put, List.setIfInBounds_toArray, List.set_cons_zero, List.set_cons_succ]
            refine wpAnyH_ready (rs := [14]) (by kernel_rfl) (by simp) ?_
            refine (AllReadyH.cons rfl (fun K hK => ?_) AllReadyH.nil)
            have r0 := (unhide HST82).res.cell 0 _ rfl
            have r1 := (unhide HST82).res.cell 1 _ rfl
            have r2 := (unhide HST82).res.cell 2 _ rfl
            have r3 := (unhide HST82).res.cell 3 _ rfl
            have r4 := (unhide HST82).res.cell 4 _ rfl
            have x0 := (unhide HST82).res.free 0
            have x1 := (unhide HST82).res.free 1
            have x2 := (unhide HST82).res.free 2
            have x3 := (unhide HST82).res.free 3
            have x4 := (unhide HST82).res.free 4
            have hEnd := (unhide HST82).ends (.int .i64 k66) (.int .i64 z83) (.int .i64 k73) (.int .i64 k78) (.bool y82)
            go_simp
            refine hK.out _ _ ?_ (fun hHeld84 => ?_)
            · exact trivial
            clear hK K
            refine wpAnyH_done (by kernel_rfl) ?_ _
            go_wp2_with fail
            exact bodyPost_ret (v := .agg #[.int .i64 k66, .int .i64 z83, .int .i64 k73, .int .i64 k78, .bool y82]) (by simp [results, Try.results38, go_sem, r0, r1, r2, r3, r4]) rfl (by first | exact ⟨_, _, _, _, _, rfl, hEnd.1, hEnd.2⟩ | exact ⟨⟨_, _, _, _, by first | exact .inl rfl | exact .inr rfl | (cases ed; exact .inl rfl; exact .inr rfl)⟩, hEnd.1, hEnd.2⟩)
  · have hn0 := hy rfl
    obtain ⟨B, hO, hbB⟩ := unhide HO
    obtain ⟨b0, hb0⟩ : ∃ b0, S[0]? = some b0 := ⟨S[0]'(by rw [unhide HSL]; exact hn0), List.getElem?_eq_getElem _⟩
    obtain ⟨g, ha, _, _, _⟩ := blob_cells hO (unhide HSL).symm 0 b0 hb0
    subst ha
    have x0 := (unhide HX).cell 0 _ rfl
    go_wp2_with fail
    refine wp_region_held_drew (S := (fun w' => w'.cell? ⟨xb, 0, none⟩ = some (.slice (some ⟨g, 0, none⟩) n c1))) (by kernel_rfl) x0 (fun hHeld => ?_)
    have HSd := hide (unhide HST).drewn
    refine wpAnyH_take (i := 0) (v := ?_) rfl (by kernel_rfl) (by kernel_rfl) (by kernel_rfl) (fun _ _ _ h => h) (Or.inl ⟨by rfl, ?_⟩) (by assumption) ?_
    rotate_left
    · intro W0 hSw; (try dsimp only at hSw); go_simp <;> with_reducible rfl
    try simp only [Act.put, List.setIfInBounds_toArray, List.set_cons_zero, List.set_cons_succ]
    refine wpAnyH_take (i := 1) (v := ?_) rfl (by kernel_rfl) (by kernel_rfl) (by kernel_rfl) (fun _ _ _ h => h) (Or.inl ⟨by rfl, ?_⟩) (by assumption) ?_
    rotate_left
    · intro W0 hSw; (try dsimp only at hSw); go_simp <;> with_reducible rfl
    try simp only [Act.put, List.setIfInBounds_toArray, List.set_cons_zero, List.set_cons_succ]
    refine wpAnyH_take (i := 2) (v := ?_) rfl (by kernel_rfl) (by kernel_rfl) (by kernel_rfl) (fun _ _ _ h => h) (Or.inl ⟨by rfl, ?_⟩) (by assumption) ?_
    rotate_left
    · intro W0 hSw; (try dsimp only at hSw); go_simp <;> with_reducible rfl
    try simp only [Act.put, List.setIfInBounds_toArray, List.set_cons_zero, List.set_cons_succ]
    refine wpAnyH_take (i := 3) (v := ?_) rfl (by kernel_rfl) (by kernel_rfl) (by kernel_rfl) (fun _ _ _ h => h) (Or.inl ⟨by rfl, ?_⟩) (by assumption) ?_
    rotate_left
    · intro W0 hSw; (try dsimp only at hSw); go_simp <;> with_reducible rfl
    try simp only [Act.put, List.setIfInBounds_toArray, List.set_cons_zero, List.set_cons_succ]
    refine wpAnyH_take (i := 4) (v := ?_) rfl (by kernel_rfl) (by kernel_rfl) (by kernel_rfl) (fun _ _ _ h => h) (Or.inl ⟨by rfl, ?_⟩) (by assumption) ?_
    rotate_left
    · intro W0 hSw; (try dsimp only at hSw); go_simp <;> with_reducible rfl
    try simp only [Act.put, List.setIfInBounds_toArray, List.set_cons_zero, List.set_cons_succ]
    refine wpAnyH_take (i := 5) (v := ?_) rfl (by kernel_rfl) (by kernel_rfl) (by kernel_rfl) (fun _ _ _ h => h) (Or.inl ⟨by rfl, ?_⟩) (by assumption) ?_
    rotate_left
    · intro W0 hSw; (try dsimp only at hSw); go_simp <;> with_reducible rfl
    try simp only [Act.put, List.setIfInBounds_toArray, List.set_cons_zero, List.set_cons_succ]
    refine wpAnyH_ready (rs := [6]) (by kernel_rfl) (by simp) ?_
    refine (AllReadyH.cons rfl (fun K hK => ?_) AllReadyH.nil)
    go_simp
    refine (n_any b (n : Int) _ (unhide HSd).src (by omega)).mono ?_
    rintro e w1 ⟨k1, rfl, hk1a, hk1b, hk1d, hS1, hg1⟩
    obtain ⟨i1, rfl⟩ := Int.eq_ofNat_of_zero_le hk1a
    have hi1 : i1 < n := by by_cases h1 : (1 : Int) < (n : Int); (have := hk1b h1; omega); (have := hk1d (by omega); omega)
    have HST1 := hide ((unhide HSd).call hS1 hg1)
    have HX1 := hide ((unhide HX).drewn.grownC hg1 (by omega))
    have hO1 := World.ownsRow.kept (show wc.drew.ownsRow B 40 5 (.slice (some ⟨g, 0, none⟩) n c1) n (flatB S) from hO) hg1 (by cases hv : (Value.slice (some ⟨g, 0, none⟩) n c1).ownBlock with | none => exact .inl rfl | some z => exact .inr (fun e => by have h1 := (hO.lt z hv).1; have h2 := Option.some.inj e; omega))
    obtain ⟨bb, hSi1⟩ : ∃ bb, S[i1]? = some bb := ⟨_, List.getElem?_eq_getElem (show i1 < S.length by rw [unhide HSL]; exact hi1)⟩
    obtain ⟨g', hge, _, _, c0, c1', c2, c3, c4⟩ := blob_cells hO1 (unhide HSL).symm i1 _ hSi1
    obtain rfl : g = g' := by injection hge with e; injection e
    obtain ⟨ar, su, sx, sy, ed⟩ := bb
    simp only at c0 c1' c2 c3 c4
    have hi1m : (i1 : Int) < (n : Int) := by omega
    have y0 := (unhide HX1).cell 0 _ rfl
    refine hK.out _ _ ?_ (fun hHeld1 => ?_)
    · exact y0
    clear hK K
    refine wpAnyH_take (i := 7) (v := ?_) rfl (by kernel_rfl) (by kernel_rfl) (by kernel_rfl) (fun _ _ _ h => h) (Or.inl ⟨by rfl, ?_⟩) (by assumption) ?_
    rotate_left
    · intro W0 hSw; (try dsimp only at hSw); go_simp <;> with_reducible rfl
    try simp only [Act.put, List.setIfInBounds_toArray, List.set_cons_zero, List.set_cons_succ]
    refine wpAnyH_ready (rs := [8]) (by kernel_rfl) (by simp) ?_
    refine (AllReadyH.cons rfl (fun K hK => ?_) AllReadyH.nil)
    go_simp
    refine hK.out _ _ ?_ (fun hHeld2 => ?_)
    · exact y0
    clear hK K
    refine wpAnyH_ready (rs := [9]) (by kernel_rfl) (by simp) ?_
    refine (AllReadyH.cons rfl (fun K hK => ?_) AllReadyH.nil)
    have r0 := (unhide HST1).res.cell 0 _ rfl
    have r1 := (unhide HST1).res.cell 1 _ rfl
    have r2 := (unhide HST1).res.cell 2 _ rfl
    have r3 := (unhide HST1).res.cell 3 _ rfl
    have r4 := (unhide HST1).res.cell 4 _ rfl
    have x0 := (unhide HST1).res.free 0
    have x1 := (unhide HST1).res.free 1
    have x2 := (unhide HST1).res.free 2
    have x3 := (unhide HST1).res.free 3
    have x4 := (unhide HST1).res.free 4
    have hEnd := (unhide HST1).ends (.int .i64 (ar : Int)) (.int .i64 (su : Int)) (.int .i64 (sx : Int)) (.int .i64 (sy : Int)) (.bool ed)
    have hxb : xb ≠ rb := hxr
    go_simp
    refine hK.out _ _ ?_ (fun hHeld3 => ?_)
    · exact (by (rw [World.cell?_of_block (w := w1) (by rw [heap_setCell_other _ _ _ _ (by exact hxr), heap_setCell_other _ _ _ _ (by exact hxr), heap_setCell_other _ _ _ _ (by exact hxr), heap_setCell_other _ _ _ _ (by exact hxr), heap_setCell_other _ _ _ _ (by exact hxr)])]; exact y0))
    clear hK K
    refine wpAnyH_done (by kernel_rfl) ?_ _
    go_wp2_with fail
    exact bodyPost_ret (v := .agg #[.int .i64 (ar : Int), .int .i64 (su : Int), .int .i64 (sx : Int), .int .i64 (sy : Int), .bool ed]) (by simp [results, Try.results38, go_sem, r0, r1, r2, r3, r4]) rfl (by first | exact ⟨_, _, _, _, _, rfl, hEnd.1, hEnd.2⟩ | exact ⟨⟨_, _, _, _, by first | exact .inl rfl | exact .inr rfl | (cases ed; exact .inl rfl; exact .inr rfl)⟩, hEnd.1, hEnd.2⟩)
end Go.Proofs.Ytmacbegchdjdnaa
