/- What the law on spots draws: a blob, its frame, a length. -/
import Derived.Test.YtmacbegchdjdnaaDrH
namespace Go.Proofs.Ytmacbegchdjdnaa
open Go.RowKit Go.Sort
set_option linter.unusedVariables false
set_option linter.unusedSimpArgs false

/-- what lies in memory while a law's inputs are drawn: the source, and blocks that are new -/
structure Dw (w wr : World) (sb : Nat) (bs : List (Nat × List Value × TypeId)) : Prop where
  src : SrcAt sb wr
  bel : Below w.heap.size w wr
  lo : w.heap.size ≤ sb
  bl : ∀ (k : Nat) (x : Nat × List Value × TypeId), bs[k]? = some x → Blk wr x.1 x.2.1 x.2.2 ∧ x.1 ≠ sb ∧ w.heap.size ≤ x.1
theorem Dw.at' {w wr : World} {sb : Nat} {bs : List (Nat × List Value × TypeId)} (h : Dw w wr sb bs) (k : Nat) (x : Nat × List Value × TypeId) (e : bs[k]? = some x) : Blk wr x.1 x.2.1 x.2.2 := (h.bl k x e).1
theorem Dw.call {w wr wy : World} {sb : Nat} {bs : List (Nat × List Value × TypeId)} (h : Dw w wr sb bs) (hS : SrcAt sb wy) (hg : wr.grownBy wy (some sb)) : Dw w wy sb bs :=
  ⟨hS, belowG h.bel hg h.lo h.bel.size, h.lo, fun k x e => ⟨(h.bl k x e).1.grownC hg (h.bl k x e).2.1, (h.bl k x e).2⟩⟩
theorem Dw.alloc {w wr : World} {sb : Nat} {bs : List (Nat × List Value × TypeId)} (h : Dw w wr sb bs) (cs : List Value) (t : TypeId) : Dw w (wr.alloc (.cells cs.toArray t)) sb ((wr.heap.size, cs, t) :: bs) :=
  ⟨h.src.allocsF _, h.bel.alloc h.bel.size _, h.lo, fun k x e => by
    cases k with
    | zero => cases e; exact ⟨blk_new wr cs t, by have := h.src.lt; show wr.heap.size ≠ sb; omega, h.bel.size⟩
    | succ k => exact ⟨(h.bl k x e).1.alloc _, (h.bl k x e).2⟩⟩
theorem Dw.drewn {w wr : World} {sb : Nat} {bs : List (Nat × List Value × TypeId)} (h : Dw w wr sb bs) : Dw w wr.drew sb bs :=
  ⟨h.src.drewF, h.bel.drew, h.lo, h.bl⟩
theorem Dw.pick {w wr : World} {sb : Nat} {bs bs' : List (Nat × List Value × TypeId)} (h : Dw w wr sb bs) (hs : ∀ x ∈ bs', x ∈ bs) : Dw w wr sb bs' :=
  ⟨h.src, h.bel, h.lo, fun k x e => by obtain ⟨j, hj⟩ := List.mem_iff_getElem?.1 (hs x (List.mem_of_getElem? e)); exact h.bl j x hj⟩
/-- the same without the source -/
structure Db (w wr : World) (bs : List (Nat × List Value × TypeId)) : Prop where
  bel : Below w.heap.size w wr
  bl : ∀ (k : Nat) (x : Nat × List Value × TypeId), bs[k]? = some x → Blk wr x.1 x.2.1 x.2.2 ∧ w.heap.size ≤ x.1
theorem Dw.db {w wr : World} {sb : Nat} {bs : List (Nat × List Value × TypeId)} (h : Dw w wr sb bs) : Db w wr bs := ⟨h.bel, fun k x e => ⟨(h.bl k x e).1, (h.bl k x e).2.2⟩⟩
theorem Db.at' {w wr : World} {bs : List (Nat × List Value × TypeId)} (h : Db w wr bs) (k : Nat) (x : Nat × List Value × TypeId) (e : bs[k]? = some x) : Blk wr x.1 x.2.1 x.2.2 := (h.bl k x e).1
theorem Db.pick {w wr : World} {bs bs' : List (Nat × List Value × TypeId)} (h : Db w wr bs) (hs : ∀ x ∈ bs', x ∈ bs) : Db w wr bs' :=
  ⟨h.bel, fun k x e => by obtain ⟨j, hj⟩ := List.mem_iff_getElem?.1 (hs x (List.mem_of_getElem? e)); exact h.bl j x hj⟩
theorem Db.alloc {w wr : World} {bs : List (Nat × List Value × TypeId)} (h : Db w wr bs) (cs : List Value) (t : TypeId) : Db w (wr.alloc (.cells cs.toArray t)) ((wr.heap.size, cs, t) :: bs) :=
  ⟨h.bel.alloc h.bel.size _, fun k x e => by
    cases k with
    | zero => cases e; exact ⟨blk_new wr cs t, h.bel.size⟩
    | succ k => exact ⟨(h.bl k x e).1.alloc _, (h.bl k x e).2⟩⟩
/-- a cell of one block is written: the others are as they were -/
theorem Db.set {w wr : World} {bs : List (Nat × List Value × TypeId)} {b : Nat} {cs : List Value} {t : TypeId} (h : Db w wr ((b, cs, t) :: bs)) (hy : ∀ x ∈ bs, x.1 ≠ b) (i : Nat) (v : Value) : Db w (wr.setCell ⟨b, i, none⟩ v) ((b, cs.set i v, t) :: bs) := by
  have h0 := h.bl 0 _ rfl
  refine ⟨h.bel.setCell h0.2 _, fun k x e => ?_⟩
  cases k with
  | zero => cases e; exact ⟨h0.1.set i v, h0.2⟩
  | succ k => exact ⟨(h.bl (k + 1) x e).1.other _ _ (hy x (List.mem_of_getElem? e)), (h.bl (k + 1) x e).2⟩
theorem dw_start {w w0 w1 : World} (hB : Below w.heap.size w w0) (bs : List (Nat × List Value × TypeId)) (hb : ∀ (k : Nat) (x : Nat × List Value × TypeId), bs[k]? = some x → Blk w0 x.1 x.2.1 x.2.2 ∧ w.heap.size ≤ x.1) (hS : SrcAt w0.heap.size w1) (hx : Below w0.heap.size w0 w1) : Dw w w1 w0.heap.size bs :=
  ⟨hS, below_call hB hx, hB.size, fun k x e => ⟨(hb k x e).1.kept hx, by have := (hb k x e).1.lt; omega, (hb k x e).2⟩⟩
set_option maxHeartbeats 8000000 in
set_option maxRecDepth 100000 in
theorem drawSpotOf_any (a : Option Addr) (len cap : Nat) (w : World) (hl : len ≤ 1048576) (hR : Row w a len w.heap.size) :
    Calls Try.prog 17 #[.slice a len cap] w fun e w' => (∃ (ar su sx sy : Int) (ed : Bool) (wd ht : Int) (s : ByteArray) (fo : Int), s.size ≤ 200 ∧ e = .returned (.tuple #[.agg #[.int .i64 ar, .int .i64 su, .int .i64 sx, .int .i64 sy, .bool ed], .agg #[.int .i64 wd, .int .i64 ht, .string s], .int .i64 fo])) ∧ Below w.heap.size w w' := by
  have B0 := below2 w (.cells #[.int .i64 0, .int .i64 0, .int .i64 0, .int .i64 0, .bool false] 40) (.cells #[.int .i64 0, .int .i64 0, .string ⟨#[]⟩] 24)
  have R0 := (blk_new w [.int .i64 0, .int .i64 0, .int .i64 0, .int .i64 0, .bool false] 40).alloc (.cells #[.int .i64 0, .int .i64 0, .string ⟨#[]⟩] 24)
  have Q0 := blk_new (w.alloc (.cells #[.int .i64 0, .int .i64 0, .int .i64 0, .int .i64 0, .bool false] 40)) [.int .i64 0, .int .i64 0, .string ⟨#[]⟩] 24
  have e1 : (w.alloc (.cells #[.int .i64 0, .int .i64 0, .int .i64 0, .int .i64 0, .bool false] 40)).heap.size = w.heap.size + 1 := by simp
  rw [e1] at Q0
  go_enter Try.func17, Try.ntmps17
  go_wp2_with fail
  generalize (w.alloc (.cells #[.int .i64 0, .int .i64 0, .int .i64 0, .int .i64 0, .bool false] 40)).alloc (.cells #[.int .i64 0, .int .i64 0, .string ⟨#[]⟩] 24) = W0 at B0 R0 Q0 ⊢
  refine (source_any a len cap _ hl (hR.belowF B0)).mono ?_
  rintro e W1 ⟨rfl, hS1, hx⟩
  have H1 := hide (dw_start B0 [(w.heap.size, [.int .i64 0, .int .i64 0, .int .i64 0, .int .i64 0, .bool false], 40), (w.heap.size + 1, [.int .i64 0, .int .i64 0, .string ⟨#[]⟩], 24)] (fun k x e => by
    match k, e with
    | 0, e => cases e; exact ⟨R0, Nat.le_refl _⟩
    | 1, e => cases e; exact ⟨Q0, by show w.heap.size ≤ w.heap.size + 1; omega⟩) hS1 hx)
  have hsb : w.heap.size + 1 < W0.heap.size := Q0.lt
  generalize W0.heap.size = sb at *
  clear hx B0 R0 Q0 e1 hS1
  go_wp2_with fail
  refine (l05Frame_any sb _ (unhide H1).src).mono ?_
  rintro e W2 ⟨wd, ht, s, rfl, hs, hS2, hg2⟩
  have H2 := hide (((unhide H1).call hS2 hg2).alloc [.int .i64 wd, .int .i64 ht, .string s] 24)
  have hlt2 := hS2.lt
  clear H1 hS2 hg2
  go_wp2_with fail
  generalize W2.alloc (.cells #[.int .i64 wd, .int .i64 ht, .string s] 24) = W3 at H2 ⊢
  generalize W2.heap.size = fb at *
  have f0 := ((unhide H2).at' 0 _ rfl).cell 0 _ rfl
  have f1 := ((unhide H2).at' 0 _ rfl).cell 1 _ rfl
  have f2 := ((unhide H2).at' 0 _ rfl).cell 2 _ rfl
  have hfb := ((unhide H2).at' 0 _ rfl).lt
  go_wp2_with fail
  clear f0 f1 f2
  refine (l05Blob_any sb wd ht s _ hs (unhide H2).src).mono ?_
  rintro e W4 ⟨ar, su, sx, sy, ed, rfl, hS4, hg4⟩
  have hlt4 := Nat.lt_of_lt_of_le hfb hg4.size
  have H4 := hide (((unhide H2).call hS4 hg4).alloc [.int .i64 ar, .int .i64 su, .int .i64 sx, .int .i64 sy, .bool ed] 40)
  clear H2 hS4 hg4
  go_wp2_with fail
  generalize W4.alloc (.cells #[.int .i64 ar, .int .i64 su, .int .i64 sx, .int .i64 sy, .bool ed] 40) = W5 at H4 ⊢
  generalize W4.heap.size = db at *
  have f0 := ((unhide H4).at' 1 _ rfl).cell 0 _ rfl
  have f1 := ((unhide H4).at' 1 _ rfl).cell 1 _ rfl
  have f2 := ((unhide H4).at' 1 _ rfl).cell 2 _ rfl
  have d0 := ((unhide H4).at' 0 _ rfl).cell 0 _ rfl
  have d1 := ((unhide H4).at' 0 _ rfl).cell 1 _ rfl
  have d2 := ((unhide H4).at' 0 _ rfl).cell 2 _ rfl
  have d3 := ((unhide H4).at' 0 _ rfl).cell 3 _ rfl
  have d4 := ((unhide H4).at' 0 _ rfl).cell 4 _ rfl
  go_wp2_with fail
  refine wp_region_held_drew (S := (fun w' => w'.cell? ⟨db, 0, none⟩ = some (.int .i64 ar) ∧ w'.cell? ⟨db, 1, none⟩ = some (.int .i64 su) ∧ w'.cell? ⟨db, 2, none⟩ = some (.int .i64 sx) ∧ w'.cell? ⟨db, 3, none⟩ = some (.int .i64 sy) ∧ w'.cell? ⟨db, 4, none⟩ = some (.bool ed) ∧ w'.cell? ⟨fb, 0, none⟩ = some (.int .i64 wd) ∧ w'.cell? ⟨fb, 1, none⟩ = some (.int .i64 ht) ∧ w'.cell? ⟨fb, 2, none⟩ = some (.string s))) (by kernel_rfl) ⟨d0, d1, d2, d3, d4, f0, f1, f2⟩ (fun hHeld => ?_)
  have Q0 := hide (unhide H4).drewn
  generalize W5.drew = V0 at Q0 hHeld ⊢
  clear H4 d0 d1 d2 d3 d4 f0 f1 f2
  refine wpAnyH_take (i := 0) (v := ?_) rfl (by kernel_rfl) (by kernel_rfl) (by kernel_rfl) (fun _ _ _ h => h) (Or.inl ⟨by rfl, ?_⟩) (by assumption) ?_
  rotate_left
  · intro W0 hSw; (try dsimp only at hSw); go_simp <;> with_reducible rfl
  try simp only [Act.put, List.setIfInBounds_toArray, List.set_cons_zero, List.set_cons_succ]
  refine wpAnyH_take (i := 1) (v := ?_) rfl (by kernel_rfl) (by kernel_rfl) (by kernel_rfl) (fun _ _ _ h => h) (Or.inl ⟨by rfl, ?_⟩) (by assumption) ?_
  rotate_left
  · intro W0 hSw; (try dsimp only at hSw); go_simp <;> with_reducible rfl
  try simp only [Act.put, List.setIfInBounds_toArray, List.set_cons_zero, List.set_cons_succ]
  refine wpAnyH_take (i := 3) (v := ?_) rfl (by kernel_rfl) (by kernel_rfl) (by kernel_rfl) (fun _ _ _ h => h) (Or.inl ⟨by rfl, ?_⟩) (by assumption) ?_
  rotate_left
  · intro W0 hSw; (try dsimp only at hSw); go_simp <;> with_reducible rfl
  try simp only [Act.put, List.setIfInBounds_toArray, List.set_cons_zero, List.set_cons_succ]
  refine wpAnyH_ready (rs := [2, 4]) (by kernel_rfl) (by simp) ?_
  refine (AllReadyH.cons rfl (fun K hK => ?_) (AllReadyH.cons rfl (fun K hK => ?_) AllReadyH.nil))
  · go_simp
    have Q1 := hide ((unhide Q0).alloc [.int .i64 1, .int .i64 8, .int .i64 20, .int .i64 40, .int .i64 0, .int .i64 41] 2)
    have hlw1 := ((unhide Q0).at' 0 _ rfl).lt
    generalize V0.alloc (.cells #[.int .i64 1, .int .i64 8, .int .i64 20, .int .i64 40, .int .i64 0, .int .i64 41] 2) = v1 at Q1 ⊢
    generalize V0.heap.size = lb1 at *
    refine hK.out _ _ ?_ (fun hHeld1 => ?_)
    · exact ⟨((unhide Q1).at' 1 _ rfl).cell 0 _ rfl, ((unhide Q1).at' 1 _ rfl).cell 1 _ rfl, ((unhide Q1).at' 1 _ rfl).cell 2 _ rfl, ((unhide Q1).at' 1 _ rfl).cell 3 _ rfl, ((unhide Q1).at' 1 _ rfl).cell 4 _ rfl, ((unhide Q1).at' 2 _ rfl).cell 0 _ rfl, ((unhide Q1).at' 2 _ rfl).cell 1 _ rfl, ((unhide Q1).at' 2 _ rfl).cell 2 _ rfl⟩
    clear hK K
    refine wpAnyH_ready (rs := [4]) (by kernel_rfl) (by simp) ?_
    refine (AllReadyH.cons rfl (fun K hK => ?_) AllReadyH.nil)
    go_simp
    refine (n_any sb 6 _ (unhide Q1).src (by omega)).mono ?_
    rintro e w2 ⟨k2, rfl, hk2a, hk2b, _, hS2, hg2⟩
    have Q2 := hide ((unhide Q1).call hS2 hg2)
    clear hS2 hg2
    obtain ⟨i2, hi2⟩ := Int.eq_ofNat_of_zero_le hk2a
    have hk2c := hk2b (by omega)
    subst hi2
    have hi2n : i2 < 6 := by omega
    have hi2m : (i2 : Int) < 6 := by omega
    refine hK.out _ _ ?_ (fun hHeld2 => ?_)
    · exact ⟨((unhide Q2).at' 1 _ rfl).cell 0 _ rfl, ((unhide Q2).at' 1 _ rfl).cell 1 _ rfl, ((unhide Q2).at' 1 _ rfl).cell 2 _ rfl, ((unhide Q2).at' 1 _ rfl).cell 3 _ rfl, ((unhide Q2).at' 1 _ rfl).cell 4 _ rfl, ((unhide Q2).at' 2 _ rfl).cell 0 _ rfl, ((unhide Q2).at' 2 _ rfl).cell 1 _ rfl, ((unhide Q2).at' 2 _ rfl).cell 2 _ rfl⟩
    clear hK K
    refine wpAnyH_take (i := 5) (v := ?_) rfl (by kernel_rfl) (by kernel_rfl) (by kernel_rfl) (fun _ _ _ h => h) (Or.inl ⟨by rfl, ?_⟩) (by assumption) ?_
    rotate_left
    · intro W0 hSw; (try dsimp only at hSw); go_simp <;> with_reducible rfl
    try simp only [Act.put, List.setIfInBounds_toArray, List.set_cons_zero, List.set_cons_succ]
    refine wpAnyH_ready (rs := [6, 7]) (by kernel_rfl) (by simp) ?_
    refine (AllReadyH.cons rfl (fun K hK => ?_) (AllReadyH.cons rfl (fun K hK => ?_) AllReadyH.nil))
    · obtain ⟨z3, hz3⟩ := lit_cell ((unhide Q2).at' 0 _ rfl) (by simp) hi2n
      go_simp
      refine hK.out _ _ ?_ (fun hHeld3 => ?_)
      · exact ⟨((unhide Q2).at' 1 _ rfl).cell 0 _ rfl, ((unhide Q2).at' 1 _ rfl).cell 1 _ rfl, ((unhide Q2).at' 1 _ rfl).cell 2 _ rfl, ((unhide Q2).at' 1 _ rfl).cell 3 _ rfl, ((unhide Q2).at' 1 _ rfl).cell 4 _ rfl, ((unhide Q2).at' 2 _ rfl).cell 0 _ rfl, ((unhide Q2).at' 2 _ rfl).cell 1 _ rfl, ((unhide Q2).at' 2 _ rfl).cell 2 _ rfl⟩
      clear hK K
      refine wpAnyH_ready (rs := [7]) (by kernel_rfl) (by simp) ?_
      refine (AllReadyH.cons rfl (fun K hK => ?_) AllReadyH.nil)
      have r4_0 := ((unhide Q2).at' 3 _ rfl).cell 0 _ rfl
      have r4_1 := ((unhide Q2).at' 3 _ rfl).cell 1 _ rfl
      have r4_2 := ((unhide Q2).at' 3 _ rfl).cell 2 _ rfl
      have r4_3 := ((unhide Q2).at' 3 _ rfl).cell 3 _ rfl
      have r4_4 := ((unhide Q2).at' 3 _ rfl).cell 4 _ rfl
      have x4_0 := ((unhide Q2).at' 3 _ rfl).free 0
      have x4_1 := ((unhide Q2).at' 3 _ rfl).free 1
      have x4_2 := ((unhide Q2).at' 3 _ rfl).free 2
      have x4_3 := ((unhide Q2).at' 3 _ rfl).free 3
      have x4_4 := ((unhide Q2).at' 3 _ rfl).free 4
      have hne4 : ∀ x ∈ ([(lb1, [.int .i64 1, .int .i64 8, .int .i64 20, .int .i64 40, .int .i64 0, .int .i64 41], 2), (db, [.int .i64 ar, .int .i64 su, .int .i64 sx, .int .i64 sy, .bool ed], 40), (fb, [.int .i64 wd, .int .i64 ht, .string s], 24), (w.heap.size + 1, [.int .i64 0, .int .i64 0, .string ⟨#[]⟩], 24)] : List (Nat × List Value × TypeId)), x.1 ≠ w.heap.size := by simp; omega
      have Q4 := hide (((((((unhide Q2).db.pick (bs' := (w.heap.size, [.int .i64 0, .int .i64 0, .int .i64 0, .int .i64 0, .bool false], 40) :: [(lb1, [.int .i64 1, .int .i64 8, .int .i64 20, .int .i64 40, .int .i64 0, .int .i64 41], 2), (db, [.int .i64 ar, .int .i64 su, .int .i64 sx, .int .i64 sy, .bool ed], 40), (fb, [.int .i64 wd, .int .i64 ht, .string s], 24), (w.heap.size + 1, [.int .i64 0, .int .i64 0, .string ⟨#[]⟩], 24)]) (by intro x hx; simp only [List.mem_cons, List.not_mem_nil, or_false] at hx; rcases hx with rfl | rfl | rfl | rfl | rfl <;> simp)).set hne4 0 (.int .i64 ar)).set hne4 1 (.int .i64 su)).set hne4 2 (.int .i64 sx)).set hne4 3 (.int .i64 sy)).set hne4 4 (.bool ed))
      go_simp
      clear r4_0 x4_0 r4_1 x4_1 r4_2 x4_2 r4_3 x4_3 r4_4 x4_4
      generalize (((((w2.setCell ⟨w.heap.size, 0, none⟩ (.int .i64 ar)).setCell ⟨w.heap.size, 1, none⟩ (.int .i64 su)).setCell ⟨w.heap.size, 2, none⟩ (.int .i64 sx)).setCell ⟨w.heap.size, 3, none⟩ (.int .i64 sy)).setCell ⟨w.heap.size, 4, none⟩ (.bool ed)) = u4 at Q4 ⊢
      refine hK.out _ _ ?_ (fun hHeld4 => ?_)
      · exact ⟨((unhide Q4).at' 2 _ rfl).cell 0 _ rfl, ((unhide Q4).at' 2 _ rfl).cell 1 _ rfl, ((unhide Q4).at' 2 _ rfl).cell 2 _ rfl, ((unhide Q4).at' 2 _ rfl).cell 3 _ rfl, ((unhide Q4).at' 2 _ rfl).cell 4 _ rfl, ((unhide Q4).at' 3 _ rfl).cell 0 _ rfl, ((unhide Q4).at' 3 _ rfl).cell 1 _ rfl, ((unhide Q4).at' 3 _ rfl).cell 2 _ rfl⟩
      clear hK K
      refine wpAnyH_ready (rs := [8]) (by kernel_rfl) (by simp) ?_
      refine (AllReadyH.cons rfl (fun K hK => ?_) AllReadyH.nil)
      have r5_0 := ((unhide Q4).at' 4 _ rfl).cell 0 _ rfl
      have r5_1 := ((unhide Q4).at' 4 _ rfl).cell 1 _ rfl
      have r5_2 := ((unhide Q4).at' 4 _ rfl).cell 2 _ rfl
      have x5_0 := ((unhide Q4).at' 4 _ rfl).free 0
      have x5_1 := ((unhide Q4).at' 4 _ rfl).free 1
      have x5_2 := ((unhide Q4).at' 4 _ rfl).free 2
      have hne5 : ∀ x ∈ ([(w.heap.size, [.int .i64 ar, .int .i64 su, .int .i64 sx, .int .i64 sy, .bool ed], 40), (lb1, [.int .i64 1, .int .i64 8, .int .i64 20, .int .i64 40, .int .i64 0, .int .i64 41], 2), (db, [.int .i64 ar, .int .i64 su, .int .i64 sx, .int .i64 sy, .bool ed], 40), (fb, [.int .i64 wd, .int .i64 ht, .string s], 24)] : List (Nat × List Value × TypeId)), x.1 ≠ w.heap.size + 1 := by simp; omega
      have Q5 := hide (((((unhide Q4).pick (bs' := (w.heap.size + 1, [.int .i64 0, .int .i64 0, .string ⟨#[]⟩], 24) :: [(w.heap.size, [.int .i64 ar, .int .i64 su, .int .i64 sx, .int .i64 sy, .bool ed], 40), (lb1, [.int .i64 1, .int .i64 8, .int .i64 20, .int .i64 40, .int .i64 0, .int .i64 41], 2), (db, [.int .i64 ar, .int .i64 su, .int .i64 sx, .int .i64 sy, .bool ed], 40), (fb, [.int .i64 wd, .int .i64 ht, .string s], 24)]) (by intro x hx; simp only [List.mem_cons, List.not_mem_nil, or_false] at hx; rcases hx with rfl | rfl | rfl | rfl | rfl <;> simp)).set hne5 0 (.int .i64 wd)).set hne5 1 (.int .i64 ht)).set hne5 2 (.string s))
      go_simp
      clear r5_0 x5_0 r5_1 x5_1 r5_2 x5_2
      generalize (((u4.setCell ⟨w.heap.size + 1, 0, none⟩ (.int .i64 wd)).setCell ⟨w.heap.size + 1, 1, none⟩ (.int .i64 ht)).setCell ⟨w.heap.size + 1, 2, none⟩ (.string s)) = u5 at Q5 ⊢
      refine hK.out _ _ ?_ (fun hHeld5 => ?_)
      · exact ⟨((unhide Q5).at' 3 _ rfl).cell 0 _ rfl, ((unhide Q5).at' 3 _ rfl).cell 1 _ rfl, ((unhide Q5).at' 3 _ rfl).cell 2 _ rfl, ((unhide Q5).at' 3 _ rfl).cell 3 _ rfl, ((unhide Q5).at' 3 _ rfl).cell 4 _ rfl, ((unhide Q5).at' 4 _ rfl).cell 0 _ rfl, ((unhide Q5).at' 4 _ rfl).cell 1 _ rfl, ((unhide Q5).at' 4 _ rfl).cell 2 _ rfl⟩
      clear hK K
      refine wpAnyH_ready (rs := [9]) (by kernel_rfl) (by simp) ?_
      refine (AllReadyH.cons rfl (fun K hK => ?_) AllReadyH.nil)
      go_simp
      refine hK.out _ _ ?_ (fun hHeld6 => ?_)
      · exact ⟨((unhide Q5).at' 3 _ rfl).cell 0 _ rfl, ((unhide Q5).at' 3 _ rfl).cell 1 _ rfl, ((unhide Q5).at' 3 _ rfl).cell 2 _ rfl, ((unhide Q5).at' 3 _ rfl).cell 3 _ rfl, ((unhide Q5).at' 3 _ rfl).cell 4 _ rfl, ((unhide Q5).at' 4 _ rfl).cell 0 _ rfl, ((unhide Q5).at' 4 _ rfl).cell 1 _ rfl, ((unhide Q5).at' 4 _ rfl).cell 2 _ rfl⟩
      clear hK K
      refine wpAnyH_done (by kernel_rfl) ?_ _
      have u0_0 := ((unhide Q5).at' 1 _ rfl).cell 0 _ rfl
      have u0_1 := ((unhide Q5).at' 1 _ rfl).cell 1 _ rfl
      have u0_2 := ((unhide Q5).at' 1 _ rfl).cell 2 _ rfl
      have u0_3 := ((unhide Q5).at' 1 _ rfl).cell 3 _ rfl
      have u0_4 := ((unhide Q5).at' 1 _ rfl).cell 4 _ rfl
      have y0_0 := ((unhide Q5).at' 0 _ rfl).cell 0 _ rfl
      have y0_1 := ((unhide Q5).at' 0 _ rfl).cell 1 _ rfl
      have y0_2 := ((unhide Q5).at' 0 _ rfl).cell 2 _ rfl
      go_wp2_with fail
      exact bodyPost_ret (v := .tuple #[.agg #[.int .i64 ar, .int .i64 su, .int .i64 sx, .int .i64 sy, .bool ed], .agg #[.int .i64 wd, .int .i64 ht, .string s], .int .i64 z3]) (by simp [results, Try.results17, go_sem, u0_0, u0_1, u0_2, u0_3, u0_4, y0_0, y0_1, y0_2]) rfl ⟨by cases ed; exact ⟨_, _, _, _, .inl ⟨_, _, _, hs, _, rfl⟩⟩; exact ⟨_, _, _, _, .inr ⟨_, _, _, hs, _, rfl⟩⟩, (unhide Q5).bel⟩
    · have r7_0 := ((unhide Q2).at' 3 _ rfl).cell 0 _ rfl
      have r7_1 := ((unhide Q2).at' 3 _ rfl).cell 1 _ rfl
      have r7_2 := ((unhide Q2).at' 3 _ rfl).cell 2 _ rfl
      have r7_3 := ((unhide Q2).at' 3 _ rfl).cell 3 _ rfl
      have r7_4 := ((unhide Q2).at' 3 _ rfl).cell 4 _ rfl
      have x7_0 := ((unhide Q2).at' 3 _ rfl).free 0
      have x7_1 := ((unhide Q2).at' 3 _ rfl).free 1
      have x7_2 := ((unhide Q2).at' 3 _ rfl).free 2
      have x7_3 := ((unhide Q2).at' 3 _ rfl).free 3
      have x7_4 := ((unhide Q2).at' 3 _ rfl).free 4
      have hne7 : ∀ x ∈ ([(lb1, [.int .i64 1, .int .i64 8, .int .i64 20, .int .i64 40, .int .i64 0, .int .i64 41], 2), (db, [.int .i64 ar, .int .i64 su, .int .i64 sx, .int .i64 sy, .bool ed], 40), (fb, [.int .i64 wd, .int .i64 ht, .string s], 24), (w.heap.size + 1, [.int .i64 0, .int .i64 0, .string ⟨#[]⟩], 24)] : List (Nat × List Value × TypeId)), x.1 ≠ w.heap.size := by simp; omega
      have Q7 := hide (((((((unhide Q2).db.pick (bs' := (w.heap.size, [.int .i64 0, .int .i64 0, .int .i64 0, .int .i64 0, .bool false], 40) :: [(lb1, [.int .i64 1, .int .i64 8, .int .i64 20, .int .i64 40, .int .i64 0, .int .i64 41], 2), (db, [.int .i64 ar, .int .i64 su, .int .i64 sx, .int .i64 sy, .bool ed], 40), (fb, [.int .i64 wd, .int .i64 ht, .string s], 24), (w.heap.size + 1, [.int .i64 0, .int .i64 0, .string ⟨#[]⟩], 24)]) (by intro x hx; simp only [List.mem_cons, List.not_mem_nil, or_false] at hx; rcases hx with rfl | rfl | rfl | rfl | rfl <;> simp)).set hne7 0 (.int .i64 ar)).set hne7 1 (.int .i64 su)).set hne7 2 (.int .i64 sx)).set hne7 3 (.int .i64 sy)).set hne7 4 (.bool ed))
      go_simp
      clear r7_0 x7_0 r7_1 x7_1 r7_2 x7_2 r7_3 x7_3 r7_4 x7_4
      generalize (((((w2.setCell ⟨w.heap.size, 0, none⟩ (.int .i64 ar)).setCell ⟨w.heap.size, 1, none⟩ (.int .i64 su)).setCell ⟨w.heap.size, 2, none⟩ (.int .i64 sx)).setCell ⟨w.heap.size, 3, none⟩ (.int .i64 sy)).setCell ⟨w.heap.size, 4, none⟩ (.bool ed)) = u7 at Q7 ⊢
      refine hK.out _ _ ?_ (fun hHeld7 => ?_)
      · exact ⟨((unhide Q7).at' 2 _ rfl).cell 0 _ rfl, ((unhide Q7).at' 2 _ rfl).cell 1 _ rfl, ((unhide Q7).at' 2 _ rfl).cell 2 _ rfl, ((unhide Q7).at' 2 _ rfl).cell 3 _ rfl, ((unhide Q7).at' 2 _ rfl).cell 4 _ rfl, ((unhide Q7).at' 3 _ rfl).cell 0 _ rfl, ((unhide Q7).at' 3 _ rfl).cell 1 _ rfl, ((unhide Q7).at' 3 _ rfl).cell 2 _ rfl⟩
      clear hK K
      refine wpAnyH_ready (rs := [6, 8]) (by kernel_rfl) (by simp) ?_
      refine (AllReadyH.cons rfl (fun K hK => ?_) (AllReadyH.cons rfl (fun K hK => ?_) AllReadyH.nil))
      · obtain ⟨z8, hz8⟩ := lit_cell ((unhide Q7).at' 1 _ rfl) (by simp) hi2n
        go_simp
        refine hK.out _ _ ?_ (fun hHeld8 => ?_)
        · exact ⟨((unhide Q7).at' 2 _ rfl).cell 0 _ rfl, ((unhide Q7).at' 2 _ rfl).cell 1 _ rfl, ((unhide Q7).at' 2 _ rfl).cell 2 _ rfl, ((unhide Q7).at' 2 _ rfl).cell 3 _ rfl, ((unhide Q7).at' 2 _ rfl).cell 4 _ rfl, ((unhide Q7).at' 3 _ rfl).cell 0 _ rfl, ((unhide Q7).at' 3 _ rfl).cell 1 _ rfl, ((unhide Q7).at' 3 _ rfl).cell 2 _ rfl⟩
        clear hK K
        refine wpAnyH_ready (rs := [8]) (by kernel_rfl) (by simp) ?_
        refine (AllReadyH.cons rfl (fun K hK => ?_) AllReadyH.nil)
        have r9_0 := ((unhide Q7).at' 4 _ rfl).cell 0 _ rfl
        have r9_1 := ((unhide Q7).at' 4 _ rfl).cell 1 _ rfl
        have r9_2 := ((unhide Q7).at' 4 _ rfl).cell 2 _ rfl
        have x9_0 := ((unhide Q7).at' 4 _ rfl).free 0
        have x9_1 := ((unhide Q7).at' 4 _ rfl).free 1
        have x9_2 := ((unhide Q7).at' 4 _ rfl).free 2
        have hne9 : ∀ x ∈ ([(w.heap.size, [.int .i64 ar, .int .i64 su, .int .i64 sx, .int .i64 sy, .bool ed], 40), (lb1, [.int .i64 1, .int .i64 8, .int .i64 20, .int .i64 40, .int .i64 0, .int .i64 41], 2), (db, [.int .i64 ar, .int .i64 su, .int .i64 sx, .int .i64 sy, .bool ed], 40), (fb, [.int .i64 wd, .int .i64 ht, .string s], 24)] : List (Nat × List Value × TypeId)), x.1 ≠ w.heap.size + 1 := by simp; omega
        have Q9 := hide (((((unhide Q7).pick (bs' := (w.heap.size + 1, [.int .i64 0, .int .i64 0, .string ⟨#[]⟩], 24) :: [(w.heap.size, [.int .i64 ar, .int .i64 su, .int .i64 sx, .int .i64 sy, .bool ed], 40), (lb1, [.int .i64 1, .int .i64 8, .int .i64 20, .int .i64 40, .int .i64 0, .int .i64 41], 2), (db, [.int .i64 ar, .int .i64 su, .int .i64 sx, .int .i64 sy, .bool ed], 40), (fb, [.int .i64 wd, .int .i64 ht, .string s], 24)]) (by intro x hx; simp only [List.mem_cons, List.not_mem_nil, or_false] at hx; rcases hx with rfl | rfl | rfl | rfl | rfl <;> simp)).set hne9 0 (.int .i64 wd)).set hne9 1 (.int .i64 ht)).set hne9 2 (.string s))
        go_simp
        clear r9_0 x9_0 r9_1 x9_1 r9_2 x9_2
        generalize (((u7.setCell ⟨w.heap.size + 1, 0, none⟩ (.int .i64 wd)).setCell ⟨w.heap.size + 1, 1, none⟩ (.int .i64 ht)).setCell ⟨w.heap.size + 1, 2, none⟩ (.string s)) = u9 at Q9 ⊢
        refine hK.out _ _ ?_ (fun hHeld9 => ?_)
        · exact ⟨((unhide Q9).at' 3 _ rfl).cell 0 _ rfl, ((unhide Q9).at' 3 _ rfl).cell 1 _ rfl, ((unhide Q9).at' 3 _ rfl).cell 2 _ rfl, ((unhide Q9).at' 3 _ rfl).cell 3 _ rfl, ((unhide Q9).at' 3 _ rfl).cell 4 _ rfl, ((unhide Q9).at' 4 _ rfl).cell 0 _ rfl, ((unhide Q9).at' 4 _ rfl).cell 1 _ rfl, ((unhide Q9).at' 4 _ rfl).cell 2 _ rfl⟩
        clear hK K
        refine wpAnyH_ready (rs := [9]) (by kernel_rfl) (by simp) ?_
        refine (AllReadyH.cons rfl (fun K hK => ?_) AllReadyH.nil)
        go_simp
        refine hK.out _ _ ?_ (fun hHeld10 => ?_)
        · exact ⟨((unhide Q9).at' 3 _ rfl).cell 0 _ rfl, ((unhide Q9).at' 3 _ rfl).cell 1 _ rfl, ((unhide Q9).at' 3 _ rfl).cell 2 _ rfl, ((unhide Q9).at' 3 _ rfl).cell 3 _ rfl, ((unhide Q9).at' 3 _ rfl).cell 4 _ rfl, ((unhide Q9).at' 4 _ rfl).cell 0 _ rfl, ((unhide Q9).at' 4 _ rfl).cell 1 _ rfl, ((unhide Q9).at' 4 _ rfl).cell 2 _ rfl⟩
        clear hK K
        refine wpAnyH_done (by kernel_rfl) ?_ _
        have u0_0 := ((unhide Q9).at' 1 _ rfl).cell 0 _ rfl
        have u0_1 := ((unhide Q9).at' 1 _ rfl).cell 1 _ rfl
        have u0_2 := ((unhide Q9).at' 1 _ rfl).cell 2 _ rfl
        have u0_3 := ((unhide Q9).at' 1 _ rfl).cell 3 _ rfl
        have u0_4 := ((unhide Q9).at' 1 _ rfl).cell 4 _ rfl
        have y0_0 := ((unhide Q9).at' 0 _ rfl).cell 0 _ rfl
        have y0_1 := ((unhide Q9).at' 0 _ rfl).cell 1 _ rfl
        have y0_2 := ((unhide Q9).at' 0 _ rfl).cell 2 _ rfl
        go_wp2_with fail
        exact bodyPost_ret (v := .tuple #[.agg #[.int .i64 ar, .int .i64 su, .int .i64 sx, .int .i64 sy, .bool ed], .agg #[.int .i64 wd, .int .i64 ht, .string s], .int .i64 z8]) (by simp [results, Try.results17, go_sem, u0_0, u0_1, u0_2, u0_3, u0_4, y0_0, y0_1, y0_2]) rfl ⟨by cases ed; exact ⟨_, _, _, _, .inl ⟨_, _, _, hs, _, rfl⟩⟩; exact ⟨_, _, _, _, .inr ⟨_, _, _, hs, _, rfl⟩⟩, (unhide Q9).bel⟩
      · have r11_0 := ((unhide Q7).at' 4 _ rfl).cell 0 _ rfl
        have r11_1 := ((unhide Q7).at' 4 _ rfl).cell 1 _ rfl
        have r11_2 := ((unhide Q7).at' 4 _ rfl).cell 2 _ rfl
        have x11_0 := ((unhide Q7).at' 4 _ rfl).free 0
        have x11_1 := ((unhide Q7).at' 4 _ rfl).free 1
        have x11_2 := ((unhide Q7).at' 4 _ rfl).free 2
        have hne11 : ∀ x ∈ ([(w.heap.size, [.int .i64 ar, .int .i64 su, .int .i64 sx, .int .i64 sy, .bool ed], 40), (lb1, [.int .i64 1, .int .i64 8, .int .i64 20, .int .i64 40, .int .i64 0, .int .i64 41], 2), (db, [.int .i64 ar, .int .i64 su, .int .i64 sx, .int .i64 sy, .bool ed], 40), (fb, [.int .i64 wd, .int .i64 ht, .string s], 24)] : List (Nat × List Value × TypeId)), x.1 ≠ w.heap.size + 1 := by simp; omega
        have Q11 := hide (((((unhide Q7).pick (bs' := (w.heap.size + 1, [.int .i64 0, .int .i64 0, .string ⟨#[]⟩], 24) :: [(w.heap.size, [.int .i64 ar, .int .i64 su, .int .i64 sx, .int .i64 sy, .bool ed], 40), (lb1, [.int .i64 1, .int .i64 8, .int .i64 20, .int .i64 40, .int .i64 0, .int .i64 41], 2), (db, [.int .i64 ar, .int .i64 su, .int .i64 sx, .int .i64 sy, .bool ed], 40), (fb, [.int .i64 wd, .int .i64 ht, .string s], 24)]) (by intro x hx; simp only [List.mem_cons, List.not_mem_nil, or_false] at hx; rcases hx with rfl | rfl | rfl | rfl | rfl <;> simp)).set hne11 0 (.int .i64 wd)).set hne11 1 (.int .i64 ht)).set hne11 2 (.string s))
        go_simp
        clear r11_0 x11_0 r11_1 x11_1 r11_2 x11_2
        generalize (((u7.setCell ⟨w.heap.size + 1, 0, none⟩ (.int .i64 wd)).setCell ⟨w.heap.size + 1, 1, none⟩ (.int .i64 ht)).setCell ⟨w.heap.size + 1, 2, none⟩ (.string s)) = u11 at Q11 ⊢
        refine hK.out _ _ ?_ (fun hHeld11 => ?_)
        · exact ⟨((unhide Q11).at' 3 _ rfl).cell 0 _ rfl, ((unhide Q11).at' 3 _ rfl).cell 1 _ rfl, ((unhide Q11).at' 3 _ rfl).cell 2 _ rfl, ((unhide Q11).at' 3 _ rfl).cell 3 _ rfl, ((unhide Q11).at' 3 _ rfl).cell 4 _ rfl, ((unhide Q11).at' 4 _ rfl).cell 0 _ rfl, ((unhide Q11).at' 4 _ rfl).cell 1 _ rfl, ((unhide Q11).at' 4 _ rfl).cell 2 _ rfl⟩
        clear hK K
        refine wpAnyH_ready (rs := [6]) (by kernel_rfl) (by simp) ?_
        refine (AllReadyH.cons rfl (fun K hK => ?_) AllReadyH.nil)
        obtain ⟨z12, hz12⟩ := lit_cell ((unhide Q11).at' 2 _ rfl) (by simp) hi2n
        go_simp
        refine hK.out _ _ ?_ (fun hHeld12 => ?_)
        · exact ⟨((unhide Q11).at' 3 _ rfl).cell 0 _ rfl, ((unhide Q11).at' 3 _ rfl).cell 1 _ rfl, ((unhide Q11).at' 3 _ rfl).cell 2 _ rfl, ((unhide Q11).at' 3 _ rfl).cell 3 _ rfl, ((unhide Q11).at' 3 _ rfl).cell 4 _ rfl, ((unhide Q11).at' 4 _ rfl).cell 0 _ rfl, ((unhide Q11).at' 4 _ rfl).cell 1 _ rfl, ((unhide Q11).at' 4 _ rfl).cell 2 _ rfl⟩
        clear hK K
        refine wpAnyH_ready (rs := [9]) (by kernel_rfl) (by simp) ?_
        refine (AllReadyH.cons rfl (fun K hK => ?_) AllReadyH.nil)
        go_simp
        refine hK.out _ _ ?_ (fun hHeld13 => ?_)
        · exact ⟨((unhide Q11).at' 3 _ rfl).cell 0 _ rfl, ((unhide Q11).at' 3 _ rfl).cell 1 _ rfl, ((unhide Q11).at' 3 _ rfl).cell 2 _ rfl, ((unhide Q11).at' 3 _ rfl).cell 3 _ rfl, ((unhide Q11).at' 3 _ rfl).cell 4 _ rfl, ((unhide Q11).at' 4 _ rfl).cell 0 _ rfl, ((unhide Q11).at' 4 _ rfl).cell 1 _ rfl, ((unhide Q11).at' 4 _ rfl).cell 2 _ rfl⟩
        clear hK K
        refine wpAnyH_done (by kernel_rfl) ?_ _
        have u0_0 := ((unhide Q11).at' 1 _ rfl).cell 0 _ rfl
        have u0_1 := ((unhide Q11).at' 1 _ rfl).cell 1 _ rfl
        have u0_2 := ((unhide Q11).at' 1 _ rfl).cell 2 _ rfl
        have u0_3 := ((unhide Q11).at' 1 _ rfl).cell 3 _ rfl
        have u0_4 := ((unhide Q11).at' 1 _ rfl).cell 4 _ rfl
        have y0_0 := ((unhide Q11).at' 0 _ rfl).cell 0 _ rfl
        have y0_1 := ((unhide Q11).at' 0 _ rfl).cell 1 _ rfl
        have y0_2 := ((unhide Q11).at' 0 _ rfl).cell 2 _ rfl
        go_wp2_with fail
        exact bodyPost_ret (v := .tuple #[.agg #[.int .i64 ar, .int .i64 su, .int .i64 sx, .int .i64 sy, .bool ed], .agg #[.int .i64 wd, .int .i64 ht, .string s], .int .i64 z12]) (by simp [results, Try.results17, go_sem, u0_0, u0_1, u0_2, u0_3, u0_4, y0_0, y0_1, y0_2]) rfl ⟨by cases ed; exact ⟨_, _, _, _, .inl ⟨_, _, _, hs, _, rfl⟩⟩; exact ⟨_, _, _, _, .inr ⟨_, _, _, hs, _, rfl⟩⟩, (unhide Q11).bel⟩
  · go_simp
    refine (n_any sb 6 _ (unhide Q0).src (by omega)).mono ?_
    rintro e w14 ⟨k14, rfl, hk14a, hk14b, _, hS14, hg14⟩
    have Q14 := hide ((unhide Q0).call hS14 hg14)
    clear hS14 hg14
    obtain ⟨i14, hi14⟩ := Int.eq_ofNat_of_zero_le hk14a
    have hk14c := hk14b (by omega)
    subst hi14
    have hi14n : i14 < 6 := by omega
    have hi14m : (i14 : Int) < 6 := by omega
    refine hK.out _ _ ?_ (fun hHeld14 => ?_)
    · exact ⟨((unhide Q14).at' 0 _ rfl).cell 0 _ rfl, ((unhide Q14).at' 0 _ rfl).cell 1 _ rfl, ((unhide Q14).at' 0 _ rfl).cell 2 _ rfl, ((unhide Q14).at' 0 _ rfl).cell 3 _ rfl, ((unhide Q14).at' 0 _ rfl).cell 4 _ rfl, ((unhide Q14).at' 1 _ rfl).cell 0 _ rfl, ((unhide Q14).at' 1 _ rfl).cell 1 _ rfl, ((unhide Q14).at' 1 _ rfl).cell 2 _ rfl⟩
    clear hK K
    refine wpAnyH_ready (rs := [2, 7]) (by kernel_rfl) (by simp) ?_
    refine (AllReadyH.cons rfl (fun K hK => ?_) (AllReadyH.cons rfl (fun K hK => ?_) AllReadyH.nil))
    · go_simp
      have Q15 := hide ((unhide Q14).alloc [.int .i64 1, .int .i64 8, .int .i64 20, .int .i64 40, .int .i64 0, .int .i64 41] 2)
      have hlw15 := ((unhide Q14).at' 0 _ rfl).lt
      generalize w14.alloc (.cells #[.int .i64 1, .int .i64 8, .int .i64 20, .int .i64 40, .int .i64 0, .int .i64 41] 2) = v15 at Q15 ⊢
      generalize w14.heap.size = lb15 at *
      refine hK.out _ _ ?_ (fun hHeld15 => ?_)
      · exact ⟨((unhide Q15).at' 1 _ rfl).cell 0 _ rfl, ((unhide Q15).at' 1 _ rfl).cell 1 _ rfl, ((unhide Q15).at' 1 _ rfl).cell 2 _ rfl, ((unhide Q15).at' 1 _ rfl).cell 3 _ rfl, ((unhide Q15).at' 1 _ rfl).cell 4 _ rfl, ((unhide Q15).at' 2 _ rfl).cell 0 _ rfl, ((unhide Q15).at' 2 _ rfl).cell 1 _ rfl, ((unhide Q15).at' 2 _ rfl).cell 2 _ rfl⟩
      clear hK K
      refine wpAnyH_take (i := 5) (v := ?_) rfl (by kernel_rfl) (by kernel_rfl) (by kernel_rfl) (fun _ _ _ h => h) (Or.inl ⟨by rfl, ?_⟩) (by assumption) ?_
      rotate_left
      · intro W0 hSw; (try dsimp only at hSw); go_simp <;> with_reducible rfl
      try simp only [Act.put, List.setIfInBounds_toArray, List.set_cons_zero, List.set_cons_succ]
      refine wpAnyH_ready (rs := [6, 7]) (by kernel_rfl) (by simp) ?_
      refine (AllReadyH.cons rfl (fun K hK => ?_) (AllReadyH.cons rfl (fun K hK => ?_) AllReadyH.nil))
      · obtain ⟨z16, hz16⟩ := lit_cell ((unhide Q15).at' 0 _ rfl) (by simp) hi14n
        go_simp
        refine hK.out _ _ ?_ (fun hHeld16 => ?_)
        · exact ⟨((unhide Q15).at' 1 _ rfl).cell 0 _ rfl, ((unhide Q15).at' 1 _ rfl).cell 1 _ rfl, ((unhide Q15).at' 1 _ rfl).cell 2 _ rfl, ((unhide Q15).at' 1 _ rfl).cell 3 _ rfl, ((unhide Q15).at' 1 _ rfl).cell 4 _ rfl, ((unhide Q15).at' 2 _ rfl).cell 0 _ rfl, ((unhide Q15).at' 2 _ rfl).cell 1 _ rfl, ((unhide Q15).at' 2 _ rfl).cell 2 _ rfl⟩
        clear hK K
        refine wpAnyH_ready (rs := [7]) (by kernel_rfl) (by simp) ?_
        refine (AllReadyH.cons rfl (fun K hK => ?_) AllReadyH.nil)
        have r17_0 := ((unhide Q15).at' 3 _ rfl).cell 0 _ rfl
        have r17_1 := ((unhide Q15).at' 3 _ rfl).cell 1 _ rfl
        have r17_2 := ((unhide Q15).at' 3 _ rfl).cell 2 _ rfl
        have r17_3 := ((unhide Q15).at' 3 _ rfl).cell 3 _ rfl
        have r17_4 := ((unhide Q15).at' 3 _ rfl).cell 4 _ rfl
        have x17_0 := ((unhide Q15).at' 3 _ rfl).free 0
        have x17_1 := ((unhide Q15).at' 3 _ rfl).free 1
        have x17_2 := ((unhide Q15).at' 3 _ rfl).free 2
        have x17_3 := ((unhide Q15).at' 3 _ rfl).free 3
        have x17_4 := ((unhide Q15).at' 3 _ rfl).free 4
        have hne17 : ∀ x ∈ ([(lb15, [.int .i64 1, .int .i64 8, .int .i64 20, .int .i64 40, .int .i64 0, .int .i64 41], 2), (db, [.int .i64 ar, .int .i64 su, .int .i64 sx, .int .i64 sy, .bool ed], 40), (fb, [.int .i64 wd, .int .i64 ht, .string s], 24), (w.heap.size + 1, [.int .i64 0, .int .i64 0, .string ⟨#[]⟩], 24)] : List (Nat × List Value × TypeId)), x.1 ≠ w.heap.size := by simp; omega
        have Q17 := hide (((((((unhide Q15).db.pick (bs' := (w.heap.size, [.int .i64 0, .int .i64 0, .int .i64 0, .int .i64 0, .bool false], 40) :: [(lb15, [.int .i64 1, .int .i64 8, .int .i64 20, .int .i64 40, .int .i64 0, .int .i64 41], 2), (db, [.int .i64 ar, .int .i64 su, .int .i64 sx, .int .i64 sy, .bool ed], 40), (fb, [.int .i64 wd, .int .i64 ht, .string s], 24), (w.heap.size + 1, [.int .i64 0, .int .i64 0, .string ⟨#[]⟩], 24)]) (by intro x hx; simp only [List.mem_cons, List.not_mem_nil, or_false] at hx; rcases hx with rfl | rfl | rfl | rfl | rfl <;> simp)).set hne17 0 (.int .i64 ar)).set hne17 1 (.int .i64 su)).set hne17 2 (.int .i64 sx)).set hne17 3 (.int .i64 sy)).set hne17 4 (.bool ed))
        go_simp
        clear r17_0 x17_0 r17_1 x17_1 r17_2 x17_2 r17_3 x17_3 r17_4 x17_4
        generalize (((((v15.setCell ⟨w.heap.size, 0, none⟩ (.int .i64 ar)).setCell ⟨w.heap.size, 1, none⟩ (.int .i64 su)).setCell ⟨w.heap.size, 2, none⟩ (.int .i64 sx)).setCell ⟨w.heap.size, 3, none⟩ (.int .i64 sy)).setCell ⟨w.heap.size, 4, none⟩ (.bool ed)) = u17 at Q17 ⊢
        refine hK.out _ _ ?_ (fun hHeld17 => ?_)
        · exact ⟨((unhide Q17).at' 2 _ rfl).cell 0 _ rfl, ((unhide Q17).at' 2 _ rfl).cell 1 _ rfl, ((unhide Q17).at' 2 _ rfl).cell 2 _ rfl, ((unhide Q17).at' 2 _ rfl).cell 3 _ rfl, ((unhide Q17).at' 2 _ rfl).cell 4 _ rfl, ((unhide Q17).at' 3 _ rfl).cell 0 _ rfl, ((unhide Q17).at' 3 _ rfl).cell 1 _ rfl, ((unhide Q17).at' 3 _ rfl).cell 2 _ rfl⟩
        clear hK K
        refine wpAnyH_ready (rs := [8]) (by kernel_rfl) (by simp) ?_
        refine (AllReadyH.cons rfl (fun K hK => ?_) AllReadyH.nil)
        have r18_0 := ((unhide Q17).at' 4 _ rfl).cell 0 _ rfl
        have r18_1 := ((unhide Q17).at' 4 _ rfl).cell 1 _ rfl
        have r18_2 := ((unhide Q17).at' 4 _ rfl).cell 2 _ rfl
        have x18_0 := ((unhide Q17).at' 4 _ rfl).free 0
        have x18_1 := ((unhide Q17).at' 4 _ rfl).free 1
        have x18_2 := ((unhide Q17).at' 4 _ rfl).free 2
        have hne18 : ∀ x ∈ ([(w.heap.size, [.int .i64 ar, .int .i64 su, .int .i64 sx, .int .i64 sy, .bool ed], 40), (lb15, [.int .i64 1, .int .i64 8, .int .i64 20, .int .i64 40, .int .i64 0, .int .i64 41], 2), (db, [.int .i64 ar, .int .i64 su, .int .i64 sx, .int .i64 sy, .bool ed], 40), (fb, [.int .i64 wd, .int .i64 ht, .string s], 24)] : List (Nat × List Value × TypeId)), x.1 ≠ w.heap.size + 1 := by simp; omega
        have Q18 := hide (((((unhide Q17).pick (bs' := (w.heap.size + 1, [.int .i64 0, .int .i64 0, .string ⟨#[]⟩], 24) :: [(w.heap.size, [.int .i64 ar, .int .i64 su, .int .i64 sx, .int .i64 sy, .bool ed], 40), (lb15, [.int .i64 1, .int .i64 8, .int .i64 20, .int .i64 40, .int .i64 0, .int .i64 41], 2), (db, [.int .i64 ar, .int .i64 su, .int .i64 sx, .int .i64 sy, .bool ed], 40), (fb, [.int .i64 wd, .int .i64 ht, .string s], 24)]) (by intro x hx; simp only [List.mem_cons, List.not_mem_nil, or_false] at hx; rcases hx with rfl | rfl | rfl | rfl | rfl <;> simp)).set hne18 0 (.int .i64 wd)).set hne18 1 (.int .i64 ht)).set hne18 2 (.string s))
        go_simp
        clear r18_0 x18_0 r18_1 x18_1 r18_2 x18_2
        generalize (((u17.setCell ⟨w.heap.size + 1, 0, none⟩ (.int .i64 wd)).setCell ⟨w.heap.size + 1, 1, none⟩ (.int .i64 ht)).setCell ⟨w.heap.size + 1, 2, none⟩ (.string s)) = u18 at Q18 ⊢
        refine hK.out _ _ ?_ (fun hHeld18 => ?_)
        · exact ⟨((unhide Q18).at' 3 _ rfl).cell 0 _ rfl, ((unhide Q18).at' 3 _ rfl).cell 1 _ rfl, ((unhide Q18).at' 3 _ rfl).cell 2 _ rfl, ((unhide Q18).at' 3 _ rfl).cell 3 _ rfl, ((unhide Q18).at' 3 _ rfl).cell 4 _ rfl, ((unhide Q18).at' 4 _ rfl).cell 0 _ rfl, ((unhide Q18).at' 4 _ rfl).cell 1 _ rfl, ((unhide Q18).at' 4 _ rfl).cell 2 _ rfl⟩
        clear hK K
        refine wpAnyH_ready (rs := [9]) (by kernel_rfl) (by simp) ?_
        refine (AllReadyH.cons rfl (fun K hK => ?_) AllReadyH.nil)
        go_simp
        refine hK.out _ _ ?_ (fun hHeld19 => ?_)
        · exact ⟨((unhide Q18).at' 3 _ rfl).cell 0 _ rfl, ((unhide Q18).at' 3 _ rfl).cell 1 _ rfl, ((unhide Q18).at' 3 _ rfl).cell 2 _ rfl, ((unhide Q18).at' 3 _ rfl).cell 3 _ rfl, ((unhide Q18).at' 3 _ rfl).cell 4 _ rfl, ((unhide Q18).at' 4 _ rfl).cell 0 _ rfl, ((unhide Q18).at' 4 _ rfl).cell 1 _ rfl, ((unhide Q18).at' 4 _ rfl).cell 2 _ rfl⟩
        clear hK K
        refine wpAnyH_done (by kernel_rfl) ?_ _
        have u0_0 := ((unhide Q18).at' 1 _ rfl).cell 0 _ rfl
        have u0_1 := ((unhide Q18).at' 1 _ rfl).cell 1 _ rfl
        have u0_2 := ((unhide Q18).at' 1 _ rfl).cell 2 _ rfl
        have u0_3 := ((unhide Q18).at' 1 _ rfl).cell 3 _ rfl
        have u0_4 := ((unhide Q18).at' 1 _ rfl).cell 4 _ rfl
        have y0_0 := ((unhide Q18).at' 0 _ rfl).cell 0 _ rfl
        have y0_1 := ((unhide Q18).at' 0 _ rfl).cell 1 _ rfl
        have y0_2 := ((unhide Q18).at' 0 _ rfl).cell 2 _ rfl
        go_wp2_with fail
        exact bodyPost_ret (v := .tuple #[.agg #[.int .i64 ar, .int .i64 su, .int .i64 sx, .int .i64 sy, .bool ed], .agg #[.int .i64 wd, .int .i64 ht, .string s], .int .i64 z16]) (by simp [results, Try.results17, go_sem, u0_0, u0_1, u0_2, u0_3, u0_4, y0_0, y0_1, y0_2]) rfl ⟨by cases ed; exact ⟨_, _, _, _, .inl ⟨_, _, _, hs, _, rfl⟩⟩; exact ⟨_, _, _, _, .inr ⟨_, _, _, hs, _, rfl⟩⟩, (unhide Q18).bel⟩
      · have r20_0 := ((unhide Q15).at' 3 _ rfl).cell 0 _ rfl
        have r20_1 := ((unhide Q15).at' 3 _ rfl).cell 1 _ rfl
        have r20_2 := ((unhide Q15).at' 3 _ rfl).cell 2 _ rfl
        have r20_3 := ((unhide Q15).at' 3 _ rfl).cell 3 _ rfl
        have r20_4 := ((unhide Q15).at' 3 _ rfl).cell 4 _ rfl
        have x20_0 := ((unhide Q15).at' 3 _ rfl).free 0
        have x20_1 := ((unhide Q15).at' 3 _ rfl).free 1
        have x20_2 := ((unhide Q15).at' 3 _ rfl).free 2
        have x20_3 := ((unhide Q15).at' 3 _ rfl).free 3
        have x20_4 := ((unhide Q15).at' 3 _ rfl).free 4
        have hne20 : ∀ x ∈ ([(lb15, [.int .i64 1, .int .i64 8, .int .i64 20, .int .i64 40, .int .i64 0, .int .i64 41], 2), (db, [.int .i64 ar, .int .i64 su, .int .i64 sx, .int .i64 sy, .bool ed], 40), (fb, [.int .i64 wd, .int .i64 ht, .string s], 24), (w.heap.size + 1, [.int .i64 0, .int .i64 0, .string ⟨#[]⟩], 24)] : List (Nat × List Value × TypeId)), x.1 ≠ w.heap.size := by simp; omega
        have Q20 := hide (((((((unhide Q15).db.pick (bs' := (w.heap.size, [.int .i64 0, .int .i64 0, .int .i64 0, .int .i64 0, .bool false], 40) :: [(lb15, [.int .i64 1, .int .i64 8, .int .i64 20, .int .i64 40, .int .i64 0, .int .i64 41], 2), (db, [.int .i64 ar, .int .i64 su, .int .i64 sx, .int .i64 sy, .bool ed], 40), (fb, [.int .i64 wd, .int .i64 ht, .string s], 24), (w.heap.size + 1, [.int .i64 0, .int .i64 0, .string ⟨#[]⟩], 24)]) (by intro x hx; simp only [List.mem_cons, List.not_mem_nil, or_false] at hx; rcases hx with rfl | rfl | rfl | rfl | rfl <;> simp)).set hne20 0 (.int .i64 ar)).set hne20 1 (.int .i64 su)).set hne20 2 (.int .i64 sx)).set hne20 3 (.int .i64 sy)).set hne20 4 (.bool ed))
        go_simp
        clear r20_0 x20_0 r20_1 x20_1 r20_2 x20_2 r20_3 x20_3 r20_4 x20_4
        generalize (((((v15.setCell ⟨w.heap.size, 0, none⟩ (.int .i64 ar)).setCell ⟨w.heap.size, 1, none⟩ (.int .i64 su)).setCell ⟨w.heap.size, 2, none⟩ (.int .i64 sx)).setCell ⟨w.heap.size, 3, none⟩ (.int .i64 sy)).setCell ⟨w.heap.size, 4, none⟩ (.bool ed)) = u20 at Q20 ⊢
        refine hK.out _ _ ?_ (fun hHeld20 => ?_)
        · exact ⟨((unhide Q20).at' 2 _ rfl).cell 0 _ rfl, ((unhide Q20).at' 2 _ rfl).cell 1 _ rfl, ((unhide Q20).at' 2 _ rfl).cell 2 _ rfl, ((unhide Q20).at' 2 _ rfl).cell 3 _ rfl, ((unhide Q20).at' 2 _ rfl).cell 4 _ rfl, ((unhide Q20).at' 3 _ rfl).cell 0 _ rfl, ((unhide Q20).at' 3 _ rfl).cell 1 _ rfl, ((unhide Q20).at' 3 _ rfl).cell 2 _ rfl⟩
        clear hK K
        refine wpAnyH_ready (rs := [6, 8]) (by kernel_rfl) (by simp) ?_
        refine (AllReadyH.cons rfl (fun K hK => ?_) (AllReadyH.cons rfl (fun K hK => ?_) AllReadyH.nil))
        · obtain ⟨z21, hz21⟩ := lit_cell ((unhide Q20).at' 1 _ rfl) (by simp) hi14n
          go_simp
          refine hK.out _ _ ?_ (fun hHeld21 => ?_)
          · exact ⟨((unhide Q20).at' 2 _ rfl).cell 0 _ rfl, ((unhide Q20).at' 2 _ rfl).cell 1 _ rfl, ((unhide Q20).at' 2 _ rfl).cell 2 _ rfl, ((unhide Q20).at' 2 _ rfl).cell 3 _ rfl, ((unhide Q20).at' 2 _ rfl).cell 4 _ rfl, ((unhide Q20).at' 3 _ rfl).cell 0 _ rfl, ((unhide Q20).at' 3 _ rfl).cell 1 _ rfl, ((unhide Q20).at' 3 _ rfl).cell 2 _ rfl⟩
          clear hK K
          refine wpAnyH_ready (rs := [8]) (by kernel_rfl) (by simp) ?_
          refine (AllReadyH.cons rfl (fun K hK => ?_) AllReadyH.nil)
          have r22_0 := ((unhide Q20).at' 4 _ rfl).cell 0 _ rfl
          have r22_1 := ((unhide Q20).at' 4 _ rfl).cell 1 _ rfl
          have r22_2 := ((unhide Q20).at' 4 _ rfl).cell 2 _ rfl
          have x22_0 := ((unhide Q20).at' 4 _ rfl).free 0
          have x22_1 := ((unhide Q20).at' 4 _ rfl).free 1
          have x22_2 := ((unhide Q20).at' 4 _ rfl).free 2
          have hne22 : ∀ x ∈ ([(w.heap.size, [.int .i64 ar, .int .i64 su, .int .i64 sx, .int .i64 sy, .bool ed], 40), (lb15, [.int .i64 1, .int .i64 8, .int .i64 20, .int .i64 40, .int .i64 0, .int .i64 41], 2), (db, [.int .i64 ar, .int .i64 su, .int .i64 sx, .int .i64 sy, .bool ed], 40), (fb, [.int .i64 wd, .int .i64 ht, .string s], 24)] : List (Nat × List Value × TypeId)), x.1 ≠ w.heap.size + 1 := by simp; omega
          have Q22 := hide (((((unhide Q20).pick (bs' := (w.heap.size + 1, [.int .i64 0, .int .i64 0, .string ⟨#[]⟩], 24) :: [(w.heap.size, [.int .i64 ar, .int .i64 su, .int .i64 sx, .int .i64 sy, .bool ed], 40), (lb15, [.int .i64 1, .int .i64 8, .int .i64 20, .int .i64 40, .int .i64 0, .int .i64 41], 2), (db, [.int .i64 ar, .int .i64 su, .int .i64 sx, .int .i64 sy, .bool ed], 40), (fb, [.int .i64 wd, .int .i64 ht, .string s], 24)]) (by intro x hx; simp only [List.mem_cons, List.not_mem_nil, or_false] at hx; rcases hx with rfl | rfl | rfl | rfl | rfl <;> simp)).set hne22 0 (.int .i64 wd)).set hne22 1 (.int .i64 ht)).set hne22 2 (.string s))
          go_simp
          clear r22_0 x22_0 r22_1 x22_1 r22_2 x22_2
          generalize (((u20.setCell ⟨w.heap.size + 1, 0, none⟩ (.int .i64 wd)).setCell ⟨w.heap.size + 1, 1, none⟩ (.int .i64 ht)).setCell ⟨w.heap.size + 1, 2, none⟩ (.string s)) = u22 at Q22 ⊢
          refine hK.out _ _ ?_ (fun hHeld22 => ?_)
          · exact ⟨((unhide Q22).at' 3 _ rfl).cell 0 _ rfl, ((unhide Q22).at' 3 _ rfl).cell 1 _ rfl, ((unhide Q22).at' 3 _ rfl).cell 2 _ rfl, ((unhide Q22).at' 3 _ rfl).cell 3 _ rfl, ((unhide Q22).at' 3 _ rfl).cell 4 _ rfl, ((unhide Q22).at' 4 _ rfl).cell 0 _ rfl, ((unhide Q22).at' 4 _ rfl).cell 1 _ rfl, ((unhide Q22).at' 4 _ rfl).cell 2 _ rfl⟩
          clear hK K
          refine wpAnyH_ready (rs := [9]) (by kernel_rfl) (by simp) ?_
          refine (AllReadyH.cons rfl (fun K hK => ?_) AllReadyH.nil)
          go_simp
          refine hK.out _ _ ?_ (fun hHeld23 => ?_)
          · exact ⟨((unhide Q22).at' 3 _ rfl).cell 0 _ rfl, ((unhide Q22).at' 3 _ rfl).cell 1 _ rfl, ((unhide Q22).at' 3 _ rfl).cell 2 _ rfl, ((unhide Q22).at' 3 _ rfl).cell 3 _ rfl, ((unhide Q22).at' 3 _ rfl).cell 4 _ rfl, ((unhide Q22).at' 4 _ rfl).cell 0 _ rfl, ((unhide Q22).at' 4 _ rfl).cell 1 _ rfl, ((unhide Q22).at' 4 _ rfl).cell 2 _ rfl⟩
          clear hK K
          refine wpAnyH_done (by kernel_rfl) ?_ _
          have u0_0 := ((unhide Q22).at' 1 _ rfl).cell 0 _ rfl
          have u0_1 := ((unhide Q22).at' 1 _ rfl).cell 1 _ rfl
          have u0_2 := ((unhide Q22).at' 1 _ rfl).cell 2 _ rfl
          have u0_3 := ((unhide Q22).at' 1 _ rfl).cell 3 _ rfl
          have u0_4 := ((unhide Q22).at' 1 _ rfl).cell 4 _ rfl
          have y0_0 := ((unhide Q22).at' 0 _ rfl).cell 0 _ rfl
          have y0_1 := ((unhide Q22).at' 0 _ rfl).cell 1 _ rfl
          have y0_2 := ((unhide Q22).at' 0 _ rfl).cell 2 _ rfl
          go_wp2_with fail
          exact bodyPost_ret (v := .tuple #[.agg #[.int .i64 ar, .int .i64 su, .int .i64 sx, .int .i64 sy, .bool ed], .agg #[.int .i64 wd, .int .i64 ht, .string s], .int .i64 z21]) (by simp [results, Try.results17, go_sem, u0_0, u0_1, u0_2, u0_3, u0_4, y0_0, y0_1, y0_2]) rfl ⟨by cases ed; exact ⟨_, _, _, _, .inl ⟨_, _, _, hs, _, rfl⟩⟩; exact ⟨_, _, _, _, .inr ⟨_, _, _, hs, _, rfl⟩⟩, (unhide Q22).bel⟩
        · have r24_0 := ((unhide Q20).at' 4 _ rfl).cell 0 _ rfl
          have r24_1 := ((unhide Q20).at' 4 _ rfl).cell 1 _ rfl
          have r24_2 := ((unhide Q20).at' 4 _ rfl).cell 2 _ rfl
          have x24_0 := ((unhide Q20).at' 4 _ rfl).free 0
          have x24_1 := ((unhide Q20).at' 4 _ rfl).free 1
          have x24_2 := ((unhide Q20).at' 4 _ rfl).free 2
          have hne24 : ∀ x ∈ ([(w.heap.size, [.int .i64 ar, .int .i64 su, .int .i64 sx, .int .i64 sy, .bool ed], 40), (lb15, [.int .i64 1, .int .i64 8, .int .i64 20, .int .i64 40, .int .i64 0, .int .i64 41], 2), (db, [.int .i64 ar, .int .i64 su, .int .i64 sx, .int .i64 sy, .bool ed], 40), (fb, [.int .i64 wd, .int .i64 ht, .string s], 24)] : List (Nat × List Value × TypeId)), x.1 ≠ w.heap.size + 1 := by simp; omega
          have Q24 := hide (((((unhide Q20).pick (bs' := (w.heap.size + 1, [.int .i64 0, .int .i64 0, .string ⟨#[]⟩], 24) :: [(w.heap.size, [.int .i64 ar, .int .i64 su, .int .i64 sx, .int .i64 sy, .bool ed], 40), (lb15, [.int .i64 1, .int .i64 8, .int .i64 20, .int .i64 40, .int .i64 0, .int .i64 41], 2), (db, [.int .i64 ar, .int .i64 su, .int .i64 sx, .int .i64 sy, .bool ed], 40), (fb, [.int .i64 wd, .int .i64 ht, .string s], 24)]) (by intro x hx; simp only [List.mem_cons, List.not_mem_nil, or_false] at hx; rcases hx with rfl | rfl | rfl | rfl | rfl <;> simp)).set hne24 0 (.int .i64 wd)).set hne24 1 (.int .i64 ht)).set hne24 2 (.string s))
          go_simp
          clear r24_0 x24_0 r24_1 x24_1 r24_2 x24_2
          generalize (((u20.setCell ⟨w.heap.size + 1, 0, none⟩ (.int .i64 wd)).setCell ⟨w.heap.size + 1, 1, none⟩ (.int .i64 ht)).setCell ⟨w.heap.size + 1, 2, none⟩ (.string s)) = u24 at Q24 ⊢
          refine hK.out _ _ ?_ (fun hHeld24 => ?_)
          · exact ⟨((unhide Q24).at' 3 _ rfl).cell 0 _ rfl, ((unhide Q24).at' 3 _ rfl).cell 1 _ rfl, ((unhide Q24).at' 3 _ rfl).cell 2 _ rfl, ((unhide Q24).at' 3 _ rfl).cell 3 _ rfl, ((unhide Q24).at' 3 _ rfl).cell 4 _ rfl, ((unhide Q24).at' 4 _ rfl).cell 0 _ rfl, ((unhide Q24).at' 4 _ rfl).cell 1 _ rfl, ((unhide Q24).at' 4 _ rfl).cell 2 _ rfl⟩
          clear hK K
          refine wpAnyH_ready (rs := [6]) (by kernel_rfl) (by simp) ?_
          refine (AllReadyH.cons rfl (fun K hK => ?_) AllReadyH.nil)
          obtain ⟨z25, hz25⟩ := lit_cell ((unhide Q24).at' 2 _ rfl) (by simp) hi14n
          go_simp
          refine hK.out _ _ ?_ (fun hHeld25 => ?_)
          · exact ⟨((unhide Q24).at' 3 _ rfl).cell 0 _ rfl, ((unhide Q24).at' 3 _ rfl).cell 1 _ rfl, ((unhide Q24).at' 3 _ rfl).cell 2 _ rfl, ((unhide Q24).at' 3 _ rfl).cell 3 _ rfl, ((unhide Q24).at' 3 _ rfl).cell 4 _ rfl, ((unhide Q24).at' 4 _ rfl).cell 0 _ rfl, ((unhide Q24).at' 4 _ rfl).cell 1 _ rfl, ((unhide Q24).at' 4 _ rfl).cell 2 _ rfl⟩
          clear hK K
          refine wpAnyH_ready (rs := [9]) (by kernel_rfl) (by simp) ?_
          refine (AllReadyH.cons rfl (fun K hK => ?_) AllReadyH.nil)
          go_simp
          refine hK.out _ _ ?_ (fun hHeld26 => ?_)
          · exact ⟨((unhide Q24).at' 3 _ rfl).cell 0 _ rfl, ((unhide Q24).at' 3 _ rfl).cell 1 _ rfl, ((unhide Q24).at' 3 _ rfl).cell 2 _ rfl, ((unhide Q24).at' 3 _ rfl).cell 3 _ rfl, ((unhide Q24).at' 3 _ rfl).cell 4 _ rfl, ((unhide Q24).at' 4 _ rfl).cell 0 _ rfl, ((unhide Q24).at' 4 _ rfl).cell 1 _ rfl, ((unhide Q24).at' 4 _ rfl).cell 2 _ rfl⟩
          clear hK K
          refine wpAnyH_done (by kernel_rfl) ?_ _
          have u0_0 := ((unhide Q24).at' 1 _ rfl).cell 0 _ rfl
          have u0_1 := ((unhide Q24).at' 1 _ rfl).cell 1 _ rfl
          have u0_2 := ((unhide Q24).at' 1 _ rfl).cell 2 _ rfl
          have u0_3 := ((unhide Q24).at' 1 _ rfl).cell 3 _ rfl
          have u0_4 := ((unhide Q24).at' 1 _ rfl).cell 4 _ rfl
          have y0_0 := ((unhide Q24).at' 0 _ rfl).cell 0 _ rfl
          have y0_1 := ((unhide Q24).at' 0 _ rfl).cell 1 _ rfl
          have y0_2 := ((unhide Q24).at' 0 _ rfl).cell 2 _ rfl
          go_wp2_with fail
          exact bodyPost_ret (v := .tuple #[.agg #[.int .i64 ar, .int .i64 su, .int .i64 sx, .int .i64 sy, .bool ed], .agg #[.int .i64 wd, .int .i64 ht, .string s], .int .i64 z25]) (by simp [results, Try.results17, go_sem, u0_0, u0_1, u0_2, u0_3, u0_4, y0_0, y0_1, y0_2]) rfl ⟨by cases ed; exact ⟨_, _, _, _, .inl ⟨_, _, _, hs, _, rfl⟩⟩; exact ⟨_, _, _, _, .inr ⟨_, _, _, hs, _, rfl⟩⟩, (unhide Q24).bel⟩
    · have r27_0 := ((unhide Q14).at' 2 _ rfl).cell 0 _ rfl
      have r27_1 := ((unhide Q14).at' 2 _ rfl).cell 1 _ rfl
      have r27_2 := ((unhide Q14).at' 2 _ rfl).cell 2 _ rfl
      have r27_3 := ((unhide Q14).at' 2 _ rfl).cell 3 _ rfl
      have r27_4 := ((unhide Q14).at' 2 _ rfl).cell 4 _ rfl
      have x27_0 := ((unhide Q14).at' 2 _ rfl).free 0
      have x27_1 := ((unhide Q14).at' 2 _ rfl).free 1
      have x27_2 := ((unhide Q14).at' 2 _ rfl).free 2
      have x27_3 := ((unhide Q14).at' 2 _ rfl).free 3
      have x27_4 := ((unhide Q14).at' 2 _ rfl).free 4
      have hne27 : ∀ x ∈ ([(db, [.int .i64 ar, .int .i64 su, .int .i64 sx, .int .i64 sy, .bool ed], 40), (fb, [.int .i64 wd, .int .i64 ht, .string s], 24), (w.heap.size + 1, [.int .i64 0, .int .i64 0, .string ⟨#[]⟩], 24)] : List (Nat × List Value × TypeId)), x.1 ≠ w.heap.size := by simp; omega
      have Q27 := hide (((((((unhide Q14).db.pick (bs' := (w.heap.size, [.int .i64 0, .int .i64 0, .int .i64 0, .int .i64 0, .bool false], 40) :: [(db, [.int .i64 ar, .int .i64 su, .int .i64 sx, .int .i64 sy, .bool ed], 40), (fb, [.int .i64 wd, .int .i64 ht, .string s], 24), (w.heap.size + 1, [.int .i64 0, .int .i64 0, .string ⟨#[]⟩], 24)]) (by intro x hx; simp only [List.mem_cons, List.not_mem_nil, or_false] at hx; rcases hx with rfl | rfl | rfl | rfl <;> simp)).set hne27 0 (.int .i64 ar)).set hne27 1 (.int .i64 su)).set hne27 2 (.int .i64 sx)).set hne27 3 (.int .i64 sy)).set hne27 4 (.bool ed))
      go_simp
      clear r27_0 x27_0 r27_1 x27_1 r27_2 x27_2 r27_3 x27_3 r27_4 x27_4
      generalize (((((w14.setCell ⟨w.heap.size, 0, none⟩ (.int .i64 ar)).setCell ⟨w.heap.size, 1, none⟩ (.int .i64 su)).setCell ⟨w.heap.size, 2, none⟩ (.int .i64 sx)).setCell ⟨w.heap.size, 3, none⟩ (.int .i64 sy)).setCell ⟨w.heap.size, 4, none⟩ (.bool ed)) = u27 at Q27 ⊢
      refine hK.out _ _ ?_ (fun hHeld27 => ?_)
      · exact ⟨((unhide Q27).at' 1 _ rfl).cell 0 _ rfl, ((unhide Q27).at' 1 _ rfl).cell 1 _ rfl, ((unhide Q27).at' 1 _ rfl).cell 2 _ rfl, ((unhide Q27).at' 1 _ rfl).cell 3 _ rfl, ((unhide Q27).at' 1 _ rfl).cell 4 _ rfl, ((unhide Q27).at' 2 _ rfl).cell 0 _ rfl, ((unhide Q27).at' 2 _ rfl).cell 1 _ rfl, ((unhide Q27).at' 2 _ rfl).cell 2 _ rfl⟩
      clear hK K
      refine wpAnyH_ready (rs := [2, 8]) (by kernel_rfl) (by simp) ?_
      refine (AllReadyH.cons rfl (fun K hK => ?_) (AllReadyH.cons rfl (fun K hK => ?_) AllReadyH.nil))
      · go_simp
        have Q28 := hide ((unhide Q27).alloc [.int .i64 1, .int .i64 8, .int .i64 20, .int .i64 40, .int .i64 0, .int .i64 41] 2)
        have hlw28 := ((unhide Q27).at' 1 _ rfl).lt
        generalize u27.alloc (.cells #[.int .i64 1, .int .i64 8, .int .i64 20, .int .i64 40, .int .i64 0, .int .i64 41] 2) = v28 at Q28 ⊢
        generalize u27.heap.size = lb28 at *
        refine hK.out _ _ ?_ (fun hHeld28 => ?_)
        · exact ⟨((unhide Q28).at' 2 _ rfl).cell 0 _ rfl, ((unhide Q28).at' 2 _ rfl).cell 1 _ rfl, ((unhide Q28).at' 2 _ rfl).cell 2 _ rfl, ((unhide Q28).at' 2 _ rfl).cell 3 _ rfl, ((unhide Q28).at' 2 _ rfl).cell 4 _ rfl, ((unhide Q28).at' 3 _ rfl).cell 0 _ rfl, ((unhide Q28).at' 3 _ rfl).cell 1 _ rfl, ((unhide Q28).at' 3 _ rfl).cell 2 _ rfl⟩
        clear hK K
        refine wpAnyH_take (i := 5) (v := ?_) rfl (by kernel_rfl) (by kernel_rfl) (by kernel_rfl) (fun _ _ _ h => h) (Or.inl ⟨by rfl, ?_⟩) (by assumption) ?_
        rotate_left
        · intro W0 hSw; (try dsimp only at hSw); go_simp <;> with_reducible rfl
        try simp only [Act.put, List.setIfInBounds_toArray, List.set_cons_zero, List.set_cons_succ]
        refine wpAnyH_ready (rs := [6, 8]) (by kernel_rfl) (by simp) ?_
        refine (AllReadyH.cons rfl (fun K hK => ?_) (AllReadyH.cons rfl (fun K hK => ?_) AllReadyH.nil))
        · obtain ⟨z29, hz29⟩ := lit_cell ((unhide Q28).at' 0 _ rfl) (by simp) hi14n
          go_simp
          refine hK.out _ _ ?_ (fun hHeld29 => ?_)
          · exact ⟨((unhide Q28).at' 2 _ rfl).cell 0 _ rfl, ((unhide Q28).at' 2 _ rfl).cell 1 _ rfl, ((unhide Q28).at' 2 _ rfl).cell 2 _ rfl, ((unhide Q28).at' 2 _ rfl).cell 3 _ rfl, ((unhide Q28).at' 2 _ rfl).cell 4 _ rfl, ((unhide Q28).at' 3 _ rfl).cell 0 _ rfl, ((unhide Q28).at' 3 _ rfl).cell 1 _ rfl, ((unhide Q28).at' 3 _ rfl).cell 2 _ rfl⟩
          clear hK K
          refine wpAnyH_ready (rs := [8]) (by kernel_rfl) (by simp) ?_
          refine (AllReadyH.cons rfl (fun K hK => ?_) AllReadyH.nil)
          have r30_0 := ((unhide Q28).at' 4 _ rfl).cell 0 _ rfl
          have r30_1 := ((unhide Q28).at' 4 _ rfl).cell 1 _ rfl
          have r30_2 := ((unhide Q28).at' 4 _ rfl).cell 2 _ rfl
          have x30_0 := ((unhide Q28).at' 4 _ rfl).free 0
          have x30_1 := ((unhide Q28).at' 4 _ rfl).free 1
          have x30_2 := ((unhide Q28).at' 4 _ rfl).free 2
          have hne30 : ∀ x ∈ ([(lb28, [.int .i64 1, .int .i64 8, .int .i64 20, .int .i64 40, .int .i64 0, .int .i64 41], 2), (w.heap.size, [.int .i64 ar, .int .i64 su, .int .i64 sx, .int .i64 sy, .bool ed], 40), (db, [.int .i64 ar, .int .i64 su, .int .i64 sx, .int .i64 sy, .bool ed], 40), (fb, [.int .i64 wd, .int .i64 ht, .string s], 24)] : List (Nat × List Value × TypeId)), x.1 ≠ w.heap.size + 1 := by simp; omega
          have Q30 := hide (((((unhide Q28).pick (bs' := (w.heap.size + 1, [.int .i64 0, .int .i64 0, .string ⟨#[]⟩], 24) :: [(lb28, [.int .i64 1, .int .i64 8, .int .i64 20, .int .i64 40, .int .i64 0, .int .i64 41], 2), (w.heap.size, [.int .i64 ar, .int .i64 su, .int .i64 sx, .int .i64 sy, .bool ed], 40), (db, [.int .i64 ar, .int .i64 su, .int .i64 sx, .int .i64 sy, .bool ed], 40), (fb, [.int .i64 wd, .int .i64 ht, .string s], 24)]) (by intro x hx; simp only [List.mem_cons, List.not_mem_nil, or_false] at hx; rcases hx with rfl | rfl | rfl | rfl | rfl <;> simp)).set hne30 0 (.int .i64 wd)).set hne30 1 (.int .i64 ht)).set hne30 2 (.string s))
          go_simp
          clear r30_0 x30_0 r30_1 x30_1 r30_2 x30_2
          generalize (((v28.setCell ⟨w.heap.size + 1, 0, none⟩ (.int .i64 wd)).setCell ⟨w.heap.size + 1, 1, none⟩ (.int .i64 ht)).setCell ⟨w.heap.size + 1, 2, none⟩ (.string s)) = u30 at Q30 ⊢
          refine hK.out _ _ ?_ (fun hHeld30 => ?_)
          · exact ⟨((unhide Q30).at' 3 _ rfl).cell 0 _ rfl, ((unhide Q30).at' 3 _ rfl).cell 1 _ rfl, ((unhide Q30).at' 3 _ rfl).cell 2 _ rfl, ((unhide Q30).at' 3 _ rfl).cell 3 _ rfl, ((unhide Q30).at' 3 _ rfl).cell 4 _ rfl, ((unhide Q30).at' 4 _ rfl).cell 0 _ rfl, ((unhide Q30).at' 4 _ rfl).cell 1 _ rfl, ((unhide Q30).at' 4 _ rfl).cell 2 _ rfl⟩
          clear hK K
          refine wpAnyH_ready (rs := [9]) (by kernel_rfl) (by simp) ?_
          refine (AllReadyH.cons rfl (fun K hK => ?_) AllReadyH.nil)
          go_simp
          refine hK.out _ _ ?_ (fun hHeld31 => ?_)
          · exact ⟨((unhide Q30).at' 3 _ rfl).cell 0 _ rfl, ((unhide Q30).at' 3 _ rfl).cell 1 _ rfl, ((unhide Q30).at' 3 _ rfl).cell 2 _ rfl, ((unhide Q30).at' 3 _ rfl).cell 3 _ rfl, ((unhide Q30).at' 3 _ rfl).cell 4 _ rfl, ((unhide Q30).at' 4 _ rfl).cell 0 _ rfl, ((unhide Q30).at' 4 _ rfl).cell 1 _ rfl, ((unhide Q30).at' 4 _ rfl).cell 2 _ rfl⟩
          clear hK K
          refine wpAnyH_done (by kernel_rfl) ?_ _
          have u0_0 := ((unhide Q30).at' 2 _ rfl).cell 0 _ rfl
          have u0_1 := ((unhide Q30).at' 2 _ rfl).cell 1 _ rfl
          have u0_2 := ((unhide Q30).at' 2 _ rfl).cell 2 _ rfl
          have u0_3 := ((unhide Q30).at' 2 _ rfl).cell 3 _ rfl
          have u0_4 := ((unhide Q30).at' 2 _ rfl).cell 4 _ rfl
          have y0_0 := ((unhide Q30).at' 0 _ rfl).cell 0 _ rfl
          have y0_1 := ((unhide Q30).at' 0 _ rfl).cell 1 _ rfl
          have y0_2 := ((unhide Q30).at' 0 _ rfl).cell 2 _ rfl
          go_wp2_with fail
          exact bodyPost_ret (v := .tuple #[.agg #[.int .i64 ar, .int .i64 su, .int .i64 sx, .int .i64 sy, .bool ed], .agg #[.int .i64 wd, .int .i64 ht, .string s], .int .i64 z29]) (by simp [results, Try.results17, go_sem, u0_0, u0_1, u0_2, u0_3, u0_4, y0_0, y0_1, y0_2]) rfl ⟨by cases ed; exact ⟨_, _, _, _, .inl ⟨_, _, _, hs, _, rfl⟩⟩; exact ⟨_, _, _, _, .inr ⟨_, _, _, hs, _, rfl⟩⟩, (unhide Q30).bel⟩
        · have r32_0 := ((unhide Q28).at' 4 _ rfl).cell 0 _ rfl
          have r32_1 := ((unhide Q28).at' 4 _ rfl).cell 1 _ rfl
          have r32_2 := ((unhide Q28).at' 4 _ rfl).cell 2 _ rfl
          have x32_0 := ((unhide Q28).at' 4 _ rfl).free 0
          have x32_1 := ((unhide Q28).at' 4 _ rfl).free 1
          have x32_2 := ((unhide Q28).at' 4 _ rfl).free 2
          have hne32 : ∀ x ∈ ([(lb28, [.int .i64 1, .int .i64 8, .int .i64 20, .int .i64 40, .int .i64 0, .int .i64 41], 2), (w.heap.size, [.int .i64 ar, .int .i64 su, .int .i64 sx, .int .i64 sy, .bool ed], 40), (db, [.int .i64 ar, .int .i64 su, .int .i64 sx, .int .i64 sy, .bool ed], 40), (fb, [.int .i64 wd, .int .i64 ht, .string s], 24)] : List (Nat × List Value × TypeId)), x.1 ≠ w.heap.size + 1 := by simp; omega
          have Q32 := hide (((((unhide Q28).pick (bs' := (w.heap.size + 1, [.int .i64 0, .int .i64 0, .string ⟨#[]⟩], 24) :: [(lb28, [.int .i64 1, .int .i64 8, .int .i64 20, .int .i64 40, .int .i64 0, .int .i64 41], 2), (w.heap.size, [.int .i64 ar, .int .i64 su, .int .i64 sx, .int .i64 sy, .bool ed], 40), (db, [.int .i64 ar, .int .i64 su, .int .i64 sx, .int .i64 sy, .bool ed], 40), (fb, [.int .i64 wd, .int .i64 ht, .string s], 24)]) (by intro x hx; simp only [List.mem_cons, List.not_mem_nil, or_false] at hx; rcases hx with rfl | rfl | rfl | rfl | rfl <;> simp)).set hne32 0 (.int .i64 wd)).set hne32 1 (.int .i64 ht)).set hne32 2 (.string s))
          go_simp
          clear r32_0 x32_0 r32_1 x32_1 r32_2 x32_2
          generalize (((v28.setCell ⟨w.heap.size + 1, 0, none⟩ (.int .i64 wd)).setCell ⟨w.heap.size + 1, 1, none⟩ (.int .i64 ht)).setCell ⟨w.heap.size + 1, 2, none⟩ (.string s)) = u32 at Q32 ⊢
          refine hK.out _ _ ?_ (fun hHeld32 => ?_)
          · exact ⟨((unhide Q32).at' 3 _ rfl).cell 0 _ rfl, ((unhide Q32).at' 3 _ rfl).cell 1 _ rfl, ((unhide Q32).at' 3 _ rfl).cell 2 _ rfl, ((unhide Q32).at' 3 _ rfl).cell 3 _ rfl, ((unhide Q32).at' 3 _ rfl).cell 4 _ rfl, ((unhide Q32).at' 4 _ rfl).cell 0 _ rfl, ((unhide Q32).at' 4 _ rfl).cell 1 _ rfl, ((unhide Q32).at' 4 _ rfl).cell 2 _ rfl⟩
          clear hK K
          refine wpAnyH_ready (rs := [6]) (by kernel_rfl) (by simp) ?_
          refine (AllReadyH.cons rfl (fun K hK => ?_) AllReadyH.nil)
          obtain ⟨z33, hz33⟩ := lit_cell ((unhide Q32).at' 1 _ rfl) (by simp) hi14n
          go_simp
          refine hK.out _ _ ?_ (fun hHeld33 => ?_)
          · exact ⟨((unhide Q32).at' 3 _ rfl).cell 0 _ rfl, ((unhide Q32).at' 3 _ rfl).cell 1 _ rfl, ((unhide Q32).at' 3 _ rfl).cell 2 _ rfl, ((unhide Q32).at' 3 _ rfl).cell 3 _ rfl, ((unhide Q32).at' 3 _ rfl).cell 4 _ rfl, ((unhide Q32).at' 4 _ rfl).cell 0 _ rfl, ((unhide Q32).at' 4 _ rfl).cell 1 _ rfl, ((unhide Q32).at' 4 _ rfl).cell 2 _ rfl⟩
          clear hK K
          refine wpAnyH_ready (rs := [9]) (by kernel_rfl) (by simp) ?_
          refine (AllReadyH.cons rfl (fun K hK => ?_) AllReadyH.nil)
          go_simp
          refine hK.out _ _ ?_ (fun hHeld34 => ?_)
          · exact ⟨((unhide Q32).at' 3 _ rfl).cell 0 _ rfl, ((unhide Q32).at' 3 _ rfl).cell 1 _ rfl, ((unhide Q32).at' 3 _ rfl).cell 2 _ rfl, ((unhide Q32).at' 3 _ rfl).cell 3 _ rfl, ((unhide Q32).at' 3 _ rfl).cell 4 _ rfl, ((unhide Q32).at' 4 _ rfl).cell 0 _ rfl, ((unhide Q32).at' 4 _ rfl).cell 1 _ rfl, ((unhide Q32).at' 4 _ rfl).cell 2 _ rfl⟩
          clear hK K
          refine wpAnyH_done (by kernel_rfl) ?_ _
          have u0_0 := ((unhide Q32).at' 2 _ rfl).cell 0 _ rfl
          have u0_1 := ((unhide Q32).at' 2 _ rfl).cell 1 _ rfl
          have u0_2 := ((unhide Q32).at' 2 _ rfl).cell 2 _ rfl
          have u0_3 := ((unhide Q32).at' 2 _ rfl).cell 3 _ rfl
          have u0_4 := ((unhide Q32).at' 2 _ rfl).cell 4 _ rfl
          have y0_0 := ((unhide Q32).at' 0 _ rfl).cell 0 _ rfl
          have y0_1 := ((unhide Q32).at' 0 _ rfl).cell 1 _ rfl
          have y0_2 := ((unhide Q32).at' 0 _ rfl).cell 2 _ rfl
          go_wp2_with fail
          exact bodyPost_ret (v := .tuple #[.agg #[.int .i64 ar, .int .i64 su, .int .i64 sx, .int .i64 sy, .bool ed], .agg #[.int .i64 wd, .int .i64 ht, .string s], .int .i64 z33]) (by simp [results, Try.results17, go_sem, u0_0, u0_1, u0_2, u0_3, u0_4, y0_0, y0_1, y0_2]) rfl ⟨by cases ed; exact ⟨_, _, _, _, .inl ⟨_, _, _, hs, _, rfl⟩⟩; exact ⟨_, _, _, _, .inr ⟨_, _, _, hs, _, rfl⟩⟩, (unhide Q32).bel⟩
      · have r35_0 := ((unhide Q27).at' 3 _ rfl).cell 0 _ rfl
        have r35_1 := ((unhide Q27).at' 3 _ rfl).cell 1 _ rfl
        have r35_2 := ((unhide Q27).at' 3 _ rfl).cell 2 _ rfl
        have x35_0 := ((unhide Q27).at' 3 _ rfl).free 0
        have x35_1 := ((unhide Q27).at' 3 _ rfl).free 1
        have x35_2 := ((unhide Q27).at' 3 _ rfl).free 2
        have hne35 : ∀ x ∈ ([(w.heap.size, [.int .i64 ar, .int .i64 su, .int .i64 sx, .int .i64 sy, .bool ed], 40), (db, [.int .i64 ar, .int .i64 su, .int .i64 sx, .int .i64 sy, .bool ed], 40), (fb, [.int .i64 wd, .int .i64 ht, .string s], 24)] : List (Nat × List Value × TypeId)), x.1 ≠ w.heap.size + 1 := by simp; omega
        have Q35 := hide (((((unhide Q27).pick (bs' := (w.heap.size + 1, [.int .i64 0, .int .i64 0, .string ⟨#[]⟩], 24) :: [(w.heap.size, [.int .i64 ar, .int .i64 su, .int .i64 sx, .int .i64 sy, .bool ed], 40), (db, [.int .i64 ar, .int .i64 su, .int .i64 sx, .int .i64 sy, .bool ed], 40), (fb, [.int .i64 wd, .int .i64 ht, .string s], 24)]) (by intro x hx; simp only [List.mem_cons, List.not_mem_nil, or_false] at hx; rcases hx with rfl | rfl | rfl | rfl <;> simp)).set hne35 0 (.int .i64 wd)).set hne35 1 (.int .i64 ht)).set hne35 2 (.string s))
        go_simp
        clear r35_0 x35_0 r35_1 x35_1 r35_2 x35_2
        generalize (((u27.setCell ⟨w.heap.size + 1, 0, none⟩ (.int .i64 wd)).setCell ⟨w.heap.size + 1, 1, none⟩ (.int .i64 ht)).setCell ⟨w.heap.size + 1, 2, none⟩ (.string s)) = u35 at Q35 ⊢
        refine hK.out _ _ ?_ (fun hHeld35 => ?_)
        · exact ⟨((unhide Q35).at' 2 _ rfl).cell 0 _ rfl, ((unhide Q35).at' 2 _ rfl).cell 1 _ rfl, ((unhide Q35).at' 2 _ rfl).cell 2 _ rfl, ((unhide Q35).at' 2 _ rfl).cell 3 _ rfl, ((unhide Q35).at' 2 _ rfl).cell 4 _ rfl, ((unhide Q35).at' 3 _ rfl).cell 0 _ rfl, ((unhide Q35).at' 3 _ rfl).cell 1 _ rfl, ((unhide Q35).at' 3 _ rfl).cell 2 _ rfl⟩
        clear hK K
        refine wpAnyH_ready (rs := [2]) (by kernel_rfl) (by simp) ?_
        refine (AllReadyH.cons rfl (fun K hK => ?_) AllReadyH.nil)
        go_simp
        have Q36 := hide ((unhide Q35).alloc [.int .i64 1, .int .i64 8, .int .i64 20, .int .i64 40, .int .i64 0, .int .i64 41] 2)
        have hlw36 := ((unhide Q35).at' 2 _ rfl).lt
        generalize u35.alloc (.cells #[.int .i64 1, .int .i64 8, .int .i64 20, .int .i64 40, .int .i64 0, .int .i64 41] 2) = v36 at Q36 ⊢
        generalize u35.heap.size = lb36 at *
        refine hK.out _ _ ?_ (fun hHeld36 => ?_)
        · exact ⟨((unhide Q36).at' 3 _ rfl).cell 0 _ rfl, ((unhide Q36).at' 3 _ rfl).cell 1 _ rfl, ((unhide Q36).at' 3 _ rfl).cell 2 _ rfl, ((unhide Q36).at' 3 _ rfl).cell 3 _ rfl, ((unhide Q36).at' 3 _ rfl).cell 4 _ rfl, ((unhide Q36).at' 4 _ rfl).cell 0 _ rfl, ((unhide Q36).at' 4 _ rfl).cell 1 _ rfl, ((unhide Q36).at' 4 _ rfl).cell 2 _ rfl⟩
        clear hK K
        refine wpAnyH_take (i := 5) (v := ?_) rfl (by kernel_rfl) (by kernel_rfl) (by kernel_rfl) (fun _ _ _ h => h) (Or.inl ⟨by rfl, ?_⟩) (by assumption) ?_
        rotate_left
        · intro W0 hSw; (try dsimp only at hSw); go_simp <;> with_reducible rfl
        try simp only [Act.put, List.setIfInBounds_toArray, List.set_cons_zero, List.set_cons_succ]
        refine wpAnyH_ready (rs := [6]) (by kernel_rfl) (by simp) ?_
        refine (AllReadyH.cons rfl (fun K hK => ?_) AllReadyH.nil)
        obtain ⟨z37, hz37⟩ := lit_cell ((unhide Q36).at' 0 _ rfl) (by simp) hi14n
        go_simp
        refine hK.out _ _ ?_ (fun hHeld37 => ?_)
        · exact ⟨((unhide Q36).at' 3 _ rfl).cell 0 _ rfl, ((unhide Q36).at' 3 _ rfl).cell 1 _ rfl, ((unhide Q36).at' 3 _ rfl).cell 2 _ rfl, ((unhide Q36).at' 3 _ rfl).cell 3 _ rfl, ((unhide Q36).at' 3 _ rfl).cell 4 _ rfl, ((unhide Q36).at' 4 _ rfl).cell 0 _ rfl, ((unhide Q36).at' 4 _ rfl).cell 1 _ rfl, ((unhide Q36).at' 4 _ rfl).cell 2 _ rfl⟩
        clear hK K
        refine wpAnyH_ready (rs := [9]) (by kernel_rfl) (by simp) ?_
        refine (AllReadyH.cons rfl (fun K hK => ?_) AllReadyH.nil)
        go_simp
        refine hK.out _ _ ?_ (fun hHeld38 => ?_)
        · exact ⟨((unhide Q36).at' 3 _ rfl).cell 0 _ rfl, ((unhide Q36).at' 3 _ rfl).cell 1 _ rfl, ((unhide Q36).at' 3 _ rfl).cell 2 _ rfl, ((unhide Q36).at' 3 _ rfl).cell 3 _ rfl, ((unhide Q36).at' 3 _ rfl).cell 4 _ rfl, ((unhide Q36).at' 4 _ rfl).cell 0 _ rfl, ((unhide Q36).at' 4 _ rfl).cell 1 _ rfl, ((unhide Q36).at' 4 _ rfl).cell 2 _ rfl⟩
        clear hK K
        refine wpAnyH_done (by kernel_rfl) ?_ _
        have u0_0 := ((unhide Q36).at' 2 _ rfl).cell 0 _ rfl
        have u0_1 := ((unhide Q36).at' 2 _ rfl).cell 1 _ rfl
        have u0_2 := ((unhide Q36).at' 2 _ rfl).cell 2 _ rfl
        have u0_3 := ((unhide Q36).at' 2 _ rfl).cell 3 _ rfl
        have u0_4 := ((unhide Q36).at' 2 _ rfl).cell 4 _ rfl
        have y0_0 := ((unhide Q36).at' 1 _ rfl).cell 0 _ rfl
        have y0_1 := ((unhide Q36).at' 1 _ rfl).cell 1 _ rfl
        have y0_2 := ((unhide Q36).at' 1 _ rfl).cell 2 _ rfl
        go_wp2_with fail
        exact bodyPost_ret (v := .tuple #[.agg #[.int .i64 ar, .int .i64 su, .int .i64 sx, .int .i64 sy, .bool ed], .agg #[.int .i64 wd, .int .i64 ht, .string s], .int .i64 z37]) (by simp [results, Try.results17, go_sem, u0_0, u0_1, u0_2, u0_3, u0_4, y0_0, y0_1, y0_2]) rfl ⟨by cases ed; exact ⟨_, _, _, _, .inl ⟨_, _, _, hs, _, rfl⟩⟩; exact ⟨_, _, _, _, .inr ⟨_, _, _, hs, _, rfl⟩⟩, (unhide Q36).bel⟩
end Go.Proofs.Ytmacbegchdjdnaa
