/- blobsAbove: the program's. -/
import Derived.Test.YtmacbegchdjdnaaBlG
import Derived.WalkMore
import Derived.Deep.RegionHeld
namespace Go.Proofs.Ytmacbegchdjdnaa
open Go.RowKit Go.Sort
set_option linter.unusedVariables false
set_option linter.unusedSimpArgs false

structure AboveSt (w wx : World) (wd ht : Nat) (s : ByteArray) (lv : Int) (T : Nat → Bool) (v : Value) (L : List Bl) : Prop where
  fr : FrAt wx w.heap.size wd ht s
  lev : Blk wx (w.heap.size + 1) [.int .i64 lv] 2
  taken : TakenAt wx (w.heap.size + 1 + 1) wd ht T
  all : wx.ownsRow (w.heap.size + 3) 40 5 v L.length (flatB L)
  bel : Below w.heap.size w wx
theorem AboveSt.kept {w wx wy : World} {wd ht : Nat} {s : ByteArray} {lv : Int} {T : Nat → Bool} {v : Value} {L : List Bl} (h : AboveSt w wx wd ht s lv T v L) (hB : Below wx.heap.size wx wy) : AboveSt w wy wd ht s lv T v L :=
  ⟨Blk.kept h.fr hB, h.lev.kept hB, h.taken.kept hB, own_kept h.all hB, below_call h.bel hB⟩
theorem zero_taken : Try.zeroCells82 = Array.replicate 192 (.bool false) := by kernel_rfl
theorem taken0 (w : World) (wd ht : Nat) : TakenAt (w.alloc (.cells Try.zeroCells82 82)) w.heap.size wd ht (fun _ => false) := by
  refine ⟨fun _ => false, ⟨Try.zeroCells82, heap_alloc_new w _, fun j hj => ?_⟩, fun _ _ _ _ => rfl⟩
  rw [zero_taken, Array.getElem?_replicate, if_pos hj]
theorem AboveSt.appended {w wx wy : World} {wd ht : Nat} {s : ByteArray} {lv : Int} {T : Nat → Bool} {v v7 : Value} {L : List Bl} {b : Bl} (h : AboveSt w wx wd ht s lv T v L) (hg : wx.grownBy wy v.ownBlock) (ho : wy.ownsRow (w.heap.size + 3) 40 5 v7 (L.length + 1) (flatB L ++ flatB [b])) : AboveSt w wy wd ht s lv T v7 (L ++ [b]) := by
  have ne : ∀ k, k < w.heap.size + 3 → some k ≠ v.ownBlock := fun k hk e => by have := (h.all.lt k e.symm).1; omega
  obtain ⟨g, hr, he⟩ := h.taken
  refine ⟨Blk.grown h.fr hg (ne _ (by omega)), h.lev.grown hg (ne _ (by omega)), ⟨g, RowV.grown hr hg (ne _ (by omega)), he⟩, ?_, h.bel.grown hg h.bel.size (fun k e => by have := (h.all.lt k e).1; omega)⟩
  rw [flatB_app, List.length_append]
  exact ho
theorem step_append_own {P : Program} {ops : Array Oper} {o : Oper} {a : Act} {w : World} {K : Act → World → Prop} {Q : Exit → Act → World → Prop} {E : Prop} (hgd : o.guard = none) (s x : Operand) (t : TypeId)
    (ho : o.op = .call { callee := .builtin .append, args := #[s, x], argTypes := #[t, t] })
    (base : Nat) (e : TypeId) (i : TypeInfo) (z : Value) (size bytes : Nat) (ht : P.underlying t = some (.slice e)) (hi : P.info? e = some i) (hz : i.zero = some z)
    (hsize : i.size = size) (hby : i.bytes = bytes) (hzs : z.cells.size = size) (hsz : 0 < size)
    (v : Value) (n : Nat) (xs : List Value) (hs : a.eval s = v) (hown : w.ownsRow base e size v n xs)
    (ad : Addr) (m c : Nat) (news : List Value) (hx : a.eval x = .slice (some ad) m c) (hl : news.length = m * size) (hnews : ∀ j u, news[j]? = some u → w.cell? (ad.add j) = some u) (h1 : ∀ u ∈ news, u.oneCell' = true)
    (h63 : n + m ≤ maxLen) (hbytes : (n + m) * bytes ≤ 140737488355328) (hbase : base ≤ w.heap.size)
    (h : ∀ v' w', w'.ownsRow base e size v' (n + m) (xs ++ news) → w.grownBy w' v.ownBlock → K (a.put o.dst v') w') : if Region.wanted o (yielded ops a.tmps) = true then Oper.wp P o a w K Q else E := by
  have hw : Region.wanted o (yielded ops a.tmps) = true := by simp [Region.wanted, hgd]
  rw [if_pos hw]
  exact wp_append_own w s x t ho base e i z size bytes ht hi hz hsize hby hzs hsz v n xs hs hown ad m c news hx hl hnews h1 h63 hbytes hbase fun v' w' h2 h3 _ => h v' w' h2 h3
set_option maxHeartbeats 4000000 in
set_option maxRecDepth 100000 in
theorem blobsAbove_any (wd ht : Nat) (s : ByteArray) (lv : Int) (w : World) (hw0 : 1 ≤ wd) (hw : wd ≤ 16) (hh0 : 1 ≤ ht) (hh : ht ≤ 12) (hs : s.size = wd * ht) :
    Calls Try.prog 32 #[.agg #[.int .i64 wd, .int .i64 ht, .string s], .int .i64 lv] w fun e w' => (∃ (k : Nat) (v : Value), e = .returned v ∧ k ≤ s.size ∧ (k = s.size ∨ 8 < (scanP (frOf wd ht s lv) k).2.length) ∧ w'.ownsRow w.heap.size 40 5 v (scanP (frOf wd ht s lv) k).2.length (flatB (scanP (frOf wd ht s lv) k).2)) ∧ Below w.heap.size w w' := by
  have HSZ := hide hs
  obtain ⟨i0, hinf, hz0, hz1, hz2⟩ := info_parts info_blob
  have hm8 : 400 ≤ maxLen := by decide +kernel
  have hn192 : s.size ≤ 192 := by rw [hs]; exact Nat.mul_le_mul hw hh
  clear hs
  have F0 := ((blk_new w [.int .i64 (wd : Int), .int .i64 (ht : Int), .string s] 24).alloc (.cells #[.int .i64 lv] 2)).alloc (.cells Try.zeroCells82 82)
  have L0 := (blk_new (w.alloc (.cells #[.int .i64 (wd : Int), .int .i64 (ht : Int), .string s] 24)) [.int .i64 lv] 2).alloc (.cells Try.zeroCells82 82)
  have T0 := taken0 ((w.alloc (.cells #[.int .i64 (wd : Int), .int .i64 (ht : Int), .string s] 24)).alloc (.cells #[.int .i64 lv] 2)) wd ht
  have B0 := below3 w (.cells #[.int .i64 (wd : Int), .int .i64 (ht : Int), .string s] 24) (.cells #[.int .i64 lv] 2) (.cells Try.zeroCells82 82)
  have e1 : (w.alloc (.cells #[.int .i64 (wd : Int), .int .i64 (ht : Int), .string s] 24)).heap.size = w.heap.size + 1 := by simp
  have e2 : ((w.alloc (.cells #[.int .i64 (wd : Int), .int .i64 (ht : Int), .string s] 24)).alloc (.cells #[.int .i64 lv] 2)).heap.size = w.heap.size + 1 + 1 := by simp
  rw [e1] at L0
  rw [e2] at T0
  clear e1 e2
  generalize hfe : frOf wd ht s lv = f
  have HF := hide hfe
  clear hfe
  have HFN : Hid (f.n = s.size) := hide (by rw [← unhide HF]; exact (unhide HSZ).symm)
  go_enter Try.func32, Try.ntmps32
  go_wp2_with fail
  go_step3
  go_wp2_with fail
  generalize (((w.alloc (.cells #[.int .i64 (wd : Int), .int .i64 (ht : Int), .string s] 24)).alloc (.cells #[.int .i64 lv] 2)).alloc (.cells Try.zeroCells82 82)) = W0 at F0 L0 T0 B0 ⊢
  have HST0 : Hid (AboveSt w W0 wd ht s lv (scanP f (0 * wd)).1 (.slice none 0 0) (scanP f (0 * wd)).2) := hide (by rw [Nat.zero_mul]; exact ⟨F0, L0, T0, World.ownsRow_nil _ _ _ _, B0⟩)
  have f1 := F0.cell 1 _ rfl
  clear L0 T0 B0
  go_step3
  go_wp2_with fail
  clear F0 f1
  go_loopw [8, 16] (fun v yy wr => ∃ y : Nat, y ≤ ht ∧ yy = .int .i64 y ∧ Hid (AboveSt w wr wd ht s lv (scanP f (y * wd)).1 v (scanP f (y * wd)).2)) (fun _ yy _ => ht - (intOf yy).toNat)
  case atStart => exact ⟨0, Nat.zero_le _, rfl, HST0⟩
  case round =>
    clear HST0
    obtain ⟨y, hy, rfl, HST⟩ := hrel
    by_cases hyn : y < ht
    · have hy2 : (y : Int) < (ht : Int) := by omega
      have f0 := Blk.cell (unhide HST).fr 0 _ rfl
      have HST1 : Hid (AboveSt w wr wd ht s lv (scanP f (y * wd + 0)).1 u8 (scanP f (y * wd + 0)).2) := HST
      clear HST
      go_wp2_with fail
      clear f0
      go_loopw [8, 21] (fun v xx wr => ∃ x : Nat, x ≤ wd ∧ xx = .int .i64 x ∧ Hid (AboveSt w wr wd ht s lv (scanP f (y * wd + x)).1 v (scanP f (y * wd + x)).2)) (fun _ xx _ => wd - (intOf xx).toNat)
      case atStart => exact ⟨0, Nat.zero_le _, rfl, HST1⟩
      case round =>
        clear HST1
        obtain ⟨x, hx, rfl, HST⟩ := hrel
        by_cases hxn : x < wd
        · have hx2 : (x : Int) < (wd : Int) := by omega
          have hkn : y * wd + x < s.size := by
            rw [unhide HSZ]
            have := Nat.mul_le_mul_left wd (show y + 1 ≤ ht by omega)
            rw [Nat.mul_add, Nat.mul_one, Nat.mul_comm wd y] at this
            omega
          have HSC : Hid (scanP f (y * wd + (x + 1)) = if litP f (scanP f (y * wd + x)).1 (y * wd + x) = true then ((blobP f (scanP f (y * wd + x)).1 (y * wd + x)).1, (scanP f (y * wd + x)).2 ++ [sumP f (blobP f (scanP f (y * wd + x)).1 (y * wd + x)).2]) else scanP f (y * wd + x)) := hide rfl
          have hsl := scanP_most f (y * wd + x)
          generalize scanP f (y * wd + x) = Sc at *
          obtain ⟨T1, S1⟩ := Sc
          simp only at *
          have Z1 := below1 wr (.cells #[.int .i64 (x : Int), .int .i64 (y : Int)] 84)
          have P1 := blk_new wr [.int .i64 (x : Int), .int .i64 (y : Int)] 84
          have ST1 := hide ((unhide HST).kept Z1)
          have HU : Hid (∀ z, u8.ownBlock = some z → z < wr.heap.size) := hide (fun z hv => ((unhide HST).all.lt z hv).2)
          have hlow : w.heap.size + 3 ≤ wr.heap.size := by have := (unhide HST).taken.lt; omega
          clear Z1 HST
          go_upto_region 12 with fail
          generalize hpb : wr.heap.size = pb at *
          clear hpb
          generalize wr.alloc (.cells #[.int .i64 (x : Int), .int .i64 (y : Int)] 84) = W1 at P1 ST1 ⊢
          have c0 := P1.cell 0 _ rfl
          have c1 := P1.cell 1 _ rfl
          go_wp2_with fail
          refine (lit_any (x : Int) (y : Int) w.heap.size (w.heap.size + 1) (w.heap.size + 1 + 1) wd ht s lv T1 _ hw hh (unhide HSZ) (unhide ST1).fr (unhide ST1).lev (unhide ST1).taken).mono ?_
          rintro e W2 ⟨rfl, hx2'⟩
          have HLe : Hid (litI wd ht s lv T1 x y = litP f T1 (y * wd + x)) := hide (by
            unfold litI holdsB
            rw [unhide HF, decide_eq_true (by omega), Bool.true_and]; rfl)
          rw [unhide HLe]
          have ST2 := hide ((unhide ST1).kept hx2')
          have P2 := P1.kept hx2'
          clear ST1 P1 hx2' c0 c1 HLe
          cases hl : litP f T1 (y * wd + x)
          · rw [hl] at HSC
            have HSC2 : Hid (scanP f (y * wd + (x + 1)) = (T1, S1)) := HSC
            have HST3 : Hid (AboveSt w W2 wd ht s lv (scanP f (y * wd + (x + 1))).1 u8 (scanP f (y * wd + (x + 1))).2) := hide (by rw [unhide HSC2]; exact unhide ST2)
            clear hl
            go_wp2_with fail
            go_roundw
            case rel => exact ⟨x + 1, by omega, by go_num, HST3⟩
            case measure => simp [intOf] <;> omega
          · rw [hl, if_pos rfl] at HSC
            have hT := (litP_yes hl).2
            clear hl
            have c0 := P2.cell 0 _ rfl
            have c1 := P2.cell 1 _ rfl
            have f0 := Blk.cell (unhide ST2).fr 0 _ rfl
            have f1 := Blk.cell (unhide ST2).fr 1 _ rfl
            have f2 := Blk.cell (unhide ST2).fr 2 _ rfl
            go_wp2_with fail
            refine wp_region_held_drew (S := (fun w' => w'.cell? ⟨w.heap.size, 0, none⟩ = some (.int .i64 (wd : Int)) ∧ w'.cell? ⟨w.heap.size, 1, none⟩ = some (.int .i64 (ht : Int)) ∧ w'.cell? ⟨w.heap.size, 2, none⟩ = some (.string s) ∧ w'.cell? ⟨pb, 0, none⟩ = some (.int .i64 (x : Int)) ∧ w'.cell? ⟨pb, 1, none⟩ = some (.int .i64 (y : Int)))) (by kernel_rfl) ?_ (fun hHeld => ?_)
            · exact ⟨f0, f1, f2, c0, c1⟩
            refine wpAnyH_take (i := 0) (v := ?_) rfl (by kernel_rfl) (by kernel_rfl) (by kernel_rfl) (fun _ _ _ h => h) (Or.inl ⟨by rfl, ?_⟩) (by assumption) ?_
            rotate_left
            · intro W0 hSw; (try dsimp only at hSw); go_simp <;> with_reducible rfl
            try simp only [Act.put, List.setIfInBounds_toArray, List.set_cons_zero, List.set_cons_succ]
            refine wpAnyH_take (i := 1) (v := ?_) rfl (by kernel_rfl) (by kernel_rfl) (by kernel_rfl) (fun _ _ _ h => h) (Or.inl ⟨by rfl, ?_⟩) (by assumption) ?_
            rotate_left
            · intro W0 hSw; (try dsimp only at hSw); go_simp <;> with_reducible rfl
            try simp only [Act.put, List.setIfInBounds_toArray, List.set_cons_zero, List.set_cons_succ]
            refine wpAnyH_take (i := 2) (v := ?_) rfl (by kernel_rfl) (by kernel_rfl) (by kernel_rfl) (fun _ _ _ h => h) (Or.inl ⟨by rfl, ?_⟩) (by assumption) ?_
            rotate_left
            · intro W0 hSw; (try dsimp only at hSw); go_simp <;> with_reducible rfl
            try simp only [Act.put, List.setIfInBounds_toArray, List.set_cons_zero, List.set_cons_succ]
            refine wpAnyH_take (i := 3) (v := ?_) rfl (by kernel_rfl) (by kernel_rfl) (by kernel_rfl) (fun _ _ _ h => h) (Or.inl ⟨by rfl, ?_⟩) (by assumption) ?_
            rotate_left
            · intro W0 hSw; (try dsimp only at hSw); go_simp <;> with_reducible rfl
            try simp only [Act.put, List.setIfInBounds_toArray, List.set_cons_zero, List.set_cons_succ]
            refine wpAnyH_take (i := 4) (v := ?_) rfl (by kernel_rfl) (by kernel_rfl) (by kernel_rfl) (fun _ _ _ h => h) (Or.inl ⟨by rfl, ?_⟩) (by assumption) ?_
            rotate_left
            · intro W0 hSw; (try dsimp only at hSw); go_simp <;> with_reducible rfl
            try simp only [Act.put, List.setIfInBounds_toArray, List.set_cons_zero, List.set_cons_succ]
            refine wpAnyH_ready (rs := [5]) (by kernel_rfl) (by simp) ?_
            refine AllReadyH.cons rfl (fun K hK => ?_) AllReadyH.nil
            go_simp
            have STd : AboveSt w W2.drew wd ht s lv T1 u8 S1 := ⟨(unhide ST2).fr, (unhide ST2).lev, (unhide ST2).taken.drewn, (unhide ST2).all, (unhide ST2).bel.drew⟩
            have P2d : Blk W2.drew pb _ _ := P2.drewn
            refine (touching_any x y w.heap.size (w.heap.size + 1) (w.heap.size + 1 + 1) wd ht s lv T1 _ hw hh (unhide HSZ) hxn hyn hT (by omega) (by omega) STd.fr STd.lev STd.taken).mono ?_
            rintro e W3 ⟨v3, rfl, hTs⟩
            rw [unhide HF] at hTs
            have hGood : Hid (Good f (cnt T1 f.n) (blobP f T1 (y * wd + x))) := hide (growP_good (by rw [unhide HFN]; exact hkn) hT f.n)
            obtain ⟨a3, cap3, hv3⟩ := own_slice hTs.found
            subst hv3
            have P3 := P2d.grown hTs.grown (fun e => by have := Option.some.inj e; omega)
            have ST3 : Hid (AboveSt w W3 wd ht s lv (blobP f T1 (y * wd + x)).1 u8 S1) := hide ⟨hTs.fr, hTs.lev, hTs.taken, STd.all.kept hTs.grown (by
              cases hv : u8.ownBlock with
              | none => exact .inl rfl
              | some z => exact .inr (fun e => by have := (STd.all.lt z hv).1; have := Option.some.inj e; omega)), STd.bel.grown hTs.grown (by have := STd.bel.size; omega) (fun k e => by have := Option.some.inj e; omega)⟩
            have HFo := hide hTs.found
            clear hTs STd P2d ST2 P2 c0 c1 f0 f1 f2
            generalize blobP f T1 (y * wd + x) = Bp at *
            obtain ⟨T2, Ab⟩ := Bp
            simp only at *
            have c0 := P3.cell 0 _ rfl
            have c1 := P3.cell 1 _ rfl
            have f0 := Blk.cell (unhide ST3).fr 0 _ rfl
            have f1 := Blk.cell (unhide ST3).fr 1 _ rfl
            have f2 := Blk.cell (unhide ST3).fr 2 _ rfl
            refine hK.out _ _ ?_ (fun hHeld1 => ?_)
            · exact ⟨f0, f1, f2, c0, c1⟩
            clear hK K hHeld
            refine wpAnyH_ready (rs := [6]) (by kernel_rfl) (by simp) ?_
            refine AllReadyH.cons rfl (fun K hK => ?_) AllReadyH.nil
            go_simp
            have hAl : Ab.length ≤ 192 := by have := (unhide hGood).len; rw [unhide HFN] at this; simp only at this; omega
            have hAin : ∀ j ∈ Ab, j < s.size := fun j hj => by have := (unhide hGood).lies j hj; rw [unhide HFN] at this; exact this
            have cB := hide (fun (W : World) (B : Nat) h => blobOf_any wd ht s lv Ab (.slice a3 Ab.length cap3) B W hw0 hw hh0 hh (unhide HSZ) hAl hAin h)
            rw [unhide HF] at cB
            generalize sumP f Ab = b at *
            obtain ⟨ar, su, sx, sy, ed⟩ := b
            refine ((unhide cB) _ _ (unhide HFo)).mono ?_
            rintro e W4 ⟨rfl, hx4⟩
            have ST4 := hide ((unhide ST3).kept hx4)
            have P4 := P3.kept hx4
            clear ST3 P3 hx4 c0 c1 f0 f1 f2 cB HFo hAl hAin
            have c0 := P4.cell 0 _ rfl
            have c1 := P4.cell 1 _ rfl
            have f0 := Blk.cell (unhide ST4).fr 0 _ rfl
            have f1 := Blk.cell (unhide ST4).fr 1 _ rfl
            have f2 := Blk.cell (unhide ST4).fr 2 _ rfl
            refine hK.out _ _ ?_ (fun hHeld2 => ?_)
            · exact ⟨f0, f1, f2, c0, c1⟩
            clear hK K hHeld1
            refine wpAnyH_ready (rs := [7]) (by kernel_rfl) (by simp) ?_
            refine AllReadyH.cons rfl (fun K hK => ?_) AllReadyH.nil
            simp only [blobL]
            go_simp
            have Z5 := below1 W4 (.cells #[.int .i64 (ar : Int), .int .i64 (su : Int), .int .i64 (sx : Int), .int .i64 (sy : Int), .bool ed] 40)
            have ST5 := (unhide ST4).kept Z5
            have P5 := P4.kept Z5
            have hz4 : w.heap.size + 3 ≤ W4.heap.size := by have := (unhide ST4).taken.lt; omega
            clear Z5 c0 c1 f0 f1 f2
            have c0 := P5.cell 0 _ rfl
            have c1 := P5.cell 1 _ rfl
            have f0 := Blk.cell ST5.fr 0 _ rfl
            have f1 := Blk.cell ST5.fr 1 _ rfl
            have f2 := Blk.cell ST5.fr 2 _ rfl
            refine hK.out _ _ ?_ (fun hHeld3 => ?_)
            · exact ⟨f0, f1, f2, c0, c1⟩
            clear hK K hHeld2
            refine wpAnyH_ready (rs := [8]) (by kernel_rfl) (by simp) ?_
            refine AllReadyH.cons rfl (fun K hK => ?_) AllReadyH.nil
            refine step_append_own rfl _ _ 27 rfl (w.heap.size + 3) 40 i0 (.agg #[.int .i64 0, .int .i64 0, .int .i64 0, .int .i64 0, .bool false]) 5 40 Try.underlying27 hinf hz0 hz1 hz2 rfl (by decide) _ _ _ rfl ST5.all ⟨W4.heap.size, 0, none⟩ 1 1 (flatB [⟨ar, su, sx, sy, ed⟩]) rfl rfl ?d2 (fun u hu => flatB_cell hu) ?d3 ?d4 ?d5 ?_
            case d2 => first | exact fun j u h => h | exact new_list _ _ _
            case d3 => omega
            case d4 => omega
            case d5 => simp; omega
            intro v7 V7 hown7 hgrow7
            have P7 : Blk V7 pb [.int .i64 (x : Int), .int .i64 (y : Int)] 84 := P5.grown hgrow7 (fun e => by have := unhide HU pb e.symm; omega)
            have ST7 := hide (ST5.appended hgrow7 hown7)
            clear ST4 ST5 P4 P5 c0 c1 f0 f1 f2 hown7 hgrow7
            have c0 := P7.cell 0 _ rfl
            have c1 := P7.cell 1 _ rfl
            have f0 := Blk.cell (unhide ST7).fr 0 _ rfl
            have f1 := Blk.cell (unhide ST7).fr 1 _ rfl
            have f2 := Blk.cell (unhide ST7).fr 2 _ rfl
            refine hK.out _ _ ?_ (fun hHeld4 => ?_)
            · exact ⟨f0, f1, f2, c0, c1⟩
            clear hK K hHeld3
            refine wpAnyH_ready (rs := [9]) (by kernel_rfl) (by simp) ?_
            refine AllReadyH.cons rfl (fun K hK => ?_) AllReadyH.nil
            go_simp
            refine hK.out _ _ ?_ (fun hHeld5 => ?_)
            · exact ⟨f0, f1, f2, c0, c1⟩
            clear hK K hHeld4
            refine wpAnyH_done (by kernel_rfl) ?_ _
            clear P7 c0 c1 f0 f1 f2 hHeld5
            have HST8 : Hid (AboveSt w V7 wd ht s lv (scanP f (y * wd + (x + 1))).1 v7 (scanP f (y * wd + (x + 1))).2) := hide (by rw [unhide HSC]; exact unhide ST7)
            have hl8 : (scanP f (y * wd + (x + 1))).2.length ≤ 192 := by rw [unhide HSC]; simp; omega
            clear ST7 HSC HU
            obtain ⟨a7, cap7, hv7⟩ := own_slice (unhide HST8).all
            subst hv7
            by_cases h8 : 8 < (scanP f (y * wd + (x + 1))).2.length
            · have h82 : (8 : Int) < ((scanP f (y * wd + (x + 1))).2.length : Int) := by omega
              go_wp2_with fail
              rw [Exit.noGoto_ret]
              go_ret
              exact ⟨⟨y * wd + (x + 1), _, rfl, hkn, .inr h8, own_lower (unhide HST8).all (Nat.le_add_right _ 3)⟩, (unhide HST8).bel⟩
            · have h82 : ¬ (8 : Int) < ((scanP f (y * wd + (x + 1))).2.length : Int) := by omega
              go_wp2_with fail
              go_roundw
              case rel => exact ⟨x + 1, by omega, by go_num, HST8⟩
              case measure => simp [intOf] <;> omega
        · have hxe : x = wd := by omega
          subst hxe
          have hxx : ¬ (x : Int) < (x : Int) := by omega
          have HST2 : Hid (AboveSt w wr x ht s lv (scanP f ((y + 1) * x)).1 u8 (scanP f ((y + 1) * x)).2) := hide (by rw [Nat.add_mul, Nat.one_mul]; exact unhide HST)
          clear HST
          go_wp2_with fail
          go_roundw
          case rel => exact ⟨y + 1, by omega, by go_num, HST2⟩
          case measure => simp [intOf] <;> omega
    · have hye : y = ht := by omega
      subst hye
      have hyy : ¬ (y : Int) < (y : Int) := by omega
      obtain ⟨a8, cap8, hv8⟩ := own_slice (unhide HST).all
      subst hv8
      have HN : Hid (y * wd = s.size) := hide (by rw [unhide HSZ, Nat.mul_comm])
      go_wp2_with fail
      go_ret
      exact ⟨⟨y * wd, _, rfl, Nat.le_of_eq (unhide HN), .inl (unhide HN), own_lower (unhide HST).all (Nat.le_add_right _ 3)⟩, (unhide HST).bel⟩
end Go.Proofs.Ytmacbegchdjdnaa
