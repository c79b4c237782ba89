/- Several texts in one: BlH, BlI, SpE, VecH, IdA, SkyMath. -/
import Derived.WalkMore
import Derived.Deep.RegionHeld
import Derived.Lib.QuietBelow
import Derived.Deep.QuietTactic
import Derived.BigQuiet
import Derived.Test.YteoonaanoenjiaaGreatDoorQObeyOwn5
import Derived.Test.YteoonaanoenjiaaGreatDoorQObeyOwn4
import Derived.Test.YteoonaanoenjiaaGreatDoorQObeyOwn1
namespace Go.Proofs.YteoonaanoenjiaaGreatDoor
open Go.RowKit Go.Sort
set_option linter.unusedVariables false
set_option linter.unusedSimpArgs false
structure AboveSt (w wx : World) (wd ht : Nat) (s : ByteArray) (lv : Int) (T : Nat → Bool) (v : Value) (L : List Bl) : Prop where
  fr : FrAt wx w.heap.size wd ht s
  lev : Blk wx (w.heap.size + 1) [.int .i64 lv] 2
  taken : TakenAt wx (w.heap.size + 1 + 1) wd ht T
  all : wx.ownsRow (w.heap.size + 3) 163 5 v L.length (flatB L)
  bel : Below w.heap.size w wx
theorem AboveSt.kept {w wx wy : World} {wd ht : Nat} {s : ByteArray} {lv : Int} {T : Nat → Bool} {v : Value} {L : List Bl} (h : AboveSt w wx wd ht s lv T v L) (hB : Below wx.heap.size wx wy) : AboveSt w wy wd ht s lv T v L :=
  ⟨Blk.kept h.fr hB, h.lev.kept hB, h.taken.kept hB, own_kept h.all hB, below_call h.bel hB⟩
theorem zero_taken : Tryz.zeroCells282 = Array.replicate 192 (.bool false) := by kernel_rfl
theorem taken0 (w : World) (wd ht : Nat) : TakenAt (w.alloc (.cells Tryz.zeroCells282 282)) w.heap.size wd ht (fun _ => false) := by
  refine ⟨fun _ => false, ⟨Tryz.zeroCells282, heap_alloc_new w _, fun j hj => ?_⟩, fun _ _ _ _ => rfl⟩
  rw [zero_taken, Array.getElem?_replicate, if_pos hj]
theorem AboveSt.appended {w wx wy : World} {wd ht : Nat} {s : ByteArray} {lv : Int} {T : Nat → Bool} {v v7 : Value} {L : List Bl} {b : Bl} (h : AboveSt w wx wd ht s lv T v L) (hg : wx.grownBy wy v.ownBlock) (ho : wy.ownsRow (w.heap.size + 3) 163 5 v7 (L.length + 1) (flatB L ++ flatB [b])) : AboveSt w wy wd ht s lv T v7 (L ++ [b]) := by
  have ne : ∀ k, k < w.heap.size + 3 → some k ≠ v.ownBlock := fun k hk e => by have := (h.all.lt k e.symm).1; omega
  obtain ⟨g, hr, he⟩ := h.taken
  refine ⟨Blk.grown h.fr hg (ne _ (by omega)), h.lev.grown hg (ne _ (by omega)), ⟨g, RowV.grown hr hg (ne _ (by omega)), he⟩, ?_, h.bel.grown hg h.bel.size (fun k e => by have := (h.all.lt k e).1; omega)⟩
  rw [flatB_app, List.length_append]
  exact ho
theorem step_append_own {P : Program} {ops : Array Oper} {o : Oper} {a : Act} {w : World} {K : Act → World → Prop} {Q : Exit → Act → World → Prop} {E : Prop} (hgd : o.guard = none) (s x : Operand) (t : TypeId)
    (ho : o.op = .call { callee := .builtin .append, args := #[s, x], argTypes := #[t, t] })
    (base : Nat) (e : TypeId) (i : TypeInfo) (z : Value) (size bytes : Nat) (ht : P.underlying t = some (.slice e)) (hi : P.info? e = some i) (hz : i.zero = some z)
    (hsize : i.size = size) (hby : i.bytes = bytes) (hzs : z.cells.size = size) (hsz : 0 < size)
    (v : Value) (n : Nat) (xs : List Value) (hs : a.eval s = v) (hown : w.ownsRow base e size v n xs)
    (ad : Addr) (m c : Nat) (news : List Value) (hx : a.eval x = .slice (some ad) m c) (hl : news.length = m * size) (hnews : ∀ j u, news[j]? = some u → w.cell? (ad.add j) = some u) (h1 : ∀ u ∈ news, u.oneCell' = true)
    (h63 : n + m ≤ maxLen) (hbytes : (n + m) * bytes ≤ 140737488355328) (hbase : base ≤ w.heap.size)
    (h : ∀ v' w', w'.ownsRow base e size v' (n + m) (xs ++ news) → w.grownBy w' v.ownBlock → K (a.put o.dst v') w') : if Region.wanted o (yielded ops a.tmps) = true then Oper.wp P o a w K Q else E := by
  have hw : Region.wanted o (yielded ops a.tmps) = true := by simp [Region.wanted, hgd]
  rw [if_pos hw]
  exact wp_append_own w s x t ho base e i z size bytes ht hi hz hsize hby hzs hsz v n xs hs hown ad m c news hx hl hnews h1 h63 hbytes hbase fun v' w' h2 h3 _ => h v' w' h2 h3
set_option maxHeartbeats 4000000 in
set_option maxRecDepth 100000 in
theorem blobsAbove_any (wd ht : Nat) (s : ByteArray) (lv : Int) (w : World) (hw0 : 1 ≤ wd) (hw : wd ≤ 16) (hh0 : 1 ≤ ht) (hh : ht ≤ 12) (hs : s.size = wd * ht) :
    Calls Tryz.prog 186 #[.agg #[.int .i64 wd, .int .i64 ht, .string s], .int .i64 lv] w fun e w' => (∃ (k : Nat) (v : Value), e = .returned v ∧ k ≤ s.size ∧ (k = s.size ∨ 8 < (scanP (frOf wd ht s lv) k).2.length) ∧ w'.ownsRow w.heap.size 163 5 v (scanP (frOf wd ht s lv) k).2.length (flatB (scanP (frOf wd ht s lv) k).2)) ∧ Below w.heap.size w w' := by
  have HSZ := yz hs
  obtain ⟨i0, hinf, hz0, hz1, hz2⟩ := info_parts info_blob
  have hm8 : 400 ≤ maxLen := by decide +kernel
  have hn192 : s.size ≤ 192 := by rw [hs]; exact Nat.mul_le_mul hw hh
  clear hs
  have F0 := ((blk_new w [.int .i64 (wd : Int), .int .i64 (ht : Int), .string s] 43).alloc (.cells #[.int .i64 lv] 2)).alloc (.cells Tryz.zeroCells282 282)
  have L0 := (blk_new (w.alloc (.cells #[.int .i64 (wd : Int), .int .i64 (ht : Int), .string s] 43)) [.int .i64 lv] 2).alloc (.cells Tryz.zeroCells282 282)
  have T0 := taken0 ((w.alloc (.cells #[.int .i64 (wd : Int), .int .i64 (ht : Int), .string s] 43)).alloc (.cells #[.int .i64 lv] 2)) wd ht
  have B0 := below3 w (.cells #[.int .i64 (wd : Int), .int .i64 (ht : Int), .string s] 43) (.cells #[.int .i64 lv] 2) (.cells Tryz.zeroCells282 282)
  have e1 : (w.alloc (.cells #[.int .i64 (wd : Int), .int .i64 (ht : Int), .string s] 43)).heap.size = w.heap.size + 1 := by simp
  have e2 : ((w.alloc (.cells #[.int .i64 (wd : Int), .int .i64 (ht : Int), .string s] 43)).alloc (.cells #[.int .i64 lv] 2)).heap.size = w.heap.size + 1 + 1 := by simp
  rw [e1] at L0
  rw [e2] at T0
  clear e1 e2
  generalize hfe : frOf wd ht s lv = f
  have HF := yz hfe
  clear hfe
  have HFN : Hid (f.n = s.size) := yz (by rw [← yx HF]; exact (yx HSZ).symm)
  go_enter Tryz.func186, Tryz.ntmps186
  go_wp2_with fail
  go_step3
  go_wp2_with fail
  generalize (((w.alloc (.cells #[.int .i64 (wd : Int), .int .i64 (ht : Int), .string s] 43)).alloc (.cells #[.int .i64 lv] 2)).alloc (.cells Tryz.zeroCells282 282)) = W0 at F0 L0 T0 B0 ⊢
  have HST0 : Hid (AboveSt w W0 wd ht s lv (scanP f (0 * wd)).1 (.slice none 0 0) (scanP f (0 * wd)).2) := yz (by rw [Nat.zero_mul]; exact ⟨F0, L0, T0, World.ownsRow_nil _ _ _ _, B0⟩)
  have f1 := F0.cell 1 _ rfl
  clear L0 T0 B0
  go_step3
  go_wp2_with fail
  clear F0 f1
  go_loopw [8, 16] (fun v yy wr => ∃ y : Nat, y ≤ ht ∧ yy = .int .i64 y ∧ Hid (AboveSt w wr wd ht s lv (scanP f (y * wd)).1 v (scanP f (y * wd)).2)) (fun _ yy _ => ht - (intOf yy).toNat)
  case atStart => exact ⟨0, Nat.zero_le _, rfl, HST0⟩
  case round =>
    clear HST0
    obtain ⟨y, hy, rfl, HST⟩ := hrel
    by_cases hyn : y < ht
    · have hy2 : (y : Int) < (ht : Int) := by omega
      have f0 := Blk.cell (yx HST).fr 0 _ rfl
      have HST1 : Hid (AboveSt w wr wd ht s lv (scanP f (y * wd + 0)).1 u8 (scanP f (y * wd + 0)).2) := HST
      clear HST
      go_wp2_with fail
      clear f0
      go_loopw [8, 21] (fun v xx wr => ∃ x : Nat, x ≤ wd ∧ xx = .int .i64 x ∧ Hid (AboveSt w wr wd ht s lv (scanP f (y * wd + x)).1 v (scanP f (y * wd + x)).2)) (fun _ xx _ => wd - (intOf xx).toNat)
      case atStart => exact ⟨0, Nat.zero_le _, rfl, HST1⟩
      case round =>
        clear HST1
        obtain ⟨x, hx, rfl, HST⟩ := hrel
        by_cases hxn : x < wd
        · have hx2 : (x : Int) < (wd : Int) := by omega
          have hkn : y * wd + x < s.size := by
            rw [yx HSZ]
            have := Nat.mul_le_mul_left wd (show y + 1 ≤ ht by omega)
            rw [Nat.mul_add, Nat.mul_one, Nat.mul_comm wd y] at this
            omega
          have HSC : Hid (scanP f (y * wd + (x + 1)) = if litP f (scanP f (y * wd + x)).1 (y * wd + x) = true then ((blobP f (scanP f (y * wd + x)).1 (y * wd + x)).1, (scanP f (y * wd + x)).2 ++ [sumP f (blobP f (scanP f (y * wd + x)).1 (y * wd + x)).2]) else scanP f (y * wd + x)) := yz rfl
          have hsl := scanP_most f (y * wd + x)
          generalize scanP f (y * wd + x) = Sc at *
          obtain ⟨T1, S1⟩ := Sc
          simp only at *
          have Z1 := below1 wr (.cells #[.int .i64 (x : Int), .int .i64 (y : Int)] 284)
          have P1 := blk_new wr [.int .i64 (x : Int), .int .i64 (y : Int)] 284
          have ST1 := yz ((yx HST).kept Z1)
          have HU : Hid (∀ z, u8.ownBlock = some z → z < wr.heap.size) := yz (fun z hv => ((yx HST).all.lt z hv).2)
          have hlow : w.heap.size + 3 ≤ wr.heap.size := by have := (yx HST).taken.lt; omega
          clear Z1 HST
          go_upto_region 12 with fail
          generalize hpb : wr.heap.size = pb at *
          clear hpb
          generalize wr.alloc (.cells #[.int .i64 (x : Int), .int .i64 (y : Int)] 284) = W1 at P1 ST1 ⊢
          have c0 := P1.cell 0 _ rfl
          have c1 := P1.cell 1 _ rfl
          go_wp2_with fail
          refine (lit_any (x : Int) (y : Int) w.heap.size (w.heap.size + 1) (w.heap.size + 1 + 1) wd ht s lv T1 _ hw hh (yx HSZ) (yx ST1).fr (yx ST1).lev (yx ST1).taken).mono ?_
          rintro e W2 ⟨rfl, hx2'⟩
          have HLe : Hid (litI wd ht s lv T1 x y = litP f T1 (y * wd + x)) := yz (by
            unfold litI holdsB
            rw [yx HF, decide_eq_true (by omega), Bool.true_and]; rfl)
          rw [yx HLe]
          have ST2 := yz ((yx ST1).kept hx2')
          have P2 := P1.kept hx2'
          clear ST1 P1 hx2' c0 c1 HLe
          cases hl : litP f T1 (y * wd + x)
          · rw [hl] at HSC
            have HSC2 : Hid (scanP f (y * wd + (x + 1)) = (T1, S1)) := HSC
            have HST3 : Hid (AboveSt w W2 wd ht s lv (scanP f (y * wd + (x + 1))).1 u8 (scanP f (y * wd + (x + 1))).2) := yz (by rw [yx HSC2]; exact yx ST2)
            clear hl
            go_wp2_with fail
            go_roundw
            case rel => exact ⟨x + 1, by omega, by go_num, HST3⟩
            case measure => simp [intOf] <;> omega
          · rw [hl, if_pos rfl] at HSC
            have hT := (litP_yes hl).2
            clear hl
            have c0 := P2.cell 0 _ rfl
            have c1 := P2.cell 1 _ rfl
            have f0 := Blk.cell (yx ST2).fr 0 _ rfl
            have f1 := Blk.cell (yx ST2).fr 1 _ rfl
            have f2 := Blk.cell (yx ST2).fr 2 _ rfl
            go_wp2_with fail
            refine wp_region_held_drew (S := (fun w' => w'.cell? ⟨w.heap.size, 0, none⟩ = some (.int .i64 (wd : Int)) ∧ w'.cell? ⟨w.heap.size, 1, none⟩ = some (.int .i64 (ht : Int)) ∧ w'.cell? ⟨w.heap.size, 2, none⟩ = some (.string s) ∧ w'.cell? ⟨pb, 0, none⟩ = some (.int .i64 (x : Int)) ∧ w'.cell? ⟨pb, 1, none⟩ = some (.int .i64 (y : Int)))) (by kernel_rfl) ?_ (fun hHeld => ?_)
            · exact ⟨f0, f1, f2, c0, c1⟩
            refine wpAnyH_take (i := 0) (v := ?_) rfl (by kernel_rfl) (by kernel_rfl) (by kernel_rfl) (fun _ _ _ h => h) (Or.inl ⟨by rfl, ?_⟩) (by assumption) ?_
            rotate_left
            · intro W0 hSw; (try dsimp only at hSw); go_simp <;> with_reducible rfl
            try simp only [Act.put, List.setIfInBounds_toArray, List.set_cons_zero, List.set_cons_succ]
            refine wpAnyH_take (i := 1) (v := ?_) rfl (by kernel_rfl) (by kernel_rfl) (by kernel_rfl) (fun _ _ _ h => h) (Or.inl ⟨by rfl, ?_⟩) (by assumption) ?_
            rotate_left
            · intro W0 hSw; (try dsimp only at hSw); go_simp <;> with_reducible rfl
            try simp only [Act.put, List.setIfInBounds_toArray, List.set_cons_zero, List.set_cons_succ]
            refine wpAnyH_take (i := 2) (v := ?_) rfl (by kernel_rfl) (by kernel_rfl) (by kernel_rfl) (fun _ _ _ h => h) (Or.inl ⟨by rfl, ?_⟩) (by assumption) ?_
            rotate_left
            · intro W0 hSw; (try dsimp only at hSw); go_simp <;> with_reducible rfl
            try simp only [Act.put, List.setIfInBounds_toArray, List.set_cons_zero, List.set_cons_succ]
            refine wpAnyH_take (i := 3) (v := ?_) rfl (by kernel_rfl) (by kernel_rfl) (by kernel_rfl) (fun _ _ _ h => h) (Or.inl ⟨by rfl, ?_⟩) (by assumption) ?_
            rotate_left
            · intro W0 hSw; (try dsimp only at hSw); go_simp <;> with_reducible rfl
            try simp only [Act.put, List.setIfInBounds_toArray, List.set_cons_zero, List.set_cons_succ]
            refine wpAnyH_take (i := 4) (v := ?_) rfl (by kernel_rfl) (by kernel_rfl) (by kernel_rfl) (fun _ _ _ h => h) (Or.inl ⟨by rfl, ?_⟩) (by assumption) ?_
            rotate_left
            · intro W0 hSw; (try dsimp only at hSw); go_simp <;> with_reducible rfl
            try simp only [Act.put, List.setIfInBounds_toArray, List.set_cons_zero, List.set_cons_succ]
            refine wpAnyH_ready (rs := [5]) (by kernel_rfl) (by simp) ?_
            refine AllReadyH.cons rfl (fun K hK => ?_) AllReadyH.nil
            go_simp
            have STd : AboveSt w W2.drew wd ht s lv T1 u8 S1 := ⟨(yx ST2).fr, (yx ST2).lev, (yx ST2).taken.drewn, (yx ST2).all, (yx ST2).bel.drew⟩
            have P2d : Blk W2.drew pb _ _ := P2.drewn
            refine (touching_any x y w.heap.size (w.heap.size + 1) (w.heap.size + 1 + 1) wd ht s lv T1 _ hw hh (yx HSZ) hxn hyn hT (by omega) (by omega) STd.fr STd.lev STd.taken).mono ?_
            rintro e W3 ⟨v3, rfl, hTs⟩
            rw [yx HF] at hTs
            have hGood : Hid (Good f (cnt T1 f.n) (blobP f T1 (y * wd + x))) := yz (growP_good (by rw [yx HFN]; exact hkn) hT f.n)
            obtain ⟨a3, cap3, hv3⟩ := own_slice hTs.found
            subst hv3
            have P3 := P2d.grown hTs.grown (fun e => by have := Option.some.inj e; omega)
            have ST3 : Hid (AboveSt w W3 wd ht s lv (blobP f T1 (y * wd + x)).1 u8 S1) := yz ⟨hTs.fr, hTs.lev, hTs.taken, STd.all.kept hTs.grown (by
              cases hv : u8.ownBlock with
              | none => exact .inl rfl
              | some z => exact .inr (fun e => by have := (STd.all.lt z hv).1; have := Option.some.inj e; omega)), STd.bel.grown hTs.grown (by have := STd.bel.size; omega) (fun k e => by have := Option.some.inj e; omega)⟩
            have HFo := yz hTs.found
            clear hTs STd P2d ST2 P2 c0 c1 f0 f1 f2
            generalize blobP f T1 (y * wd + x) = Bp at *
            obtain ⟨T2, Ab⟩ := Bp
            simp only at *
            have c0 := P3.cell 0 _ rfl
            have c1 := P3.cell 1 _ rfl
            have f0 := Blk.cell (yx ST3).fr 0 _ rfl
            have f1 := Blk.cell (yx ST3).fr 1 _ rfl
            have f2 := Blk.cell (yx ST3).fr 2 _ rfl
            refine hK.out _ _ ?_ (fun hHeld1 => ?_)
            · exact ⟨f0, f1, f2, c0, c1⟩
            clear hK K hHeld
            refine wpAnyH_ready (rs := [6]) (by kernel_rfl) (by simp) ?_
            refine AllReadyH.cons rfl (fun K hK => ?_) AllReadyH.nil
            go_simp
            have hAl : Ab.length ≤ 192 := by have := (yx hGood).len; rw [yx HFN] at this; simp only at this; omega
            have hAin : ∀ j ∈ Ab, j < s.size := fun j hj => by have := (yx hGood).lies j hj; rw [yx HFN] at this; exact this
            have cB := yz (fun (W : World) (B : Nat) h => blobOf_any wd ht s lv Ab (.slice a3 Ab.length cap3) B W hw0 hw hh0 hh (yx HSZ) hAl hAin h)
            rw [yx HF] at cB
            generalize sumP f Ab = b at *
            obtain ⟨ar, su, sx, sy, ed⟩ := b
            refine ((yx cB) _ _ (yx HFo)).mono ?_
            rintro e W4 ⟨rfl, hx4⟩
            have ST4 := yz ((yx ST3).kept hx4)
            have P4 := P3.kept hx4
            clear ST3 P3 hx4 c0 c1 f0 f1 f2 cB HFo hAl hAin
            have c0 := P4.cell 0 _ rfl
            have c1 := P4.cell 1 _ rfl
            have f0 := Blk.cell (yx ST4).fr 0 _ rfl
            have f1 := Blk.cell (yx ST4).fr 1 _ rfl
            have f2 := Blk.cell (yx ST4).fr 2 _ rfl
            refine hK.out _ _ ?_ (fun hHeld2 => ?_)
            · exact ⟨f0, f1, f2, c0, c1⟩
            clear hK K hHeld1
            refine wpAnyH_ready (rs := [7]) (by kernel_rfl) (by simp) ?_
            refine AllReadyH.cons rfl (fun K hK => ?_) AllReadyH.nil
            simp only [blobL]
            go_simp
            have Z5 := below1 W4 (.cells #[.int .i64 (ar : Int), .int .i64 (su : Int), .int .i64 (sx : Int), .int .i64 (sy : Int), .bool ed] 163)
            have ST5 := (yx ST4).kept Z5
            have P5 := P4.kept Z5
            have hz4 : w.heap.size + 3 ≤ W4.heap.size := by have := (yx ST4).taken.lt; omega
            clear Z5 c0 c1 f0 f1 f2
            have c0 := P5.cell 0 _ rfl
            have c1 := P5.cell 1 _ rfl
            have f0 := Blk.cell ST5.fr 0 _ rfl
            have f1 := Blk.cell ST5.fr 1 _ rfl
            have f2 := Blk.cell ST5.fr 2 _ rfl
            refine hK.out _ _ ?_ (fun hHeld3 => ?_)
            · exact ⟨f0, f1, f2, c0, c1⟩
            clear hK K hHeld2
            refine wpAnyH_ready (rs := [8]) (by kernel_rfl) (by simp) ?_
            refine AllReadyH.cons rfl (fun K hK => ?_) AllReadyH.nil
            refine step_append_own rfl _ _ 158 rfl (w.heap.size + 3) 163 i0 (.agg #[.int .i64 0, .int .i64 0, .int .i64 0, .int .i64 0, .bool false]) 5 40 Tryz.underlying158 hinf hz0 hz1 hz2 rfl (by decide) _ _ _ rfl ST5.all ⟨W4.heap.size, 0, none⟩ 1 1 (flatB [⟨ar, su, sx, sy, ed⟩]) rfl rfl ?d2 (fun u hu => flatB_cell hu) ?d3 ?d4 ?d5 ?_
            case d2 => first | exact fun j u h => h | exact new_list _ _ _
            case d3 => omega
            case d4 => omega
            case d5 => simp; omega
            intro v7 V7 hown7 hgrow7
            have P7 : Blk V7 pb [.int .i64 (x : Int), .int .i64 (y : Int)] 284 := P5.grown hgrow7 (fun e => by have := yx HU pb e.symm; omega)
            have ST7 := yz (ST5.appended hgrow7 hown7)
            clear ST4 ST5 P4 P5 c0 c1 f0 f1 f2 hown7 hgrow7
            have c0 := P7.cell 0 _ rfl
            have c1 := P7.cell 1 _ rfl
            have f0 := Blk.cell (yx ST7).fr 0 _ rfl
            have f1 := Blk.cell (yx ST7).fr 1 _ rfl
            have f2 := Blk.cell (yx ST7).fr 2 _ rfl
            refine hK.out _ _ ?_ (fun hHeld4 => ?_)
            · exact ⟨f0, f1, f2, c0, c1⟩
            clear hK K hHeld3
            refine wpAnyH_ready (rs := [9]) (by kernel_rfl) (by simp) ?_
            refine AllReadyH.cons rfl (fun K hK => ?_) AllReadyH.nil
            go_simp
            refine hK.out _ _ ?_ (fun hHeld5 => ?_)
            · exact ⟨f0, f1, f2, c0, c1⟩
            clear hK K hHeld4
            refine wpAnyH_done (by kernel_rfl) ?_ _
            clear P7 c0 c1 f0 f1 f2 hHeld5
            have HST8 : Hid (AboveSt w V7 wd ht s lv (scanP f (y * wd + (x + 1))).1 v7 (scanP f (y * wd + (x + 1))).2) := yz (by rw [yx HSC]; exact yx ST7)
            have hl8 : (scanP f (y * wd + (x + 1))).2.length ≤ 192 := by rw [yx HSC]; simp; omega
            clear ST7 HSC HU
            obtain ⟨a7, cap7, hv7⟩ := own_slice (yx HST8).all
            subst hv7
            by_cases h8 : 8 < (scanP f (y * wd + (x + 1))).2.length
            · have h82 : (8 : Int) < ((scanP f (y * wd + (x + 1))).2.length : Int) := by omega
              go_wp2_with fail
              rw [Exit.noGoto_ret]
              go_ret
              exact ⟨⟨y * wd + (x + 1), _, rfl, hkn, .inr h8, own_lower (yx HST8).all (Nat.le_add_right _ 3)⟩, (yx HST8).bel⟩
            · have h82 : ¬ (8 : Int) < ((scanP f (y * wd + (x + 1))).2.length : Int) := by omega
              go_wp2_with fail
              go_roundw
              case rel => exact ⟨x + 1, by omega, by go_num, HST8⟩
              case measure => simp [intOf] <;> omega
        · have hxe : x = wd := by omega
          subst hxe
          have hxx : ¬ (x : Int) < (x : Int) := by omega
          have HST2 : Hid (AboveSt w wr x ht s lv (scanP f ((y + 1) * x)).1 u8 (scanP f ((y + 1) * x)).2) := yz (by rw [Nat.add_mul, Nat.one_mul]; exact yx HST)
          clear HST
          go_wp2_with fail
          go_roundw
          case rel => exact ⟨y + 1, by omega, by go_num, HST2⟩
          case measure => simp [intOf] <;> omega
    · have hye : y = ht := by omega
      subst hye
      have hyy : ¬ (y : Int) < (y : Int) := by omega
      obtain ⟨a8, cap8, hv8⟩ := own_slice (yx HST).all
      subst hv8
      have HN : Hid (y * wd = s.size) := yz (by rw [yx HSZ, Nat.mul_comm])
      go_wp2_with fail
      go_ret
      exact ⟨⟨y * wd, _, rfl, Nat.le_of_eq (yx HN), .inl (yx HN), own_lower (yx HST).all (Nat.le_add_right _ 3)⟩, (yx HST).bel⟩
set_option maxRecDepth 100000 in
theorem isLevel_any (lv : Int) (w : World) : Calls Tryz.prog 77 #[.int .i64 lv] w fun e w' => e = .returned (.bool (levB lv)) ∧ Below w.heap.size w w' := by
  by_cases k1 : 0 ≤ lv
  · by_cases k2 : lv ≤ 255
    · have HV : Hid (levB lv = true) := yz (by unfold levB; simp [k1, k2])
      go_enter Tryz.func77, Tryz.ntmps77
      go_wp2_with fail
      go_ret
      exact ⟨by rw [yx HV]; simp [go_sem, k1, k2], Below.refl _ _⟩
    · have HV : Hid (levB lv = false) := yz (by unfold levB; simp [k1, k2])
      go_enter Tryz.func77, Tryz.ntmps77
      go_wp2_with fail
      go_ret
      exact ⟨by rw [yx HV]; simp [go_sem, k1, k2], Below.refl _ _⟩
  · have HV : Hid (levB lv = false) := yz (by unfold levB; simp [k1])
    go_enter Tryz.func77, Tryz.ntmps77
    go_wp2_with fail
    go_ret
    exact ⟨by rw [yx HV]; simp [go_sem, k1], Below.refl _ _⟩
theorem scanB_more (f : Fr) (k n : Nat) (h : k ≤ n) (h8 : 8 < (scanP f k).2.length) : 8 < (scanP f n).2.length := by
  have := scanP_len f k (n - k)
  rw [show k + (n - k) = n by omega] at this
  omega
set_option maxHeartbeats 4000000 in
set_option maxRecDepth 100000 in
theorem implBlobsOf_any (wd ht : Int) (s : ByteArray) (lv : Int) (w : World) (hs : s.size ≤ maxLen) :
    Calls Tryz.prog 153 #[.agg #[.int .i64 wd, .int .i64 ht, .string s], .int .i64 lv] w fun e w' => (∃ v, e = .returned (.agg #[v, .int .i64 (codeB wd ht s lv)]) ∧ w'.ownsRow w.heap.size 163 5 v (resB wd ht s lv).length (flatB (resB wd ht s lv))) ∧ Below w.heap.size w w' := by
  have A0 := (blk_new w [.int .i64 wd, .int .i64 ht, .string s] 43).alloc (.cells #[.slice none 0 0, .int .i64 0] 160)
  have R0 := blk_new (w.alloc (.cells #[.int .i64 wd, .int .i64 ht, .string s] 43)) [.slice none 0 0, .int .i64 0] 160
  have e1 : (w.alloc (.cells #[.int .i64 wd, .int .i64 ht, .string s] 43)).heap.size = w.heap.size + 1 := by simp
  rw [e1] at R0
  have B0 := below2 w (.cells #[.int .i64 wd, .int .i64 ht, .string s] 43) (.cells #[.slice none 0 0, .int .i64 0] 160)
  clear e1
  go_enter Tryz.func153, Tryz.ntmps153
  go_wp2_with fail
  generalize (w.alloc (.cells #[.int .i64 wd, .int .i64 ht, .string s] 43)).alloc (.cells #[.slice none 0 0, .int .i64 0] 160) = W0 at A0 R0 B0 ⊢
  obtain ⟨ob, hob⟩ : ∃ ob, ob = w.heap.size + 1 := ⟨_, rfl⟩
  obtain ⟨fb, hfb⟩ : ∃ fb, fb = w.heap.size := ⟨_, rfl⟩
  rw [← hob] at R0 ⊢
  rw [← hfb] at A0 ⊢
  have lfb : w.heap.size ≤ fb := by omega
  have lob : w.heap.size ≤ ob := by omega
  have lne : fb ≠ ob := by omega
  clear hob hfb
  refine (frameRight_any wd ht s _).mono ?_
  rintro e W1 ⟨rfl, hx⟩
  have A1 := A0.kept hx
  have R1 := R0.kept hx
  have B1 := below_call B0 hx
  clear hx A0 R0 B0
  cases k1 : frameB wd ht s
  case false =>
    have HV := yz (resB_no (wd := wd) (ht := ht) (s := s) (lv := lv) (by unfold okB; rw [k1]; rfl))
    have r0 := R1.cell 0 _ rfl
    have r1 := R1.cell 1 _ rfl
    have g0 := R1.free 0
    have g1 := R1.free 1
    go_wp2_with fail
    rw [(yx HV).1, (yx HV).2]
    exact bodyPost_ret (v := .agg #[.slice none 0 0, .int .i64 1]) (by simp [results, Tryz.results153, go_sem, r0, r1]) rfl ⟨⟨_, rfl, World.ownsRow_nil _ _ _ _⟩, (B1.setCell lob _).setCell lob _⟩
  go_wp2_with fail
  refine (isLevel_any lv _).mono ?_
  rintro e W2 ⟨rfl, hx⟩
  have A2 := A1.kept hx
  have R2 := R1.kept hx
  have B2 := below_call B1 hx
  clear hx A1 R1 B1
  cases k2 : levB lv
  case false =>
    have HV := yz (resB_no (wd := wd) (ht := ht) (s := s) (lv := lv) (by unfold okB; rw [k1, k2]; rfl))
    have r0 := R2.cell 0 _ rfl
    have r1 := R2.cell 1 _ rfl
    have g0 := R2.free 0
    have g1 := R2.free 1
    go_wp2_with fail
    rw [(yx HV).1, (yx HV).2]
    exact bodyPost_ret (v := .agg #[.slice none 0 0, .int .i64 1]) (by simp [results, Tryz.results153, go_sem, r0, r1]) rfl ⟨⟨_, rfl, World.ownsRow_nil _ _ _ _⟩, (B2.setCell lob _).setCell lob _⟩
  have hok : okB wd ht s lv = true := by unfold okB; rw [k1, k2]; rfl
  obtain ⟨f1, f2, f3, f4, f5⟩ := frameB_iff.1 k1
  obtain ⟨wn, hwn⟩ := Int.eq_ofNat_of_zero_le (show 0 ≤ wd by omega)
  obtain ⟨hn, hhn⟩ := Int.eq_ofNat_of_zero_le (show 0 ≤ ht by omega)
  subst hwn hhn
  have hsz : s.size = wn * hn := by
    have : ((s.size : Nat) : Int) = ((wn * hn : Nat) : Int) := by rw [f5]; exact (Int.natCast_mul _ _).symm
    omega
  have HSZ := yz hsz
  have HOK := yz hok
  clear hsz hok k1 k2 f5 hs
  obtain ⟨a0, a1, a2⟩ := bcs3 (A2)
  go_wp2_with fail
  refine (blobsAbove_any wn hn s lv _ (by omega) (by omega) (by omega) (by omega) (yx HSZ)).mono ?_
  rintro e W3 ⟨⟨k, v3, rfl, hk, hkk, hO⟩, hx⟩
  have R3 := R2.kept hx
  have B3 := below_call B2 hx
  have hob2 : ob < W2.heap.size := R2.lt
  have hW2 := B2.size
  clear A2 R2 B2 a0 a1 a2 hx
  generalize hfe : frOf wn hn s lv = f at *
  have HF := yz hfe
  clear hfe
  have HAL : Hid (allB wn hn s lv = (scanP f s.size).2) := yz (by unfold allB; rw [← yx HF]; rfl)
  obtain ⟨a6, cap6, hv6⟩ := own_slice hO
  subst hv6
  have r0 := R3.cell 0 _ rfl
  have r1 := R3.cell 1 _ rfl
  have g0 := R3.free 0
  have g1 := R3.free 1
  by_cases h8 : (scanP f k).2.length ≤ 8
  · have hke : k = s.size := by omega
    subst hke
    have HV := yz (resB_yes (yx HOK) (by rw [yx HAL]; exact h8))
    rw [yx HAL] at HV
    have h8' : ¬ (8 : Int) < ((scanP f s.size).2.length : Int) := by omega
    have HO9 := own_lower hO (show w.heap.size ≤ W2.heap.size by omega)
    have HO10 := own_set2 HO9 ob (by
      intro z e
      have := (hO.lt z e).1
      omega) (.slice a6 (scanP f s.size).2.length cap6) (.int .i64 0)
    clear HO9 hO hkk
    generalize scanP f s.size = Sf at *
    obtain ⟨T1, S1⟩ := Sf
    simp only at *
    go_wp2_with fail
    rw [(yx HV).1, (yx HV).2]
    exact bodyPost_ret (v := .agg #[.slice a6 S1.length cap6, .int .i64 0]) (by simp [results, Tryz.results153, go_sem, r0, r1]) rfl ⟨⟨_, rfl, HO10⟩, (B3.setCell lob _).setCell lob _⟩
  · have HV := yz (resB_many (yx HOK) (by rw [yx HAL]; have := scanB_more f k s.size hk (by omega); omega))
    have h8' : (8 : Int) < ((scanP f k).2.length : Int) := by omega
    clear hO hkk
    generalize scanP f k = Sf at *
    obtain ⟨T1, S1⟩ := Sf
    simp only at *
    go_wp2_with fail
    rw [(yx HV).1, (yx HV).2]
    exact bodyPost_ret (v := .agg #[.slice none 0 0, .int .i64 9]) (by simp [results, Tryz.results153, go_sem, r0, r1]) rfl ⟨⟨_, rfl, World.ownsRow_nil _ _ _ _⟩, (B3.setCell lob _).setCell lob _⟩
end Go.Proofs.YteoonaanoenjiaaGreatDoor
namespace Go.Proofs.YteoonaanoenjiaaGreatDoor
open Go.RowKit Go.Sort
set_option linter.unusedVariables false
set_option maxHeartbeats 4000000 in
set_option maxRecDepth 100000 in
theorem implSpotsOf_any (wd ht : Int) (s : ByteArray) (lv fo : Int) (w : World) (hs : s.size ≤ maxLen) :
    Calls Tryz.prog 115 #[.agg #[.int .i64 wd, .int .i64 ht, .string s], .int .i64 lv, .int .i64 fo] w fun e w' => (∃ v, e = .returned v ∧ w'.ownsRow w.heap.size 111 3 v (spotsR wd ht s lv fo).length (flatV (spotsR wd ht s lv fo))) ∧ Below w.heap.size w w' := by
  obtain ⟨i0, hinf, hz0, hz1, hz2⟩ := info_parts info_vec
  have hm8 : 400 ≤ maxLen := by decide +kernel
  have cB := yz (fun W => implBlobsOf_any wd ht s lv W hs)
  have hml := resB_len' wd ht s lv
  have HR : Hid (spotsR wd ht s lv fo = if focB fo = true then pickS wd ht s fo (resB wd ht s lv) else []) := yz rfl
  generalize codeB wd ht s lv = code at *
  generalize resB wd ht s lv = S at *
  have A0 := blk_new w [.int .i64 wd, .int .i64 ht, .string s] 43
  have B0 := below1 w (.cells #[.int .i64 wd, .int .i64 ht, .string s] 43)
  go_enter Tryz.func115, Tryz.ntmps115
  go_wp2_with fail
  generalize w.alloc (.cells #[.int .i64 wd, .int .i64 ht, .string s] 43) = W0 at A0 B0 ⊢
  refine (isFocal_any fo _).mono ?_
  rintro e W00 ⟨rfl, rfl⟩
  cases hf : focB fo
  · rw [hf] at HR
    have HR' : Hid (spotsR wd ht s lv fo = []) := HR
    go_wp2_with fail
    go_ret
    rw [yx HR']
    exact ⟨⟨_, rfl, World.ownsRow_nil _ _ _ _⟩, B0⟩
  rw [hf, if_pos rfl] at HR
  clear hf
  obtain ⟨f0, f1, f2⟩ := bcs3 (A0)
  go_wp2_with fail
  refine (yx cB _).mono ?_
  rintro e W1 ⟨⟨v1, rfl, ho⟩, hx⟩
  obtain ⟨a1, c1, rfl⟩ := own_slice ho
  have hfl : w.heap.size < W00.heap.size := A0.lt
  have HST : Hid (StS w W1 w.heap.size W1.heap.size wd ht s a1 S.length c1 S) := yz ⟨A0.kept hx, own_lower ho (by omega), fun z e => (ho.lt z e).2, by have := hx.size; omega, by have := hx.size; omega, Nat.le_refl _, below_call B0 hx⟩
  have HO : Hid (W1.ownsRow W1.heap.size 111 3 (.slice none 0 0) (pickS wd ht s fo (S.take 0)).length (flatV (pickS wd ht s fo (S.take 0)))) := yz (World.ownsRow_nil _ _ _ _)
  clear ho hx A0 B0 cB hfl f0 f1 f2
  have hfd : ∀ W : World, (Instr.field 160 (.agg #[.slice a1 S.length c1, .int .i64 code]) 0).run Tryz.prog W = .ok (.slice a1 S.length c1) W := fun W => by kernel_rfl
  go_wp2_with fail
  clear hfd
  generalize W1.heap.size = lo at *
  go_loopw [7, 19] (fun v kk wr => ∃ k : Nat, k ≤ S.length ∧ kk = .int .i64 k ∧ Hid (wr.ownsRow lo 111 3 v (pickS wd ht s fo (S.take k)).length (flatV (pickS wd ht s fo (S.take k)))) ∧ Hid (StS w wr w.heap.size lo wd ht s a1 S.length c1 S)) (fun _ kk _ => S.length - (intOf kk).toNat)
  case atStart => exact ⟨0, by omega, rfl, HO, HST⟩
  case round =>
    clear HO HST
    obtain ⟨k, hk, rfl, HO, HST⟩ := hrel
    by_cases hkn : k < S.length
    · have hkn2 : (k : Int) < (S.length : Int) := by omega
      obtain ⟨b, hb⟩ : ∃ b, S[k]? = some b := ⟨S[k], List.getElem?_eq_getElem hkn⟩
      have HSN := yz (pick_snoc wd ht s fo S k b hb)
      have hpl : (pickS wd ht s fo (S.take k)).length ≤ 8 := by have := pick_len wd ht s fo (S.take k); have := List.length_take_le k S; omega
      obtain ⟨g, ha, hg1, hg2, c0, c1', c2, c3, c4⟩ := blob_cells (yx HST).bl rfl k b hb
      subst ha
      clear hb
      have HSV := yz (spT_v wd ht s fo b)
      have HKE : Hid (keepS wd ht s fo b = (goodB b.ar b.ed 1 20 && wideB (spT wd ht s fo b).1 (spT wd ht s fo b).2.1 (spT wd ht s fo b).2.2)) := yz rfl
      generalize spT wd ht s fo b = q at *
      generalize keepS wd ht s fo b = kp at *
      obtain ⟨q1, q2, q3⟩ := q
      obtain ⟨ar, su, sx, sy, ed⟩ := b
      have HSV' : Hid (spV su sx sy wd ht s fo = .agg #[.int .i64 q1, .int .i64 q2, .int .i64 q3]) := HSV
      have HKE' : Hid (kp = (goodB ar ed 1 20 && wideB q1 q2 q3)) := HKE
      clear HSV HKE
      simp only at c0 c1' c2 c3 c4
      have Z := below1 wr (.cells #[.int .i64 ar, .int .i64 su, .int .i64 sx, .int .i64 sy, .bool ed] 163)
      have HST2 := yz ((yx HST).kept Z)
      have HO2 := yz (own_kept (yx HO) Z)
      have D2 := blk_new wr [.int .i64 ar, .int .i64 su, .int .i64 sx, .int .i64 sy, .bool ed] 163
      clear Z HST HO
      obtain ⟨d0, d1, d2, d3, d4⟩ := bcs5 (D2)
      go_wp2_with fail
      clear c0 c1' c2 c3 c4
      refine (blobGood_any ar su sx sy ed 1 20 _).mono ?_
      rintro e W3 ⟨rfl, hx⟩
      have HST3 := yz ((yx HST2).kept hx)
      have HO3 := yz (own_kept (yx HO2) hx)
      have D3 := D2.kept hx
      clear hx HST2 HO2 D2 d0 d1 d2 d3 d4
      cases hgd : goodB ar ed 1 20
      · rw [hgd] at HKE'
        have HKE : Hid (kp = false) := HKE'
        rw [yx HKE, if_neg (by simp), List.append_nil] at HSN
        have HO4 : Hid (W3.ownsRow lo 111 3 u7 (pickS wd ht s fo (S.take (k + 1))).length (flatV (pickS wd ht s fo (S.take (k + 1))))) := yz (by rw [yx HSN]; exact yx HO3)
        go_wp2_with fail
        go_roundw
        case rel => exact ⟨k + 1, by omega, by go_num, HO4, HST3⟩
        case measure => simp [intOf] <;> omega
      rw [hgd, Bool.true_and] at HKE'
      obtain ⟨d0, d1, d2, d3, d4⟩ := bcs5 (D3)
      have f0 := (yx HST3).fr.cell 0 _ rfl
      have f1 := (yx HST3).fr.cell 1 _ rfl
      have f2 := (yx HST3).fr.cell 2 _ rfl
      go_wp2_with fail
      refine (spotOf_any ar su sx sy ed wd ht s fo _).mono ?_
      rintro e W4 ⟨rfl, hx⟩
      rw [yx HSV']
      clear HSV'
      have Z := below1 W4 (.cells #[.int .i64 q1, .int .i64 q2, .int .i64 q3] 111)
      have HST5 := yz (((yx HST3).kept hx).kept Z)
      have HO5 := yz (own_kept (own_kept (yx HO3) hx) Z)
      have E5 := blk_new W4 [.int .i64 q1, .int .i64 q2, .int .i64 q3] 111
      clear hx Z HST3 HO3 D3 d0 d1 d2 d3 d4 f0 f1 f2
      obtain ⟨e0, e1, e2⟩ := bcs3 (E5)
      go_wp2_with fail
      generalize W4.alloc (.cells #[.int .i64 q1, .int .i64 q2, .int .i64 q3] 111) = W5 at HST5 HO5 E5 e0 e1 e2 ⊢
      generalize W4.heap.size = vb at *
      clear e0 e1 e2
      refine (isWide_any q1 q2 q3 _).mono ?_
      rintro e W6 ⟨rfl, hx⟩
      have HST6 := yz ((yx HST5).kept hx)
      have HO6 := yz (own_kept (yx HO5) hx)
      have E6 := E5.kept hx
      clear hx HST5 HO5 E5
      cases hwd : wideB q1 q2 q3
      · rw [hwd] at HKE'
        rw [yx HKE', if_neg (by simp), List.append_nil] at HSN
        have HO7 : Hid (W6.ownsRow lo 111 3 u7 (pickS wd ht s fo (S.take (k + 1))).length (flatV (pickS wd ht s fo (S.take (k + 1))))) := yz (by rw [yx HSN]; exact yx HO6)
        go_wp2_with fail
        go_roundw
        case rel => exact ⟨k + 1, by omega, by go_num, HO7, HST6⟩
        case measure => simp [intOf] <;> omega
      · rw [hwd] at HKE'
        rw [yx HKE', if_pos rfl] at HSN
        obtain ⟨e0, e1, e2⟩ := bcs3 (E6)
        have Z1 := below1 W6 (.cells #[.int .i64 q1, .int .i64 q2, .int .i64 q3] 111)
        have hown := own_kept (yx HO6) Z1
        have ST7 := (yx HST6).kept Z1
        have hll := (yx HST6).ll
        clear Z1 HO6 HST6
        generalize pickS wd ht s fo (S.take k) = Pk at *
        go_wp2_with (at_builtin; refine wpList_append_own _ rfl _ _ 42 rfl lo 111 i0 (.agg #[.int .i64 0, .int .i64 0, .int .i64 0]) 3 24 Tryz.underlying42 hinf hz0 hz1 hz2 rfl (by decide) _ _ _ rfl hown ⟨W6.heap.size, 0, none⟩ 1 1 (flatV [(q1, q2, q3)]) rfl rfl ?d2 (fun u hu => flatV_cell hu) ?d3 ?d4 ?d5 ?_)
        case d2 => first | exact fun j u h => h | exact new_list _ _ _
        case d3 => omega
        case d4 => omega
        case d5 => first | omega | (simp; omega)
        intro v7 V7 hown7 hgrow7 _
        have HST8 := yz (ST7.byRow hgrow7 (fun q e => (hown.lt q e).1))
        have HO8 : Hid (V7.ownsRow lo 111 3 v7 (pickS wd ht s fo (S.take (k + 1))).length (flatV (pickS wd ht s fo (S.take (k + 1))))) := yz (by rw [yx HSN, flatV_app, List.length_append]; exact hown7)
        clear hown7 hgrow7 hown ST7 e0 e1 e2 E6
        go_wp2_with fail
        go_roundw
        case rel => exact ⟨k + 1, by omega, by go_num, HO8, HST8⟩
        case measure => simp [intOf] <;> omega
    · have hke : k = S.length := by omega
      have HO3 : Hid (wr.ownsRow lo 111 3 u7 (spotsR wd ht s lv fo).length (flatV (spotsR wd ht s lv fo))) := yz (by
        have h := yx HO
        rw [hke, List.take_length] at h
        rw [yx HR]
        exact h)
      go_wp2_with fail
      go_ret
      exact ⟨⟨_, rfl, own_lower (yx HO3) (yx HST).lw⟩, (yx HST).bel⟩
theorem sameB_eq (a1 a2 a3 b1 b2 b3 : Int) : sameB a1 a2 a3 b1 b2 b3 = (eqB (crI (rightB a1 a2 a3 && rightB b1 b2 b3) a2 a3 b2 b3) (crI (rightB a1 a2 a3 && rightB b1 b2 b3) a3 a1 b3 b1) (crI (rightB a1 a2 a3 && rightB b1 b2 b3) a1 a2 b1 b2) 0 0 0 && decide (0 < dotI a1 a2 a3 b1 b2 b3)) := by
  unfold sameB crI dotI
  cases h : (rightB a1 a2 a3 && rightB b1 b2 b3)
  · simp
  · simp [eqB, zeroB]
set_option maxRecDepth 100000 in
theorem sameWay_any (a1 a2 a3 b1 b2 b3 : Int) (w : World) :
    Calls Tryz.prog 156 #[.agg #[.int .i64 a1, .int .i64 a2, .int .i64 a3], .agg #[.int .i64 b1, .int .i64 b2, .int .i64 b3]] w fun e w' => e = .returned (.bool (sameB a1 a2 a3 b1 b2 b3)) ∧ Below w.heap.size w w' := by
  have HS := yz (sameB_eq a1 a2 a3 b1 b2 b3)
  go_enter Tryz.func156, Tryz.ntmps156
  go_wp2_with fail
  refine (cross_any a1 a2 a3 b1 b2 b3 _).mono ?_
  rintro e w1 ⟨rfl, hB1⟩
  have hB : Below w.heap.size w w1 := below_call (below2 _ _ _) hB1
  have va : VecAt w1 w.heap.size a1 a2 a3 := ((vecAt_new w a1 a2 a3 _).alloc (by simp) _).kept (by simp; omega) hB1
  have vb : VecAt w1 (w.heap.size + 1) b1 b2 b3 := (by simpa using vecAt_new (w.alloc _) b1 b2 b3 _ : VecAt _ (w.heap.size + 1) b1 b2 b3).kept (by simp) hB1
  clear hB1
  obtain ⟨ca0, ca1, ca2⟩ := va
  obtain ⟨cb0, cb1, cb2⟩ := vb
  generalize crI (rightB a1 a2 a3 && rightB b1 b2 b3) a2 a3 b2 b3 = x at HS ⊢
  generalize crI (rightB a1 a2 a3 && rightB b1 b2 b3) a3 a1 b3 b1 = y at HS ⊢
  generalize crI (rightB a1 a2 a3 && rightB b1 b2 b3) a1 a2 b1 b2 = z at HS ⊢
  have he := fun w => eql_vec x y z 0 0 0 w
  cases hz : eqB x y z 0 0 0
  · rw [hz] at he HS
    go_wp2_with fail
    go_ret
    exact ⟨by rw [yx HS]; rfl, hB⟩
  · rw [hz] at he HS
    go_wp2_with fail
    refine (dot_any a1 a2 a3 b1 b2 b3 _).mono ?_
    rintro e w2 ⟨rfl, hB2⟩
    replace hB := below_call hB hB2
    go_wp2_with fail
    go_ret
    exact ⟨by rw [yx HS, Bool.true_and]; rfl, hB⟩
set_option maxRecDepth 100000 in
theorem l02Same_any (a1 a2 a3 b1 b2 b3 : Int) (w : World) :
    Calls Tryz.prog 101 #[.agg #[.int .i64 a1, .int .i64 a2, .int .i64 a3], .agg #[.int .i64 b1, .int .i64 b2, .int .i64 b3]] w fun e w' => e = .returned (.bool (eqB (crW a2 a3 b2 b3) (crW a3 a1 b3 b1) (crW a1 a2 b1 b2) 0 0 0 && decide (0 < dotW a1 a2 a3 b1 b2 b3))) ∧ Below w.heap.size w w' := by
  go_enter Tryz.func101, Tryz.ntmps101
  go_wp2_with fail
  refine (l02Cross_any a1 a2 a3 b1 b2 b3 _).mono ?_
  rintro e w1 ⟨rfl, hB1⟩
  have hB : Below w.heap.size w w1 := below_call (below2 _ _ _) hB1
  have va : VecAt w1 w.heap.size a1 a2 a3 := ((vecAt_new w a1 a2 a3 _).alloc (by simp) _).kept (by simp; omega) hB1
  have vb : VecAt w1 (w.heap.size + 1) b1 b2 b3 := (by simpa using vecAt_new (w.alloc _) b1 b2 b3 _ : VecAt _ (w.heap.size + 1) b1 b2 b3).kept (by simp) hB1
  clear hB1
  obtain ⟨ca0, ca1, ca2⟩ := va
  obtain ⟨cb0, cb1, cb2⟩ := vb
  have he := fun w => eql_vec (crW a2 a3 b2 b3) (crW a3 a1 b3 b1) (crW a1 a2 b1 b2) 0 0 0 w
  cases hz : eqB (crW a2 a3 b2 b3) (crW a3 a1 b3 b1) (crW a1 a2 b1 b2) 0 0 0
  · rw [hz] at he
    go_wp2_with fail
    go_ret
    exact ⟨by rw [hz]; rfl, hB⟩
  · rw [hz] at he
    go_wp2_with fail
    refine (l02Dot_any a1 a2 a3 b1 b2 b3 _).mono ?_
    rintro e w2 ⟨rfl, hB2⟩
    replace hB := below_call hB hB2
    go_wp2_with fail
    go_ret
    exact ⟨by rw [hz, Bool.true_and]; rfl, hB⟩
def DirAt (w : World) (b o : Nat) (v : D3) : Prop := w.cell? ⟨b, o, none⟩ = some (.int .i64 v.1) ∧ w.cell? ⟨b, o + 1, none⟩ = some (.int .i64 v.2.1) ∧ w.cell? ⟨b, o + 2, none⟩ = some (.int .i64 v.2.2)
def Dirs (w : World) (a : Option Addr) (L : List D3) (n : Nat) : Prop := n = 0 ∨ ∃ b o, a = some ⟨b, o, none⟩ ∧ b < w.heap.size ∧ ∀ i, i < n → DirAt w b (o + i * 3) (vA L i)
theorem DirAt.kept {w w' : World} {b o : Nat} {s : D3} (h : DirAt w b o s) (hb : b < w.heap.size) (hB : Below w.heap.size w w') : DirAt w' b o s := by
  obtain ⟨h0, h1, h2⟩ := h
  exact ⟨by rw [hB.cell (p := ⟨b, o, none⟩) hb]; exact h0, by rw [hB.cell (p := ⟨b, o + 1, none⟩) hb]; exact h1, by rw [hB.cell (p := ⟨b, o + 2, none⟩) hb]; exact h2⟩
theorem Dirs.kept {w w' : World} {a : Option Addr} {L : List D3} {n : Nat} (h : Dirs w a L n) (hB : Below w.heap.size w w') : Dirs w' a L n := by
  rcases h with h | ⟨b, o, ha, hb, hc⟩
  · exact .inl h
  · exact .inr ⟨b, o, ha, Nat.lt_of_lt_of_le hb hB.size, fun i hi => (hc i hi).kept hb hB⟩
theorem Dirs.less {w : World} {a : Option Addr} {L : List D3} {n m : Nat} (h : Dirs w a L n) (hm : m ≤ n) : Dirs w a L m := by
  rcases h with h | ⟨b, o, ha, hb, hc⟩
  · exact .inl (by omega)
  · exact .inr ⟨b, o, ha, hb, fun i hi => hc i (by omega)⟩
theorem vltD {w : World} {b : Nat} {x y z : Int} (h : VecAt w b x y z) : b < w.heap.size := World.block_lt_of_cell? w _ h.1
set_option maxHeartbeats 1000000 in
set_option maxRecDepth 100000 in
theorem isAmong_any (L : List D3) (n : Nat) (x y z : Int) (a : Option Addr) (c : Nat) (w : World) (hn : n ≤ 1048576) (hS : Dirs w a L n) :
    Calls Tryz.prog 116 #[.agg #[.int .i64 x, .int .i64 y, .int .i64 z], .slice a n c] w fun e w' => e = .returned (.bool (amongB L (x, y, z) n)) ∧ Below w.heap.size w w' := by
  rcases hS with rfl | ⟨b, o, rfl, hb, hc⟩
  · go_enter Tryz.func116, Tryz.ntmps116
    go_wp2_with fail
    refine wp_loop_rounds 1 ?_
    rw [rounds_succ]
    go_wp2_with fail
    go_ret
    exact ⟨rfl, below1 _ _⟩
  · have HC := yz hc
    clear hc
    have V0 := yz (vecAt_new w x y z 111)
    have B0 := yz (below1 w (.cells #[.int .i64 x, .int .i64 y, .int .i64 z] 111))
    go_enter Tryz.func116, Tryz.ntmps116
    go_wp2_with fail
    go_loopw [9] (fun i wr => ∃ k : Nat, k ≤ n ∧ i = .int .i64 k ∧ Hid (asideTo L (x, y, z) k) ∧ Hid (Below w.heap.size w wr) ∧ Hid (VecAt wr w.heap.size x y z)) (fun i _ => n - (intOf i).toNat)
    case atStart => exact ⟨0, by omega, rfl, yz (fun j hj => absurd hj (Nat.not_lt_zero _)), B0, V0⟩
    case round =>
      obtain ⟨k, hk, rfl, HF, HB, HV⟩ := hrel
      by_cases hkn : k < n
      · obtain ⟨⟨s2, s3, s4⟩, hs⟩ : ∃ s, vA L k = s := ⟨_, rfl⟩
        have hst := ((yx HC) k hkn).kept hb (yx HB)
        rw [hs] at hst
        obtain ⟨c0, c1, c2⟩ := hst
        have HS := yz hs
        clear hs
        have V1 := yz (VecAt.alloc (yx HV) (vltD (yx HV)) (.cells #[.int .i64 s2, .int .i64 s3, .int .i64 s4] 111))
        have B1 := yz ((yx HB).alloc (yx HB).size (.cells #[.int .i64 s2, .int .i64 s3, .int .i64 s4] 111))
        obtain ⟨v0, v1, v2⟩ := yx V1
        go_wp2_with fail
        refine (sameWay_any x y z s2 s3 s4 _).mono ?_
        rintro e w2 ⟨rfl, hx⟩
        have HV2 := yz ((yx V1).kept (vltD (yx V1)) hx)
        have HB2 := yz (below_call (yx B1) hx)
        clear hx c0 c1 c2 v0 v1 v2 V1 B1 HB HV
        have HR : Hid (sameD (x, y, z) (vA L k) = sameB x y z s2 s3 s4) := yz (by rw [yx HS]; rfl)
        cases hq : sameB x y z s2 s3 s4
        · rw [hq] at HR
          go_wp2_with fail
          go_roundw
          case rel => exact ⟨k + 1, by omega, by go_num, yz (aside_step (yx HF) (yx HR)), HB2, HV2⟩
          case measure => simp [intOf]; omega
        · rw [hq] at HR
          go_wp2_with fail
          go_ret
          exact ⟨by rw [among_yes hkn (yx HR)]; rfl, yx HB2⟩
      · have hkn' : k = n := by omega
        subst hkn'
        go_wp2_with fail
        go_ret
        exact ⟨by rw [among_no (yx HF)]; rfl, yx HB⟩
set_option maxHeartbeats 2000000 in
set_option maxRecDepth 100000 in
theorem spotsRight_any (L : List D3) (a : Option Addr) (c : Nat) (w : World) (hn : L.length ≤ 1048576) (hcap : L.length ≤ c) (hc9 : c ≤ 9223372036854775807) (hS : Dirs w a L L.length) :
    Calls Tryz.prog 75 #[.slice a L.length c] w fun e w' => e = .returned (.bool (spotsB L)) ∧ Below w.heap.size w w' := by
  obtain ⟨n, hnl⟩ : ∃ n, L.length = n := ⟨_, rfl⟩
  rw [hnl] at hn hcap hS ⊢
  have HL := yz hnl
  clear hnl
  by_cases h12 : 6 < n
  · have h12' : (6 : Int) < (n : Int) := by omega
    have HO : Hid (spotsB L = false) := yz (spots_long (by rw [yx HL]; exact h12))
    clear hS
    go_enter Tryz.func75, Tryz.ntmps75
    go_wp2
    go_ret
    exact ⟨by rw [yx HO]; rfl, Below.refl _ _⟩
  have h12' : ¬ (6 : Int) < (n : Int) := by omega
  rcases hS with rfl | ⟨b, o, rfl, hb, hc⟩
  · have HO : Hid (spotsB L = true) := yz (spots_yes (by rw [yx HL]; omega) (by rw [yx HL]; intro j hj; omega))
    go_enter Tryz.func75, Tryz.ntmps75
    go_wp2_with fail
    refine wp_loop_rounds 1 ?_
    rw [rounds_succ]
    go_wp2_with fail
    go_ret
    exact ⟨by rw [yx HO]; rfl, Below.refl _ _⟩
  have HC := yz hc
  have HS : Hid (Dirs w (some ⟨b, o, none⟩) L n) := yz (.inr ⟨b, o, rfl, hb, hc⟩)
  clear hc
  go_enter Tryz.func75, Tryz.ntmps75
  go_wp2_with fail
  go_loopw [10] (fun i wr => ∃ k : Nat, k ≤ n ∧ i = .int .i64 k ∧ Hid (okVTo L k) ∧ Hid (Below w.heap.size w wr)) (fun i _ => n - (intOf i).toNat)
  case atStart => exact ⟨0, by omega, rfl, yz (fun j hj => absurd hj (Nat.not_lt_zero _)), yz (Below.refl _ _)⟩
  case round =>
    obtain ⟨k, hk, rfl, HF, HB⟩ := hrel
    by_cases hkn : k < n
    · obtain ⟨⟨s2, s3, s4⟩, hs⟩ : ∃ s, vA L k = s := ⟨_, rfl⟩
      have hst := ((yx HC) k hkn).kept hb (yx HB)
      rw [hs] at hst
      obtain ⟨c0, c1, c2⟩ := hst
      have HT := yz hs
      clear hs
      have B1 := yz ((yx HB).alloc (yx HB).size (.cells #[.int .i64 s2, .int .i64 s3, .int .i64 s4] 111))
      have N1 := yz (vecAt_new wr s2 s3 s4 111)
      go_wp2_with fail
      clear c0 c1 c2
      have hb1 := yx B1
      have hn1 := yx N1
      generalize hwe : wr.alloc (.cells #[.int .i64 s2, .int .i64 s3, .int .i64 s4] 111) = W1 at hb1 hn1 ⊢
      have HB1 := yz hb1
      clear hwe hb1 B1 N1
      obtain ⟨c0, c1, c2⟩ := hn1
      have r0 := cell_regrown c0
      have r1 := cell_regrown c1
      have r2 := cell_regrown c2
      clear c0 c1 c2
      have HO : Hid (okV L k = (wideB s2 s3 s4 && !amongB L (s2, s3, s4) k)) := yz (by unfold okV wideD; rw [yx HT])
      have cW := yz (fun W => isWide_any s2 s3 s4 W)
      have cA := yz (fun (W : World) (hW : Dirs W (some ⟨b, o, none⟩) L k) => isAmong_any L k s2 s3 s4 (some ⟨b, o, none⟩) c W (by omega) hW)
      have HSk := yz (((yx HS).less (Nat.le_of_lt hkn)).kept (yx HB1))
      have hkc : (k : Int) ≤ (c : Int) := by omega
      cases hwd : wideB s2 s3 s4
      · rw [hwd] at HO cW
        have HO' : Hid (okV L k = false) := HO
        refine wp_region_quiet_below (by kernel_rfl) (by kernel_rfl) ?_
        repeat (go_big_quiet_step (first | (with_reducible exact Calls.regrown_of (yx cW _))))
        refine wpQuiet_nil ?_
        intro _ hw'
        obtain ⟨⟨dq, osq⟩, hw''⟩ := hw'
        subst hw''
        have hx := below_call (yx HB1) (below_regrown W1 dq osq)
        generalize grow (redrawn W1 dq) osq = W2 at hx ⊢
        go_wp2_with fail
        go_ret
        exact ⟨by rw [spots_no (by rw [yx HL]; exact hkn) (yx HO')]; rfl, hx⟩
      · rw [hwd, Bool.true_and] at HO
        rw [hwd] at cW
        generalize amongB L (s2, s3, s4) k = am at *
        refine wp_region_quiet_below (by kernel_rfl) (by kernel_rfl) ?_
        repeat (go_big_quiet_step (first | (with_reducible exact Calls.regrown_of (yx cW _)) | (with_reducible exact Calls.regrown_of (yx cA _ ((yx HSk).kept (below_regrown _ _ _))))))
        refine wpQuiet_nil ?_
        intro _ hw'
        obtain ⟨⟨dq, osq⟩, hw''⟩ := hw'
        subst hw''
        have hx := below_call (yx HB1) (below_regrown W1 dq osq)
        generalize grow (redrawn W1 dq) osq = W2 at hx ⊢
        have HB2 := yz hx
        clear hx HB1 HB cW cA HSk r0 r1 r2
        cases am
        · have HO' : Hid (okV L k = true) := HO
          go_wp2_with fail
          go_roundw
          case rel => exact ⟨k + 1, by omega, by go_num, yz (okV_step (yx HF) (yx HO')), HB2⟩
          case measure => simp [intOf]; omega
        · have HO' : Hid (okV L k = false) := HO
          go_wp2_with fail
          go_ret
          exact ⟨by rw [spots_no (by rw [yx HL]; exact hkn) (yx HO')]; rfl, yx HB2⟩
    · have hkn' : k = n := by omega
      have HO : Hid (spotsB L = true) := yz (spots_yes (by rw [yx HL]; omega) (by rw [yx HL, ← hkn']; exact yx HF))
      go_wp2_with fail
      go_ret
      exact ⟨by rw [yx HO]; rfl, yx HB⟩
end Go.Proofs.YteoonaanoenjiaaGreatDoor
namespace Go.Proofs.YteoonaanoenjiaaGreatDoor
open Go.RowKit
set_option linter.unusedVariables false
abbrev St := Int × Int × Int × Int
def stC (s : St) : List Value := [.int .i64 s.1, .int .i64 s.2.1, .int .i64 s.2.2.1, .int .i64 s.2.2.2]
def stA (L : List St) (i : Nat) : St := L.getD i (0, 0, 0, 0)
def idB (n : Int) : Bool := decide (1 ≤ n) && decide (n ≤ 9999)
def upB (L : List St) (i : Nat) : Bool := decide (i = 0) || decide ((stA L (i - 1)).1 < (stA L i).1)
def eqI (a1 a2 a3 b1 b2 b3 : Int) : Bool := decide (a1 = b1 ∧ a2 = b2 ∧ a3 = b3)
def primeB (x y z : Int) : Bool := eqI x y z (prI (rightB x y z) (gI x y z) x) (prI (rightB x y z) (gI x y z) y) (prI (rightB x y z) (gI x y z) z)
def sameS (p q : St) : Bool := sameB p.2.1 p.2.2.1 p.2.2.2 q.2.1 q.2.2.1 q.2.2.2
def freeTo (L : List St) (s : St) (k : Nat) : Prop := ∀ j, j < k → sameS s (stA L j) = false
def takenB (L : List St) (s : St) (n : Nat) : Bool := (List.range n).any fun j => sameS s (stA L j)
def okAt (L : List St) (i : Nat) : Bool :=
  idB (stA L i).1 && upB L i && (smallB (stA L i).2.1 (stA L i).2.2.1 (stA L i).2.2.2 && primeB (stA L i).2.1 (stA L i).2.2.1 (stA L i).2.2.2) && !takenB L (stA L i) i
def okTo (L : List St) (k : Nat) : Prop := ∀ j, j < k → okAt L j = true
def skyB (L : List St) : Bool := decide (L.length ≤ 12) && (List.range L.length).all (okAt L)
theorem taken_no {L : List St} {s : St} {n : Nat} (h : freeTo L s n) : takenB L s n = false := by
  unfold takenB
  rw [List.any_eq_false]
  intro j hj
  rw [h j (List.mem_range.1 hj)]
  simp
theorem taken_yes {L : List St} {s : St} {n j : Nat} (hj : j < n) (h : sameS s (stA L j) = true) : takenB L s n = true := by
  unfold takenB
  rw [List.any_eq_true]
  exact ⟨j, List.mem_range.2 hj, h⟩
theorem free_step {L : List St} {s : St} {k : Nat} (h : freeTo L s k) (h1 : sameS s (stA L k) = false) : freeTo L s (k + 1) := by
  intro j hj
  by_cases e : j = k
  · rw [e]; exact h1
  · exact h j (by omega)
theorem ok_step {L : List St} {k : Nat} (h : okTo L k) (h1 : okAt L k = true) : okTo L (k + 1) := by
  intro j hj
  by_cases e : j = k
  · rw [e]; exact h1
  · exact h j (by omega)
theorem sky_yes {L : List St} (hl : L.length ≤ 12) (h : okTo L L.length) : skyB L = true := by
  unfold skyB
  rw [Bool.and_eq_true, List.all_eq_true]
  exact ⟨by simpa using hl, fun j hj => h j (List.mem_range.1 hj)⟩
theorem sky_no {L : List St} {k : Nat} (hk : k < L.length) (h : okAt L k = false) : skyB L = false := by
  unfold skyB
  have : (List.range L.length).all (okAt L) = false := by
    rw [List.all_eq_false]
    exact ⟨k, List.mem_range.2 hk, by rw [h]; simp⟩
  rw [this, Bool.and_false]
theorem sky_long {L : List St} (hl : 12 < L.length) : skyB L = false := by
  unfold skyB
  rw [show decide (L.length ≤ 12) = false by simp; omega, Bool.false_and]
theorem sky_ok {L : List St} (h : skyB L = true) : L.length ≤ 12 ∧ okTo L L.length := by
  unfold skyB at h
  rw [Bool.and_eq_true, List.all_eq_true] at h
  exact ⟨by simpa using h.1, fun j hj => h.2 j (List.mem_range.2 hj)⟩
theorem ok_small {L : List St} {i : Nat} (h : okAt L i = true) : smallB (stA L i).2.1 (stA L i).2.2.1 (stA L i).2.2.2 = true := by
  unfold okAt at h
  simp only [Bool.and_eq_true] at h
  exact h.1.2.1
theorem small_iff {x y z : Int} (h : smallB x y z = true) : rightB x y z = true ∧ withinB 10 x y z = true := by simpa [smallB] using h
theorem sameB_comm {a1 a2 a3 b1 b2 b3 : Int} (ha : smallB a1 a2 a3 = true) (hb : smallB b1 b2 b3 = true) : sameB a1 a2 a3 b1 b2 b3 = sameB b1 b2 b3 a1 a2 a3 := by
  obtain ⟨ra, wa⟩ := small_iff ha
  obtain ⟨rb, wb⟩ := small_iff hb
  obtain ⟨x1, x2, x3⟩ := withinB_iff.1 wa
  obtain ⟨y1, y2, y3⟩ := withinB_iff.1 wb
  have e1 := crW_eq x2 x3 y2 y3 (by omega)
  have e2 := crW_eq x3 x1 y3 y1 (by omega)
  have e3 := crW_eq x1 x2 y1 y2 (by omega)
  have f1 := crW_eq y2 y3 x2 x3 (by omega)
  have f2 := crW_eq y3 y1 x3 x1 (by omega)
  have f3 := crW_eq y1 y2 x1 x2 (by omega)
  unfold sameB
  rw [ra, rb, e1.1, e2.1, e3.1, f1.1, f2.1, f3.1, dotW_comm]
  congr 2
  unfold zeroB
  rw [Int.mul_comm b2, Int.mul_comm b3 a2, Int.mul_comm b3 a1, Int.mul_comm b1 a3, Int.mul_comm b1 a2, Int.mul_comm b2 a1]
  congr 1
  apply propext
  constructor <;> rintro ⟨h1, h2, h3⟩ <;> exact ⟨by omega, by omega, by omega⟩
theorem same_eq {a1 a2 a3 b1 b2 b3 : Int} (ha : smallB a1 a2 a3 = true) (hb : smallB b1 b2 b3 = true) :
    (eqI (crW a2 a3 b2 b3) (crW a3 a1 b3 b1) (crW a1 a2 b1 b2) 0 0 0 && decide (0 < dotW a1 a2 a3 b1 b2 b3)) = sameB a1 a2 a3 b1 b2 b3 := by
  unfold sameB
  rw [(small_iff ha).1, (small_iff hb).1]
  rfl
end Go.Proofs.YteoonaanoenjiaaGreatDoor
