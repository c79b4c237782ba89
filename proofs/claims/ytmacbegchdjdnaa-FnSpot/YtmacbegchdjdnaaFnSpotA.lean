/- The law FnSpot, walked. -/
import Derived.Test.YtmacbegchdjdnaaDrJ
import Derived.Test.YtmacbegchdjdnaaSpM
import Derived.Lib.QuietBelow
import Derived.Deep.QuietTactic
import Derived.BigQuiet
namespace Go.Proofs.Ytmacbegchdjdnaa
open Go.RowKit Go.Sort
set_option linter.unusedVariables false
set_option linter.unusedSimpArgs false

theorem Db.below {w wr wy : World} {bs : List (Nat × List Value × TypeId)} (h : Db w wr bs) (hB : Below wr.heap.size wr wy) : Db w wy bs :=
  ⟨below_call h.bel hB, fun k x e => ⟨(h.bl k x e).1.kept hB, (h.bl k x e).2⟩⟩
theorem Db.drewn {w wr : World} {bs : List (Nat × List Value × TypeId)} (h : Db w wr bs) : Db w wr.drew bs := ⟨h.bel.drew, h.bl⟩
theorem db_start {w wr : World} (h : Below w.heap.size w wr) : Db w wr [] := ⟨h, fun k x e => by simp at e⟩
/-- blobs, spots: each one's cells -/
def BlAt (w : World) (a : Option Addr) (S : List Bl) : Prop := ∀ (k : Nat) (b : Bl), S[k]? = some b → ∃ g, a = some ⟨g, 0, none⟩ ∧ g < w.heap.size ∧ w.cell? ⟨g, k * 5, none⟩ = some (.int .i64 b.ar) ∧ w.cell? ⟨g, k * 5 + 1, none⟩ = some (.int .i64 b.su) ∧ w.cell? ⟨g, k * 5 + 2, none⟩ = some (.int .i64 b.sx) ∧ w.cell? ⟨g, k * 5 + 3, none⟩ = some (.int .i64 b.sy) ∧ w.cell? ⟨g, k * 5 + 4, none⟩ = some (.bool b.ed)
theorem BlAt.kept {w w' : World} {a : Option Addr} {S : List Bl} (h : BlAt w a S) (hB : Below w.heap.size w w') : BlAt w' a S := fun k b hk => by
  obtain ⟨g, e, hl, c0, c1, c2, c3, c4⟩ := h k b hk
  have hs := hB.size
  refine ⟨g, e, by omega, ?_, ?_, ?_, ?_, ?_⟩ <;> rw [World.cell?_of_block (w := w) (hB.block g hl)] <;> assumption
def VcAt (w : World) (a : Option Addr) (R : List (Int × Int × Int)) : Prop := ∀ (k : Nat) (v : Int × Int × Int), R[k]? = some v → ∃ g, a = some ⟨g, 0, none⟩ ∧ g < w.heap.size ∧ w.cell? ⟨g, k * 3, none⟩ = some (.int .i64 v.1) ∧ w.cell? ⟨g, k * 3 + 1, none⟩ = some (.int .i64 v.2.1) ∧ w.cell? ⟨g, k * 3 + 2, none⟩ = some (.int .i64 v.2.2)
theorem VcAt.kept {w w' : World} {a : Option Addr} {R : List (Int × Int × Int)} (h : VcAt w a R) (hB : Below w.heap.size w w') : VcAt w' a R := fun k b hk => by
  obtain ⟨g, e, hl, c0, c1, c2⟩ := h k b hk
  have hs := hB.size
  refine ⟨g, e, by omega, ?_, ?_, ?_⟩ <;> rw [World.cell?_of_block (w := w) (hB.block g hl)] <;> assumption
theorem flatV_at : ∀ (R : List (Int × Int × Int)) (k : Nat) (v : Int × Int × Int), R[k]? = some v → (flatV R)[k * 3]? = some (.int .i64 v.1) ∧ (flatV R)[k * 3 + 1]? = some (.int .i64 v.2.1) ∧ (flatV R)[k * 3 + 2]? = some (.int .i64 v.2.2)
  | [], k, v, h => by simp at h
  | b :: R, 0, v, h => by
    have e : b = v := by simpa using h
    subst e
    have e : flatV (b :: R) = vec3 b ++ flatV R := by unfold flatV; simp
    rw [e]
    exact ⟨rfl, rfl, rfl⟩
  | b :: R, k + 1, v, h => by
    have e : flatV (b :: R) = vec3 b ++ flatV R := by unfold flatV; simp
    have hl : (vec3 b).length = 3 := rfl
    have ih := flatV_at R k v (by simpa using h)
    rw [e]
    refine ⟨?_, ?_, ?_⟩ <;> rw [List.getElem?_append_right (by omega), hl]
    · rw [show (k + 1) * 3 - 3 = k * 3 by omega]; exact ih.1
    · rw [show (k + 1) * 3 + 1 - 3 = k * 3 + 1 by omega]; exact ih.2.1
    · rw [show (k + 1) * 3 + 2 - 3 = k * 3 + 2 by omega]; exact ih.2.2
theorem vcAt_of {w : World} {lo hi m c : Nat} {a : Option Addr} {R : List (Int × Int × Int)} {fB : Nat → Bool} (h : PRow w 46 3 lo hi m (.slice a m c) (valVecS (vcI R) fB)) (hm : R.length = m) : VcAt w a R := fun k v hk => by
  have hk' : k < R.length := (List.getElem?_eq_some_iff.1 hk).1
  rcases h with ⟨h, _⟩ | ⟨g, cap, hv, _, _, hr⟩
  · omega
  · obtain ⟨c0, c1, c2⟩ := flatV_at R k v hk
    have f := fun j hj => flatV_val R fB j hj
    have f0 := f (k * 3) (by omega)
    have f1 := f (k * 3 + 1) (by omega)
    have f2 := f (k * 3 + 2) (by omega)
    rw [c0] at f0
    rw [c1] at f1
    rw [c2] at f2
    refine ⟨g, by injection hv, hr.lt, ?_, ?_, ?_⟩
    · rw [hr.cell (j := k * 3) (by omega), f0]
    · rw [hr.cell (j := k * 3 + 1) (by omega), f1]
    · rw [hr.cell (j := k * 3 + 2) (by omega), f2]
set_option maxHeartbeats 8000000 in
set_option maxRecDepth 100000 in
theorem fnSpot_any (a0 a1 : Option Addr) (len0 cap0 len1 cap1 : Nat) (w : World) (h0 : len0 ≤ 1048576) (h1 : len1 ≤ 1048576) (r0 : Row w a0 len0 w.heap.size) (r1 : Row w a1 len1 w.heap.size) :
    Calls Try.prog 4 #[.slice a0 len0 cap0, .slice a1 len1 cap1] w fun e w' => e = .returned (.bool true) ∧ Below w.heap.size w w' := by
  have HR0 := hide r0
  have HR1 := hide r1
  clear r0 r1
  have hl0 : ¬ (1048576 : Int) < (len0 : Int) := by omega
  have hl1 : ¬ (1048576 : Int) < (len1 : Int) := by omega
  go_enter Try.func4, Try.ntmps4
  go_wp2_with fail
  refine (drawSpotOf_any a0 len0 cap0 _ h0 (unhide HR0)).mono ?_
  rintro e W1 ⟨⟨ar, su, sx, sy, ed, wd, ht, s, fo, hs, rfl⟩, hx⟩
  obtain ⟨x, y, z, hv, hpr⟩ := spot_prime su sx sy wd ht s fo
  have cV := hide (fun W => spotOf_any ar su sx sy ed wd ht s fo W)
  have cVs := hide (fun W => specSpotOf_any ar su sx sy ed wd ht s fo W)
  rw [hv] at cV cVs
  have HPR := hide hpr
  clear hv hpr hs
  have D1 := ((db_start hx).alloc [.int .i64 ar, .int .i64 su, .int .i64 sx, .int .i64 sy, .bool ed] 40).alloc [.int .i64 wd, .int .i64 ht, .string s] 24
  rw [show (W1.alloc (.cells [.int .i64 ar, .int .i64 su, .int .i64 sx, .int .i64 sy, .bool ed].toArray 40)).heap.size = W1.heap.size + 1 by simp] at D1
  have E1 := hide D1
  clear hx D1
  go_wp2_with fail
  generalize (W1.alloc (.cells #[.int .i64 ar, .int .i64 su, .int .i64 sx, .int .i64 sy, .bool ed] 40)).alloc (.cells #[.int .i64 wd, .int .i64 ht, .string s] 24) = W2 at E1 ⊢
  generalize W1.heap.size = bb at *
  refine (unhide cV _).mono ?_
  rintro e W3 ⟨rfl, hx⟩
  have E3 := hide (((unhide E1).below hx).alloc [.int .i64 x, .int .i64 y, .int .i64 z] 46)
  have hl3 := Nat.lt_of_lt_of_le ((unhide E1).at' 0 _ rfl).lt hx.size
  clear hx E1
  go_wp2_with fail
  generalize W3.alloc (.cells #[.int .i64 x, .int .i64 y, .int .i64 z] 46) = W4 at E3 ⊢
  generalize W3.heap.size = vb at *
  refine (drawSpotsOf_any a1 len1 cap1 _ h1 ((unhide HR1).belowF (unhide E3).bel)).mono ?_
  rintro e W5 ⟨⟨wd2, ht2, s2, lv, fo2, hs2, rfl⟩, hx⟩
  have hm8 : 1000 ≤ maxLen := by decide +kernel
  have HSE := hide (fun i v => seenP_all wd2 ht2 s2 lv fo2 i v)
  have hlenR := spotsR_len wd2 ht2 s2 lv fo2
  have hlenB := resB_len' wd2 ht2 s2 lv
  have cI := hide (fun W => implSpotsOf_any wd2 ht2 s2 lv fo2 W (by omega))
  have cS := hide (fun W => specSpotsOf_any wd2 ht2 s2 lv fo2 W (by omega))
  have cB := hide (fun W => specBlobsOf_any wd2 ht2 s2 lv W (by omega))
  generalize spotsR wd2 ht2 s2 lv fo2 = R at *
  generalize resB wd2 ht2 s2 lv = S at *
  generalize codeB wd2 ht2 s2 lv = code at *
  clear hs2 hm8
  have E5 := hide (((unhide E3).below hx).alloc [.int .i64 wd2, .int .i64 ht2, .string s2] 24)
  have hl5 := Nat.lt_of_lt_of_le ((unhide E3).at' 0 _ rfl).lt hx.size
  clear hx E3
  go_wp2_with fail
  generalize W5.alloc (.cells #[.int .i64 wd2, .int .i64 ht2, .string s2] 24) = W6 at E5 ⊢
  generalize W5.heap.size = gb at *
  have g0 := ((unhide E5).at' 0 _ rfl).cell 0 _ rfl
  have g1 := ((unhide E5).at' 0 _ rfl).cell 1 _ rfl
  have g2 := ((unhide E5).at' 0 _ rfl).cell 2 _ rfl
  go_wp2_with fail
  clear g0 g1 g2
  refine (unhide cI _).mono ?_
  rintro e W7 ⟨⟨v7, rfl, ho⟩, hx⟩
  obtain ⟨a7, c7, rfl⟩ := own_slice ho
  have P7 := hide (PRow.of ho (flatV_val R (fun _ => false)))
  have E7 := hide ((unhide E5).below hx)
  generalize hRl : R.length = m at *
  have HRL := hide hRl
  clear hx E5 ho cI hRl
  go_wp2_with fail
  refine (drawBlobGood_any a0 len0 cap0 _ h0 ((unhide HR0).belowF (unhide E7).bel)).mono ?_
  rintro e W8 ⟨⟨ar2, su2, sx2, sy2, ed2, le, mo, rfl⟩, hx⟩
  have cG := hide (fun W => blobGood_any ar2 su2 sx2 sy2 ed2 le mo W)
  have cGs := hide (fun W => specBlobGood_any ar2 su2 sx2 sy2 ed2 le mo W)
  generalize goodB ar2 ed2 le mo = gd at *
  have E8 := (((unhide E7).below hx).alloc [.int .i64 ar2, .int .i64 su2, .int .i64 sx2, .int .i64 sy2, .bool ed2] 40).alloc [.int .i64 0, .int .i64 0, .int .i64 0] 46
  rw [show (W8.alloc (.cells [.int .i64 ar2, .int .i64 su2, .int .i64 sx2, .int .i64 sy2, .bool ed2].toArray 40)).heap.size = W8.heap.size + 1 by simp] at E8
  have P8 := hide (((unhide P7).kept hx).kept (below2 _ (.cells #[.int .i64 ar2, .int .i64 su2, .int .i64 sx2, .int .i64 sy2, .bool ed2] 40) (.cells #[.int .i64 0, .int .i64 0, .int .i64 0] 46)))
  have hl8 := Nat.lt_of_lt_of_le ((unhide E7).at' 0 _ rfl).lt hx.size
  have E8 := hide E8
  clear hx E7 P7
  go_upto_region 9 with fail
  generalize (W8.alloc (.cells #[.int .i64 ar2, .int .i64 su2, .int .i64 sx2, .int .i64 sy2, .bool ed2] 40)).alloc (.cells #[.int .i64 0, .int .i64 0, .int .i64 0] 46) = W9 at E8 P8 ⊢
  generalize W8.heap.size = cb at *
  go_cut [97] (fun v wx => v = .bool false ∧ Hid (Db w wx [(gb, [.int .i64 wd2, .int .i64 ht2, .string s2], 24)]) ∧ Hid (∃ lo hi, PRow wx 46 3 lo hi m (.slice a7 m c7) (valVecS (vcI R) (fun _ => false))))
  case first =>
    rcases unhide HPR with ⟨rfl, rfl, rfl⟩ | ⟨hz, hp1, hp2, hp3⟩
    · clear HPR
      go_wp2_with fail
      refine wp_region_held_drew (S := (fun w' => w'.cell? ⟨cb + 1, 0, none⟩ = some (.int .i64 0) ∧ w'.cell? ⟨cb + 1, 1, none⟩ = some (.int .i64 0) ∧ w'.cell? ⟨cb + 1, 2, none⟩ = some (.int .i64 0) ∧ w'.cell? ⟨cb, 0, none⟩ = some (.int .i64 ar2) ∧ w'.cell? ⟨cb, 1, none⟩ = some (.int .i64 su2) ∧ w'.cell? ⟨cb, 2, none⟩ = some (.int .i64 sx2) ∧ w'.cell? ⟨cb, 3, none⟩ = some (.int .i64 sy2) ∧ w'.cell? ⟨cb, 4, none⟩ = some (.bool ed2) ∧ w'.cell? ⟨gb, 0, none⟩ = some (.int .i64 wd2) ∧ w'.cell? ⟨gb, 1, none⟩ = some (.int .i64 ht2) ∧ w'.cell? ⟨gb, 2, none⟩ = some (.string s2) ∧ w'.cell? ⟨vb, 0, none⟩ = some (.int .i64 0) ∧ w'.cell? ⟨vb, 1, none⟩ = some (.int .i64 0) ∧ w'.cell? ⟨vb, 2, none⟩ = some (.int .i64 0) ∧ w'.cell? ⟨bb + 1, 0, none⟩ = some (.int .i64 wd) ∧ w'.cell? ⟨bb + 1, 1, none⟩ = some (.int .i64 ht) ∧ w'.cell? ⟨bb + 1, 2, none⟩ = some (.string s) ∧ w'.cell? ⟨bb, 0, none⟩ = some (.int .i64 ar) ∧ w'.cell? ⟨bb, 1, none⟩ = some (.int .i64 su) ∧ w'.cell? ⟨bb, 2, none⟩ = some (.int .i64 sx) ∧ w'.cell? ⟨bb, 3, none⟩ = some (.int .i64 sy) ∧ w'.cell? ⟨bb, 4, none⟩ = some (.bool ed))) (by kernel_rfl) ⟨((unhide E8).at' 0 _ rfl).cell 0 _ rfl, ((unhide E8).at' 0 _ rfl).cell 1 _ rfl, ((unhide E8).at' 0 _ rfl).cell 2 _ rfl, ((unhide E8).at' 1 _ rfl).cell 0 _ rfl, ((unhide E8).at' 1 _ rfl).cell 1 _ rfl, ((unhide E8).at' 1 _ rfl).cell 2 _ rfl, ((unhide E8).at' 1 _ rfl).cell 3 _ rfl, ((unhide E8).at' 1 _ rfl).cell 4 _ rfl, ((unhide E8).at' 2 _ rfl).cell 0 _ rfl, ((unhide E8).at' 2 _ rfl).cell 1 _ rfl, ((unhide E8).at' 2 _ rfl).cell 2 _ rfl, ((unhide E8).at' 3 _ rfl).cell 0 _ rfl, ((unhide E8).at' 3 _ rfl).cell 1 _ rfl, ((unhide E8).at' 3 _ rfl).cell 2 _ rfl, ((unhide E8).at' 4 _ rfl).cell 0 _ rfl, ((unhide E8).at' 4 _ rfl).cell 1 _ rfl, ((unhide E8).at' 4 _ rfl).cell 2 _ rfl, ((unhide E8).at' 5 _ rfl).cell 0 _ rfl, ((unhide E8).at' 5 _ rfl).cell 1 _ rfl, ((unhide E8).at' 5 _ rfl).cell 2 _ rfl, ((unhide E8).at' 5 _ rfl).cell 3 _ rfl, ((unhide E8).at' 5 _ rfl).cell 4 _ rfl⟩ (fun hHeld => ?_)
      have E0 := hide (unhide E8).drewn
      have P0 : Hid (PRow W9.drew _ _ _ _ _ _ _) := hide (unhide P8)
      clear E8 P8
      generalize W9.drew = V0 at E0 P0 hHeld ⊢
      refine wpAnyH_take (i := 0) (oi := ({ dst := some 56, op := Op.load 46 (Operand.tmp 8), type := 46, pos := "laws.go:278", after := #[], guard := none } : Oper)) (v := ?_) rfl (by kernel_rfl) (by kernel_rfl) (by kernel_rfl) (fun _ _ _ h => h) (Or.inl ⟨by kernel_rfl, ?_⟩) (by assumption) ?_
      rotate_left
      · intro W0 hSw; (try dsimp only at hSw); go_simp <;> with_reducible rfl
      try simp only [Act.put, List.setIfInBounds_toArray, List.set_cons_zero, List.set_cons_succ]
      refine wpAnyH_take (i := 1) (oi := ({ dst := some 57, op := Op.load 40 (Operand.tmp 5), type := 40, pos := "laws.go:278", after := #[], guard := none } : Oper)) (v := ?_) rfl (by kernel_rfl) (by kernel_rfl) (by kernel_rfl) (fun _ _ _ h => h) (Or.inl ⟨by kernel_rfl, ?_⟩) (by assumption) ?_
      rotate_left
      · intro W0 hSw; (try dsimp only at hSw); go_simp <;> with_reducible rfl
      try simp only [Act.put, List.setIfInBounds_toArray, List.set_cons_zero, List.set_cons_succ]
      refine wpAnyH_take (i := 2) (oi := ({ dst := some 58, op := Op.load 24 (Operand.tmp 6), type := 24, pos := "laws.go:278", after := #[], guard := none } : Oper)) (v := ?_) rfl (by kernel_rfl) (by kernel_rfl) (by kernel_rfl) (fun _ _ _ h => h) (Or.inl ⟨by kernel_rfl, ?_⟩) (by assumption) ?_
      rotate_left
      · intro W0 hSw; (try dsimp only at hSw); go_simp <;> with_reducible rfl
      try simp only [Act.put, List.setIfInBounds_toArray, List.set_cons_zero, List.set_cons_succ]
      refine wpAnyH_take (i := 3) (oi := ({ dst := some 59, op := Op.move (Operand.tmp 7), type := 2, pos := "laws.go:278", after := #[], guard := none } : Oper)) (v := ?_) rfl (by kernel_rfl) (by kernel_rfl) (by kernel_rfl) (fun _ _ _ h => h) (Or.inl ⟨by kernel_rfl, ?_⟩) (by assumption) ?_
      rotate_left
      · intro W0 hSw; (try dsimp only at hSw); go_simp <;> with_reducible rfl
      try simp only [Act.put, List.setIfInBounds_toArray, List.set_cons_zero, List.set_cons_succ]
      refine wpAnyH_ready (rs := [4]) (by kernel_rfl) (by simp) ?_
      refine (AllReadyH.cons rfl (fun K hK => ?_) AllReadyH.nil)
      go_simp
      refine (unhide cVs _).mono ?_
      rintro e w1 ⟨rfl, hx⟩
      have E1 := hide ((unhide E0).below hx)
      have P1 := hide ((unhide P0).kept hx)
      clear hx
      refine hK.out _ _ ?_ (fun hHeld1 => ?_)
      · exact ⟨((unhide E1).at' 0 _ rfl).cell 0 _ rfl, ((unhide E1).at' 0 _ rfl).cell 1 _ rfl, ((unhide E1).at' 0 _ rfl).cell 2 _ rfl, ((unhide E1).at' 1 _ rfl).cell 0 _ rfl, ((unhide E1).at' 1 _ rfl).cell 1 _ rfl, ((unhide E1).at' 1 _ rfl).cell 2 _ rfl, ((unhide E1).at' 1 _ rfl).cell 3 _ rfl, ((unhide E1).at' 1 _ rfl).cell 4 _ rfl, ((unhide E1).at' 2 _ rfl).cell 0 _ rfl, ((unhide E1).at' 2 _ rfl).cell 1 _ rfl, ((unhide E1).at' 2 _ rfl).cell 2 _ rfl, ((unhide E1).at' 3 _ rfl).cell 0 _ rfl, ((unhide E1).at' 3 _ rfl).cell 1 _ rfl, ((unhide E1).at' 3 _ rfl).cell 2 _ rfl, ((unhide E1).at' 4 _ rfl).cell 0 _ rfl, ((unhide E1).at' 4 _ rfl).cell 1 _ rfl, ((unhide E1).at' 4 _ rfl).cell 2 _ rfl, ((unhide E1).at' 5 _ rfl).cell 0 _ rfl, ((unhide E1).at' 5 _ rfl).cell 1 _ rfl, ((unhide E1).at' 5 _ rfl).cell 2 _ rfl, ((unhide E1).at' 5 _ rfl).cell 3 _ rfl, ((unhide E1).at' 5 _ rfl).cell 4 _ rfl⟩
      clear hK K
      refine wpAnyH_take (i := 5) (oi := ({ dst := some 61, op := Op.binOp BinOp.neq 46 (Operand.tmp 56) (Operand.tmp 60) 46, type := 4, pos := "laws.go:278", after := #[{ on := 0, ground := Ground.data }, { on := 4, ground := Ground.data }], guard := none } : Oper)) (v := ?_) rfl (by kernel_rfl) (by kernel_rfl) (by kernel_rfl) (fun _ _ _ h => h) (Or.inl ⟨by kernel_rfl, ?_⟩) (by assumption) ?_
      rotate_left
      · intro W0 hSw; (try dsimp only at hSw); go_simp <;> with_reducible rfl
      try simp only [Act.put, List.setIfInBounds_toArray, List.set_cons_zero, List.set_cons_succ]
      refine wpAnyH_take (i := 6) (oi := ({ dst := some 62, op := Op.move (Operand.tmp 61), type := 4, pos := "laws.go:278", after := #[{ on := 5, ground := Ground.data }, { on := 4, ground := Ground.chain }], guard := none } : Oper)) (v := ?_) rfl (by kernel_rfl) (by kernel_rfl) (by kernel_rfl) (fun _ _ _ h => h) (Or.inl ⟨by kernel_rfl, ?_⟩) (by assumption) ?_
      rotate_left
      · intro W0 hSw; (try dsimp only at hSw); go_simp <;> with_reducible rfl
      try simp only [Act.put, List.setIfInBounds_toArray, List.set_cons_zero, List.set_cons_succ]
      refine wpAnyH_take (i := 7) (oi := ({ dst := some 63, op := Op.move (Operand.tmp 12), type := 50, pos := "laws.go:278", after := #[{ on := 6, ground := Ground.guard }], guard := some (6, false) } : Oper)) (v := ?_) rfl (by kernel_rfl) (by kernel_rfl) (by kernel_rfl) (fun _ _ _ h => h) (Or.inl ⟨by kernel_rfl, ?_⟩) (by assumption) ?_
      rotate_left
      · intro W0 hSw; (try dsimp only at hSw); go_simp <;> with_reducible rfl
      try simp only [Act.put, List.setIfInBounds_toArray, List.set_cons_zero, List.set_cons_succ]
      refine wpAnyH_take (i := 8) (oi := ({ dst := some 64, op := Op.load 24 (Operand.tmp 9), type := 24, pos := "laws.go:278", after := #[{ on := 6, ground := Ground.guard }], guard := some (6, false) } : Oper)) (v := ?_) rfl (by kernel_rfl) (by kernel_rfl) (by kernel_rfl) (fun _ _ _ h => h) (Or.inl ⟨by kernel_rfl, ?_⟩) (by assumption) ?_
      rotate_left
      · intro W0 hSw; (try dsimp only at hSw); go_simp <;> with_reducible rfl
      try simp only [Act.put, List.setIfInBounds_toArray, List.set_cons_zero, List.set_cons_succ]
      refine wpAnyH_take (i := 9) (oi := ({ dst := some 65, op := Op.move (Operand.tmp 10), type := 2, pos := "laws.go:278", after := #[{ on := 6, ground := Ground.guard }], guard := some (6, false) } : Oper)) (v := ?_) rfl (by kernel_rfl) (by kernel_rfl) (by kernel_rfl) (fun _ _ _ h => h) (Or.inl ⟨by kernel_rfl, ?_⟩) (by assumption) ?_
      rotate_left
      · intro W0 hSw; (try dsimp only at hSw); go_simp <;> with_reducible rfl
      try simp only [Act.put, List.setIfInBounds_toArray, List.set_cons_zero, List.set_cons_succ]
      refine wpAnyH_take (i := 10) (oi := ({ dst := some 66, op := Op.move (Operand.tmp 11), type := 2, pos := "laws.go:278", after := #[{ on := 6, ground := Ground.guard }], guard := some (6, false) } : Oper)) (v := ?_) rfl (by kernel_rfl) (by kernel_rfl) (by kernel_rfl) (fun _ _ _ h => h) (Or.inl ⟨by kernel_rfl, ?_⟩) (by assumption) ?_
      rotate_left
      · intro W0 hSw; (try dsimp only at hSw); go_simp <;> with_reducible rfl
      try simp only [Act.put, List.setIfInBounds_toArray, List.set_cons_zero, List.set_cons_succ]
      refine wpAnyH_ready (rs := [11]) (by kernel_rfl) (by simp) ?_
      refine (AllReadyH.cons rfl (fun K hK => ?_) AllReadyH.nil)
      go_simp
      refine (unhide cS _).mono ?_
      rintro e w2 ⟨⟨vs, rfl, ho⟩, hx⟩
      obtain ⟨aq, cq, rfl⟩ := own_slice ho
      have PS := hide (PRow.of ho (fun j hj => flatV_val R (fun _ => false) j (by rw [unhide HRL]; exact hj)))
      clear ho
      have E2 := hide ((unhide E1).below hx)
      have P2 := hide ((unhide P1).kept hx)
      clear hx E1 P1
      refine hK.out _ _ ?_ (fun hHeld2 => ?_)
      · exact ⟨((unhide E2).at' 0 _ rfl).cell 0 _ rfl, ((unhide E2).at' 0 _ rfl).cell 1 _ rfl, ((unhide E2).at' 0 _ rfl).cell 2 _ rfl, ((unhide E2).at' 1 _ rfl).cell 0 _ rfl, ((unhide E2).at' 1 _ rfl).cell 1 _ rfl, ((unhide E2).at' 1 _ rfl).cell 2 _ rfl, ((unhide E2).at' 1 _ rfl).cell 3 _ rfl, ((unhide E2).at' 1 _ rfl).cell 4 _ rfl, ((unhide E2).at' 2 _ rfl).cell 0 _ rfl, ((unhide E2).at' 2 _ rfl).cell 1 _ rfl, ((unhide E2).at' 2 _ rfl).cell 2 _ rfl, ((unhide E2).at' 3 _ rfl).cell 0 _ rfl, ((unhide E2).at' 3 _ rfl).cell 1 _ rfl, ((unhide E2).at' 3 _ rfl).cell 2 _ rfl, ((unhide E2).at' 4 _ rfl).cell 0 _ rfl, ((unhide E2).at' 4 _ rfl).cell 1 _ rfl, ((unhide E2).at' 4 _ rfl).cell 2 _ rfl, ((unhide E2).at' 5 _ rfl).cell 0 _ rfl, ((unhide E2).at' 5 _ rfl).cell 1 _ rfl, ((unhide E2).at' 5 _ rfl).cell 2 _ rfl, ((unhide E2).at' 5 _ rfl).cell 3 _ rfl, ((unhide E2).at' 5 _ rfl).cell 4 _ rfl⟩
      clear hK K
      refine wpAnyH_ready (rs := [12]) (by kernel_rfl) (by simp) ?_
      refine (AllReadyH.cons rfl (fun K hK => ?_) AllReadyH.nil)
      go_simp
      refine (lwVecs_any m _ _ _ _ _ _ (vcI R) (fun _ => false) _ (by omega) (unhide P2) (unhide PS)).mono ?_
      rintro e w3 ⟨rfl, hx⟩
      have E3 := hide ((unhide E2).below hx)
      have P3 := hide ((unhide P2).kept hx)
      clear hx E2 P2
      refine hK.out _ _ ?_ (fun hHeld3 => ?_)
      · exact ⟨((unhide E3).at' 0 _ rfl).cell 0 _ rfl, ((unhide E3).at' 0 _ rfl).cell 1 _ rfl, ((unhide E3).at' 0 _ rfl).cell 2 _ rfl, ((unhide E3).at' 1 _ rfl).cell 0 _ rfl, ((unhide E3).at' 1 _ rfl).cell 1 _ rfl, ((unhide E3).at' 1 _ rfl).cell 2 _ rfl, ((unhide E3).at' 1 _ rfl).cell 3 _ rfl, ((unhide E3).at' 1 _ rfl).cell 4 _ rfl, ((unhide E3).at' 2 _ rfl).cell 0 _ rfl, ((unhide E3).at' 2 _ rfl).cell 1 _ rfl, ((unhide E3).at' 2 _ rfl).cell 2 _ rfl, ((unhide E3).at' 3 _ rfl).cell 0 _ rfl, ((unhide E3).at' 3 _ rfl).cell 1 _ rfl, ((unhide E3).at' 3 _ rfl).cell 2 _ rfl, ((unhide E3).at' 4 _ rfl).cell 0 _ rfl, ((unhide E3).at' 4 _ rfl).cell 1 _ rfl, ((unhide E3).at' 4 _ rfl).cell 2 _ rfl, ((unhide E3).at' 5 _ rfl).cell 0 _ rfl, ((unhide E3).at' 5 _ rfl).cell 1 _ rfl, ((unhide E3).at' 5 _ rfl).cell 2 _ rfl, ((unhide E3).at' 5 _ rfl).cell 3 _ rfl, ((unhide E3).at' 5 _ rfl).cell 4 _ rfl⟩
      clear hK K
      refine wpAnyH_take (i := 13) (oi := ({ dst := some 69, op := Op.unOp UnOp.not 4 (Operand.tmp 68), type := 4, pos := "laws.go:278", after := #[{ on := 12, ground := Ground.data }, { on := 6, ground := Ground.guard }], guard := some (6, false) } : Oper)) (v := ?_) rfl (by kernel_rfl) (by kernel_rfl) (by kernel_rfl) (fun _ _ _ h => h) (Or.inl ⟨by kernel_rfl, ?_⟩) (by assumption) ?_
      rotate_left
      · intro W0 hSw; (try dsimp only at hSw); go_simp <;> with_reducible rfl
      try simp only [Act.put, List.setIfInBounds_toArray, List.set_cons_zero, List.set_cons_succ]
      refine wpAnyH_take (i := 14) (oi := ({ dst := some 70, op := Op.pick (Operand.tmp 62) (Operand.const (Value.bool true)) (Operand.tmp 69), type := 4, pos := "laws.go:278", after := #[{ on := 6, ground := Ground.data }, { on := 13, ground := Ground.data }], guard := none } : Oper)) (v := ?_) rfl (by kernel_rfl) (by kernel_rfl) (by kernel_rfl) (fun _ _ _ h => h) (Or.inl ⟨by kernel_rfl, ?_⟩) (by assumption) ?_
      rotate_left
      · intro W0 hSw; (try dsimp only at hSw); go_simp <;> with_reducible rfl
      try simp only [Act.put, List.setIfInBounds_toArray, List.set_cons_zero, List.set_cons_succ]
      refine wpAnyH_take (i := 15) (oi := ({ dst := some 71, op := Op.move (Operand.tmp 70), type := 4, pos := "laws.go:278", after := #[{ on := 14, ground := Ground.data }, { on := 12, ground := Ground.chain }], guard := none } : Oper)) (v := ?_) rfl (by kernel_rfl) (by kernel_rfl) (by kernel_rfl) (fun _ _ _ h => h) (Or.inl ⟨by kernel_rfl, ?_⟩) (by assumption) ?_
      rotate_left
      · intro W0 hSw; (try dsimp only at hSw); go_simp <;> with_reducible rfl
      try simp only [Act.put, List.setIfInBounds_toArray, List.set_cons_zero, List.set_cons_succ]
      refine wpAnyH_take (i := 16) (oi := ({ dst := some 72, op := Op.load 40 (Operand.tmp 13), type := 40, pos := "laws.go:278", after := #[{ on := 15, ground := Ground.guard }], guard := some (15, false) } : Oper)) (v := ?_) rfl (by kernel_rfl) (by kernel_rfl) (by kernel_rfl) (fun _ _ _ h => h) (Or.inl ⟨by kernel_rfl, ?_⟩) (by assumption) ?_
      rotate_left
      · intro W0 hSw; (try dsimp only at hSw); go_simp <;> with_reducible rfl
      try simp only [Act.put, List.setIfInBounds_toArray, List.set_cons_zero, List.set_cons_succ]
      refine wpAnyH_take (i := 17) (oi := ({ dst := some 73, op := Op.move (Operand.tmp 14), type := 2, pos := "laws.go:278", after := #[{ on := 15, ground := Ground.guard }], guard := some (15, false) } : Oper)) (v := ?_) rfl (by kernel_rfl) (by kernel_rfl) (by kernel_rfl) (fun _ _ _ h => h) (Or.inl ⟨by kernel_rfl, ?_⟩) (by assumption) ?_
      rotate_left
      · intro W0 hSw; (try dsimp only at hSw); go_simp <;> with_reducible rfl
      try simp only [Act.put, List.setIfInBounds_toArray, List.set_cons_zero, List.set_cons_succ]
      refine wpAnyH_take (i := 18) (oi := ({ dst := some 74, op := Op.move (Operand.tmp 15), type := 2, pos := "laws.go:278", after := #[{ on := 15, ground := Ground.guard }], guard := some (15, false) } : Oper)) (v := ?_) rfl (by kernel_rfl) (by kernel_rfl) (by kernel_rfl) (fun _ _ _ h => h) (Or.inl ⟨by kernel_rfl, ?_⟩) (by assumption) ?_
      rotate_left
      · intro W0 hSw; (try dsimp only at hSw); go_simp <;> with_reducible rfl
      try simp only [Act.put, List.setIfInBounds_toArray, List.set_cons_zero, List.set_cons_succ]
      refine wpAnyH_take (i := 20) (oi := ({ dst := some 76, op := Op.load 40 (Operand.tmp 13), type := 40, pos := "laws.go:278", after := #[{ on := 15, ground := Ground.guard }], guard := some (15, false) } : Oper)) (v := ?_) rfl (by kernel_rfl) (by kernel_rfl) (by kernel_rfl) (fun _ _ _ h => h) (Or.inl ⟨by kernel_rfl, ?_⟩) (by assumption) ?_
      rotate_left
      · intro W0 hSw; (try dsimp only at hSw); go_simp <;> with_reducible rfl
      try simp only [Act.put, List.setIfInBounds_toArray, List.set_cons_zero, List.set_cons_succ]
      refine wpAnyH_take (i := 21) (oi := ({ dst := some 77, op := Op.move (Operand.tmp 14), type := 2, pos := "laws.go:278", after := #[{ on := 15, ground := Ground.guard }], guard := some (15, false) } : Oper)) (v := ?_) rfl (by kernel_rfl) (by kernel_rfl) (by kernel_rfl) (fun _ _ _ h => h) (Or.inl ⟨by kernel_rfl, ?_⟩) (by assumption) ?_
      rotate_left
      · intro W0 hSw; (try dsimp only at hSw); go_simp <;> with_reducible rfl
      try simp only [Act.put, List.setIfInBounds_toArray, List.set_cons_zero, List.set_cons_succ]
      refine wpAnyH_take (i := 22) (oi := ({ dst := some 78, op := Op.move (Operand.tmp 15), type := 2, pos := "laws.go:278", after := #[{ on := 15, ground := Ground.guard }], guard := some (15, false) } : Oper)) (v := ?_) rfl (by kernel_rfl) (by kernel_rfl) (by kernel_rfl) (fun _ _ _ h => h) (Or.inl ⟨by kernel_rfl, ?_⟩) (by assumption) ?_
      rotate_left
      · intro W0 hSw; (try dsimp only at hSw); go_simp <;> with_reducible rfl
      try simp only [Act.put, List.setIfInBounds_toArray, List.set_cons_zero, List.set_cons_succ]
      refine wpAnyH_ready (rs := [19]) (by kernel_rfl) (by simp) ?_
      refine (AllReadyH.cons rfl (fun K hK => ?_) AllReadyH.nil)
      go_simp
      refine (unhide cG _).mono ?_
      rintro e w4 ⟨rfl, hx⟩
      have E4 := hide ((unhide E3).below hx)
      have P4 := hide ((unhide P3).kept hx)
      clear hx E3 P3
      refine hK.out _ _ ?_ (fun hHeld4 => ?_)
      · exact ⟨((unhide E4).at' 0 _ rfl).cell 0 _ rfl, ((unhide E4).at' 0 _ rfl).cell 1 _ rfl, ((unhide E4).at' 0 _ rfl).cell 2 _ rfl, ((unhide E4).at' 1 _ rfl).cell 0 _ rfl, ((unhide E4).at' 1 _ rfl).cell 1 _ rfl, ((unhide E4).at' 1 _ rfl).cell 2 _ rfl, ((unhide E4).at' 1 _ rfl).cell 3 _ rfl, ((unhide E4).at' 1 _ rfl).cell 4 _ rfl, ((unhide E4).at' 2 _ rfl).cell 0 _ rfl, ((unhide E4).at' 2 _ rfl).cell 1 _ rfl, ((unhide E4).at' 2 _ rfl).cell 2 _ rfl, ((unhide E4).at' 3 _ rfl).cell 0 _ rfl, ((unhide E4).at' 3 _ rfl).cell 1 _ rfl, ((unhide E4).at' 3 _ rfl).cell 2 _ rfl, ((unhide E4).at' 4 _ rfl).cell 0 _ rfl, ((unhide E4).at' 4 _ rfl).cell 1 _ rfl, ((unhide E4).at' 4 _ rfl).cell 2 _ rfl, ((unhide E4).at' 5 _ rfl).cell 0 _ rfl, ((unhide E4).at' 5 _ rfl).cell 1 _ rfl, ((unhide E4).at' 5 _ rfl).cell 2 _ rfl, ((unhide E4).at' 5 _ rfl).cell 3 _ rfl, ((unhide E4).at' 5 _ rfl).cell 4 _ rfl⟩
      clear hK K
      refine wpAnyH_ready (rs := [23]) (by kernel_rfl) (by simp) ?_
      refine (AllReadyH.cons rfl (fun K hK => ?_) AllReadyH.nil)
      go_simp
      refine (unhide cGs _).mono ?_
      rintro e w5 ⟨rfl, hx⟩
      have E5 := hide ((unhide E4).below hx)
      have P5 := hide ((unhide P4).kept hx)
      clear hx E4 P4
      refine hK.out _ _ ?_ (fun hHeld5 => ?_)
      · exact ⟨((unhide E5).at' 0 _ rfl).cell 0 _ rfl, ((unhide E5).at' 0 _ rfl).cell 1 _ rfl, ((unhide E5).at' 0 _ rfl).cell 2 _ rfl, ((unhide E5).at' 1 _ rfl).cell 0 _ rfl, ((unhide E5).at' 1 _ rfl).cell 1 _ rfl, ((unhide E5).at' 1 _ rfl).cell 2 _ rfl, ((unhide E5).at' 1 _ rfl).cell 3 _ rfl, ((unhide E5).at' 1 _ rfl).cell 4 _ rfl, ((unhide E5).at' 2 _ rfl).cell 0 _ rfl, ((unhide E5).at' 2 _ rfl).cell 1 _ rfl, ((unhide E5).at' 2 _ rfl).cell 2 _ rfl, ((unhide E5).at' 3 _ rfl).cell 0 _ rfl, ((unhide E5).at' 3 _ rfl).cell 1 _ rfl, ((unhide E5).at' 3 _ rfl).cell 2 _ rfl, ((unhide E5).at' 4 _ rfl).cell 0 _ rfl, ((unhide E5).at' 4 _ rfl).cell 1 _ rfl, ((unhide E5).at' 4 _ rfl).cell 2 _ rfl, ((unhide E5).at' 5 _ rfl).cell 0 _ rfl, ((unhide E5).at' 5 _ rfl).cell 1 _ rfl, ((unhide E5).at' 5 _ rfl).cell 2 _ rfl, ((unhide E5).at' 5 _ rfl).cell 3 _ rfl, ((unhide E5).at' 5 _ rfl).cell 4 _ rfl⟩
      clear hK K
      refine wpAnyH_take (i := 24) (oi := ({ dst := some 80, op := Op.binOp BinOp.neq 4 (Operand.tmp 75) (Operand.tmp 79) 4, type := 4, pos := "laws.go:278", after := #[{ on := 19, ground := Ground.data }, { on := 23, ground := Ground.data }, { on := 15, ground := Ground.guard }], guard := some (15, false) } : Oper)) (v := ?_) rfl (by kernel_rfl) (by kernel_rfl) (by kernel_rfl) (fun _ _ _ h => h) (Or.inl ⟨by kernel_rfl, ?_⟩) (by assumption) ?_
      rotate_left
      · intro W0 hSw; (try dsimp only at hSw); go_simp <;> with_reducible rfl
      try simp only [Act.put, List.setIfInBounds_toArray, List.set_cons_zero, List.set_cons_succ]
      refine wpAnyH_take (i := 25) (oi := ({ dst := some 81, op := Op.pick (Operand.tmp 71) (Operand.const (Value.bool true)) (Operand.tmp 80), type := 4, pos := "laws.go:278", after := #[{ on := 15, ground := Ground.data }, { on := 24, ground := Ground.data }], guard := none } : Oper)) (v := ?_) rfl (by kernel_rfl) (by kernel_rfl) (by kernel_rfl) (fun _ _ _ h => h) (Or.inl ⟨by kernel_rfl, ?_⟩) (by assumption) ?_
      rotate_left
      · intro W0 hSw; (try dsimp only at hSw); go_simp <;> with_reducible rfl
      try simp only [Act.put, List.setIfInBounds_toArray, List.set_cons_zero, List.set_cons_succ]
      refine wpAnyH_take (i := 26) (oi := ({ dst := some 82, op := Op.move (Operand.tmp 81), type := 4, pos := "laws.go:278", after := #[{ on := 25, ground := Ground.data }, { on := 23, ground := Ground.chain }], guard := none } : Oper)) (v := ?_) rfl (by kernel_rfl) (by kernel_rfl) (by kernel_rfl) (fun _ _ _ h => h) (Or.inl ⟨by kernel_rfl, ?_⟩) (by assumption) ?_
      rotate_left
      · intro W0 hSw; (try dsimp only at hSw); go_simp <;> with_reducible rfl
      try simp only [Act.put, List.setIfInBounds_toArray, List.set_cons_zero, List.set_cons_succ]
      refine wpAnyH_take (i := 27) (oi := ({ dst := some 83, op := Op.load 46 (Operand.tmp 8), type := 46, pos := "laws.go:278", after := #[{ on := 26, ground := Ground.guard }], guard := some (26, false) } : Oper)) (v := ?_) rfl (by kernel_rfl) (by kernel_rfl) (by kernel_rfl) (fun _ _ _ h => h) (Or.inl ⟨by kernel_rfl, ?_⟩) (by assumption) ?_
      rotate_left
      · intro W0 hSw; (try dsimp only at hSw); go_simp <;> with_reducible rfl
      try simp only [Act.put, List.setIfInBounds_toArray, List.set_cons_zero, List.set_cons_succ]
      refine wpAnyH_take (i := 28) (oi := ({ dst := some 84, op := Op.load 46 (Operand.tmp 16), type := 46, pos := "laws.go:278", after := #[{ on := 26, ground := Ground.guard }], guard := some (26, false) } : Oper)) (v := ?_) rfl (by kernel_rfl) (by kernel_rfl) (by kernel_rfl) (fun _ _ _ h => h) (Or.inl ⟨by kernel_rfl, ?_⟩) (by assumption) ?_
      rotate_left
      · intro W0 hSw; (try dsimp only at hSw); go_simp <;> with_reducible rfl
      try simp only [Act.put, List.setIfInBounds_toArray, List.set_cons_zero, List.set_cons_succ]
      refine wpAnyH_take (i := 29) (oi := ({ dst := some 85, op := Op.binOp BinOp.neq 46 (Operand.tmp 83) (Operand.tmp 84) 46, type := 4, pos := "laws.go:278", after := #[{ on := 27, ground := Ground.data }, { on := 28, ground := Ground.data }, { on := 26, ground := Ground.guard }], guard := some (26, false) } : Oper)) (v := ?_) rfl (by kernel_rfl) (by kernel_rfl) (by kernel_rfl) (fun _ _ _ h => h) (Or.inl ⟨by kernel_rfl, ?_⟩) (by assumption) ?_
      rotate_left
      · intro W0 hSw; (try dsimp only at hSw); go_simp <;> with_reducible rfl
      try simp only [Act.put, List.setIfInBounds_toArray, List.set_cons_zero, List.set_cons_succ]
      refine wpAnyH_take (i := 30) (oi := ({ dst := some 86, op := Op.move (Operand.tmp 85), type := 4, pos := "laws.go:278", after := #[{ on := 29, ground := Ground.data }, { on := 26, ground := Ground.chain }, { on := 26, ground := Ground.guard }], guard := some (26, false) } : Oper)) (v := ?_) rfl (by kernel_rfl) (by kernel_rfl) (by kernel_rfl) (fun _ _ _ h => h) (Or.inl ⟨by kernel_rfl, ?_⟩) (by assumption) ?_
      rotate_left
      · intro W0 hSw; (try dsimp only at hSw); go_simp <;> with_reducible rfl
      try simp only [Act.put, List.setIfInBounds_toArray, List.set_cons_zero, List.set_cons_succ]
      refine wpAnyH_take (i := 31) (oi := ({ dst := some 87, op := Op.fieldAddr 46 (Operand.tmp 8) 2, type := 0, pos := "laws.go:278", after := #[{ on := 30, ground := Ground.guard }], guard := some (30, true) } : Oper)) (v := undef) rfl (by kernel_rfl) (by kernel_rfl) (by kernel_rfl) (fun _ _ _ h => h) (Or.inr ⟨by kernel_rfl, rfl⟩) (by assumption) ?_
      try simp only [Act.put, List.setIfInBounds_toArray, List.set_cons_zero, List.set_cons_succ]
      refine wpAnyH_take (i := 32) (oi := ({ dst := some 88, op := Op.load 2 (Operand.tmp 87), type := 2, pos := "laws.go:278", after := #[{ on := 31, ground := Ground.data }, { on := 30, ground := Ground.guard }], guard := some (30, true) } : Oper)) (v := undef) rfl (by kernel_rfl) (by kernel_rfl) (by kernel_rfl) (fun _ _ _ h => h) (Or.inr ⟨by kernel_rfl, rfl⟩) (by assumption) ?_
      try simp only [Act.put, List.setIfInBounds_toArray, List.set_cons_zero, List.set_cons_succ]
      refine wpAnyH_take (i := 33) (oi := ({ dst := some 89, op := Op.binOp BinOp.leq 2 (Operand.tmp 88) (Operand.const (Value.int IntKind.i64 0)) 2, type := 4, pos := "laws.go:278", after := #[{ on := 32, ground := Ground.data }, { on := 30, ground := Ground.guard }], guard := some (30, true) } : Oper)) (v := undef) rfl (by kernel_rfl) (by kernel_rfl) (by kernel_rfl) (fun _ _ _ h => h) (Or.inr ⟨by kernel_rfl, rfl⟩) (by assumption) ?_
      try simp only [Act.put, List.setIfInBounds_toArray, List.set_cons_zero, List.set_cons_succ]
      refine wpAnyH_take (i := 34) (oi := ({ dst := some 90, op := Op.move (Operand.tmp 89), type := 4, pos := "laws.go:278", after := #[{ on := 33, ground := Ground.data }, { on := 30, ground := Ground.chain }, { on := 30, ground := Ground.guard }], guard := some (30, true) } : Oper)) (v := undef) rfl (by kernel_rfl) (by kernel_rfl) (by kernel_rfl) (fun _ _ _ h => h) (Or.inr ⟨by kernel_rfl, rfl⟩) (by assumption) ?_
      try simp only [Act.put, List.setIfInBounds_toArray, List.set_cons_zero, List.set_cons_succ]
      refine wpAnyH_take (i := 35) (oi := ({ dst := some 91, op := Op.load 46 (Operand.tmp 8), type := 46, pos := "laws.go:278", after := #[{ on := 34, ground := Ground.guard }], guard := some (34, false) } : Oper)) (v := undef) rfl (by kernel_rfl) (by kernel_rfl) (by kernel_rfl) (fun _ _ _ h => h) (Or.inr ⟨by kernel_rfl, rfl⟩) (by assumption) ?_
      try simp only [Act.put, List.setIfInBounds_toArray, List.set_cons_zero, List.set_cons_succ]
      refine wpAnyH_take (i := 36) (oi := ({ dst := some 92, op := Op.call { callee := Callee.value (Operand.func 27), args := #[Operand.tmp 91], argTypes := #[46] }, type := 46, pos := "laws.go:278", after := #[{ on := 35, ground := Ground.data }, { on := 34, ground := Ground.chain }, { on := 34, ground := Ground.guard }], guard := some (34, false) } : Oper)) (v := undef) rfl (by kernel_rfl) (by kernel_rfl) (by kernel_rfl) (fun _ _ _ h => h) (Or.inr ⟨by kernel_rfl, rfl⟩) (by assumption) ?_
      try simp only [Act.put, List.setIfInBounds_toArray, List.set_cons_zero, List.set_cons_succ]
      refine wpAnyH_take (i := 37) (oi := ({ dst := some 93, op := Op.load 46 (Operand.tmp 8), type := 46, pos := "laws.go:278", after := #[{ on := 34, ground := Ground.guard }], guard := some (34, false) } : Oper)) (v := undef) rfl (by kernel_rfl) (by kernel_rfl) (by kernel_rfl) (fun _ _ _ h => h) (Or.inr ⟨by kernel_rfl, rfl⟩) (by assumption) ?_
      try simp only [Act.put, List.setIfInBounds_toArray, List.set_cons_zero, List.set_cons_succ]
      refine wpAnyH_take (i := 38) (oi := ({ dst := some 94, op := Op.binOp BinOp.neq 46 (Operand.tmp 92) (Operand.tmp 93) 46, type := 4, pos := "laws.go:278", after := #[{ on := 36, ground := Ground.data }, { on := 37, ground := Ground.data }, { on := 34, ground := Ground.guard }], guard := some (34, false) } : Oper)) (v := undef) rfl (by kernel_rfl) (by kernel_rfl) (by kernel_rfl) (fun _ _ _ h => h) (Or.inr ⟨by kernel_rfl, rfl⟩) (by assumption) ?_
      try simp only [Act.put, List.setIfInBounds_toArray, List.set_cons_zero, List.set_cons_succ]
      refine wpAnyH_take (i := 39) (oi := ({ dst := some 95, op := Op.pick (Operand.tmp 90) (Operand.const (Value.bool true)) (Operand.tmp 94), type := 4, pos := "laws.go:278", after := #[{ on := 34, ground := Ground.data }, { on := 38, ground := Ground.data }, { on := 30, ground := Ground.guard }], guard := some (30, true) } : Oper)) (v := undef) rfl (by kernel_rfl) (by kernel_rfl) (by kernel_rfl) (fun _ _ _ h => h) (Or.inr ⟨by kernel_rfl, rfl⟩) (by assumption) ?_
      try simp only [Act.put, List.setIfInBounds_toArray, List.set_cons_zero, List.set_cons_succ]
      refine wpAnyH_take (i := 40) (oi := ({ dst := some 96, op := Op.pick (Operand.tmp 86) (Operand.tmp 95) (Operand.const (Value.bool false)), type := 4, pos := "laws.go:278", after := #[{ on := 30, ground := Ground.data }, { on := 39, ground := Ground.data }, { on := 26, ground := Ground.guard }], guard := some (26, false) } : Oper)) (v := ?_) rfl (by kernel_rfl) (by kernel_rfl) (by kernel_rfl) (fun _ _ _ h => h) (Or.inl ⟨by kernel_rfl, ?_⟩) (by assumption) ?_
      rotate_left
      · intro W0 hSw; (try dsimp only at hSw); go_simp <;> with_reducible rfl
      try simp only [Act.put, List.setIfInBounds_toArray, List.set_cons_zero, List.set_cons_succ]
      refine wpAnyH_take (i := 41) (oi := ({ dst := some 97, op := Op.pick (Operand.tmp 82) (Operand.const (Value.bool true)) (Operand.tmp 96), type := 4, pos := "laws.go:278", after := #[{ on := 26, ground := Ground.data }, { on := 40, ground := Ground.data }], guard := none } : Oper)) (v := ?_) rfl (by kernel_rfl) (by kernel_rfl) (by kernel_rfl) (fun _ _ _ h => h) (Or.inl ⟨by kernel_rfl, ?_⟩) (by assumption) ?_
      rotate_left
      · intro W0 hSw; (try dsimp only at hSw); go_simp <;> with_reducible rfl
      try simp only [Act.put, List.setIfInBounds_toArray, List.set_cons_zero, List.set_cons_succ]
      refine wpAnyH_done (by kernel_rfl) ?_ _
      go_wp2_with fail
      go_meet
      exact ⟨rfl, hide ((unhide E5).pick (by intro x hx; simp only [List.mem_cons, List.not_mem_nil, or_false] at hx; subst hx; simp)), hide ⟨_, _, unhide P5⟩⟩
    · clear HPR
      have hz' : ¬ z ≤ 0 := by omega
      have hn := fun W => neq_vec x y z 0 0 0 W
      rw [show eqB x y z 0 0 0 = false from decide_eq_false (by omega)] at hn
      have cP := hide (fun W => prime_any x y z W)
      rw [hp1, hp2, hp3] at cP
      clear hp1 hp2 hp3
      go_wp2_with fail
      refine wp_region_held_drew (S := (fun w' => w'.cell? ⟨cb + 1, 0, none⟩ = some (.int .i64 0) ∧ w'.cell? ⟨cb + 1, 1, none⟩ = some (.int .i64 0) ∧ w'.cell? ⟨cb + 1, 2, none⟩ = some (.int .i64 0) ∧ w'.cell? ⟨cb, 0, none⟩ = some (.int .i64 ar2) ∧ w'.cell? ⟨cb, 1, none⟩ = some (.int .i64 su2) ∧ w'.cell? ⟨cb, 2, none⟩ = some (.int .i64 sx2) ∧ w'.cell? ⟨cb, 3, none⟩ = some (.int .i64 sy2) ∧ w'.cell? ⟨cb, 4, none⟩ = some (.bool ed2) ∧ w'.cell? ⟨gb, 0, none⟩ = some (.int .i64 wd2) ∧ w'.cell? ⟨gb, 1, none⟩ = some (.int .i64 ht2) ∧ w'.cell? ⟨gb, 2, none⟩ = some (.string s2) ∧ w'.cell? ⟨vb, 0, none⟩ = some (.int .i64 x) ∧ w'.cell? ⟨vb, 1, none⟩ = some (.int .i64 y) ∧ w'.cell? ⟨vb, 2, none⟩ = some (.int .i64 z) ∧ w'.cell? ⟨bb + 1, 0, none⟩ = some (.int .i64 wd) ∧ w'.cell? ⟨bb + 1, 1, none⟩ = some (.int .i64 ht) ∧ w'.cell? ⟨bb + 1, 2, none⟩ = some (.string s) ∧ w'.cell? ⟨bb, 0, none⟩ = some (.int .i64 ar) ∧ w'.cell? ⟨bb, 1, none⟩ = some (.int .i64 su) ∧ w'.cell? ⟨bb, 2, none⟩ = some (.int .i64 sx) ∧ w'.cell? ⟨bb, 3, none⟩ = some (.int .i64 sy) ∧ w'.cell? ⟨bb, 4, none⟩ = some (.bool ed))) (by kernel_rfl) ⟨((unhide E8).at' 0 _ rfl).cell 0 _ rfl, ((unhide E8).at' 0 _ rfl).cell 1 _ rfl, ((unhide E8).at' 0 _ rfl).cell 2 _ rfl, ((unhide E8).at' 1 _ rfl).cell 0 _ rfl, ((unhide E8).at' 1 _ rfl).cell 1 _ rfl, ((unhide E8).at' 1 _ rfl).cell 2 _ rfl, ((unhide E8).at' 1 _ rfl).cell 3 _ rfl, ((unhide E8).at' 1 _ rfl).cell 4 _ rfl, ((unhide E8).at' 2 _ rfl).cell 0 _ rfl, ((unhide E8).at' 2 _ rfl).cell 1 _ rfl, ((unhide E8).at' 2 _ rfl).cell 2 _ rfl, ((unhide E8).at' 3 _ rfl).cell 0 _ rfl, ((unhide E8).at' 3 _ rfl).cell 1 _ rfl, ((unhide E8).at' 3 _ rfl).cell 2 _ rfl, ((unhide E8).at' 4 _ rfl).cell 0 _ rfl, ((unhide E8).at' 4 _ rfl).cell 1 _ rfl, ((unhide E8).at' 4 _ rfl).cell 2 _ rfl, ((unhide E8).at' 5 _ rfl).cell 0 _ rfl, ((unhide E8).at' 5 _ rfl).cell 1 _ rfl, ((unhide E8).at' 5 _ rfl).cell 2 _ rfl, ((unhide E8).at' 5 _ rfl).cell 3 _ rfl, ((unhide E8).at' 5 _ rfl).cell 4 _ rfl⟩ (fun hHeld => ?_)
      have E0 := hide (unhide E8).drewn
      have P0 : Hid (PRow W9.drew _ _ _ _ _ _ _) := hide (unhide P8)
      clear E8 P8
      generalize W9.drew = V0 at E0 P0 hHeld ⊢
      refine wpAnyH_take (i := 0) (oi := ({ dst := some 56, op := Op.load 46 (Operand.tmp 8), type := 46, pos := "laws.go:278", after := #[], guard := none } : Oper)) (v := ?_) rfl (by kernel_rfl) (by kernel_rfl) (by kernel_rfl) (fun _ _ _ h => h) (Or.inl ⟨by kernel_rfl, ?_⟩) (by assumption) ?_
      rotate_left
      · intro W0 hSw; (try dsimp only at hSw); go_simp <;> with_reducible rfl
      try simp only [Act.put, List.setIfInBounds_toArray, List.set_cons_zero, List.set_cons_succ]
      refine wpAnyH_take (i := 1) (oi := ({ dst := some 57, op := Op.load 40 (Operand.tmp 5), type := 40, pos := "laws.go:278", after := #[], guard := none } : Oper)) (v := ?_) rfl (by kernel_rfl) (by kernel_rfl) (by kernel_rfl) (fun _ _ _ h => h) (Or.inl ⟨by kernel_rfl, ?_⟩) (by assumption) ?_
      rotate_left
      · intro W0 hSw; (try dsimp only at hSw); go_simp <;> with_reducible rfl
      try simp only [Act.put, List.setIfInBounds_toArray, List.set_cons_zero, List.set_cons_succ]
      refine wpAnyH_take (i := 2) (oi := ({ dst := some 58, op := Op.load 24 (Operand.tmp 6), type := 24, pos := "laws.go:278", after := #[], guard := none } : Oper)) (v := ?_) rfl (by kernel_rfl) (by kernel_rfl) (by kernel_rfl) (fun _ _ _ h => h) (Or.inl ⟨by kernel_rfl, ?_⟩) (by assumption) ?_
      rotate_left
      · intro W0 hSw; (try dsimp only at hSw); go_simp <;> with_reducible rfl
      try simp only [Act.put, List.setIfInBounds_toArray, List.set_cons_zero, List.set_cons_succ]
      refine wpAnyH_take (i := 3) (oi := ({ dst := some 59, op := Op.move (Operand.tmp 7), type := 2, pos := "laws.go:278", after := #[], guard := none } : Oper)) (v := ?_) rfl (by kernel_rfl) (by kernel_rfl) (by kernel_rfl) (fun _ _ _ h => h) (Or.inl ⟨by kernel_rfl, ?_⟩) (by assumption) ?_
      rotate_left
      · intro W0 hSw; (try dsimp only at hSw); go_simp <;> with_reducible rfl
      try simp only [Act.put, List.setIfInBounds_toArray, List.set_cons_zero, List.set_cons_succ]
      refine wpAnyH_ready (rs := [4]) (by kernel_rfl) (by simp) ?_
      refine (AllReadyH.cons rfl (fun K hK => ?_) AllReadyH.nil)
      go_simp
      refine (unhide cVs _).mono ?_
      rintro e w1 ⟨rfl, hx⟩
      have E1 := hide ((unhide E0).below hx)
      have P1 := hide ((unhide P0).kept hx)
      clear hx
      refine hK.out _ _ ?_ (fun hHeld1 => ?_)
      · exact ⟨((unhide E1).at' 0 _ rfl).cell 0 _ rfl, ((unhide E1).at' 0 _ rfl).cell 1 _ rfl, ((unhide E1).at' 0 _ rfl).cell 2 _ rfl, ((unhide E1).at' 1 _ rfl).cell 0 _ rfl, ((unhide E1).at' 1 _ rfl).cell 1 _ rfl, ((unhide E1).at' 1 _ rfl).cell 2 _ rfl, ((unhide E1).at' 1 _ rfl).cell 3 _ rfl, ((unhide E1).at' 1 _ rfl).cell 4 _ rfl, ((unhide E1).at' 2 _ rfl).cell 0 _ rfl, ((unhide E1).at' 2 _ rfl).cell 1 _ rfl, ((unhide E1).at' 2 _ rfl).cell 2 _ rfl, ((unhide E1).at' 3 _ rfl).cell 0 _ rfl, ((unhide E1).at' 3 _ rfl).cell 1 _ rfl, ((unhide E1).at' 3 _ rfl).cell 2 _ rfl, ((unhide E1).at' 4 _ rfl).cell 0 _ rfl, ((unhide E1).at' 4 _ rfl).cell 1 _ rfl, ((unhide E1).at' 4 _ rfl).cell 2 _ rfl, ((unhide E1).at' 5 _ rfl).cell 0 _ rfl, ((unhide E1).at' 5 _ rfl).cell 1 _ rfl, ((unhide E1).at' 5 _ rfl).cell 2 _ rfl, ((unhide E1).at' 5 _ rfl).cell 3 _ rfl, ((unhide E1).at' 5 _ rfl).cell 4 _ rfl⟩
      clear hK K
      refine wpAnyH_take (i := 5) (oi := ({ dst := some 61, op := Op.binOp BinOp.neq 46 (Operand.tmp 56) (Operand.tmp 60) 46, type := 4, pos := "laws.go:278", after := #[{ on := 0, ground := Ground.data }, { on := 4, ground := Ground.data }], guard := none } : Oper)) (v := ?_) rfl (by kernel_rfl) (by kernel_rfl) (by kernel_rfl) (fun _ _ _ h => h) (Or.inl ⟨by kernel_rfl, ?_⟩) (by assumption) ?_
      rotate_left
      · intro W0 hSw; (try dsimp only at hSw); go_simp <;> with_reducible rfl
      try simp only [Act.put, List.setIfInBounds_toArray, List.set_cons_zero, List.set_cons_succ]
      refine wpAnyH_take (i := 6) (oi := ({ dst := some 62, op := Op.move (Operand.tmp 61), type := 4, pos := "laws.go:278", after := #[{ on := 5, ground := Ground.data }, { on := 4, ground := Ground.chain }], guard := none } : Oper)) (v := ?_) rfl (by kernel_rfl) (by kernel_rfl) (by kernel_rfl) (fun _ _ _ h => h) (Or.inl ⟨by kernel_rfl, ?_⟩) (by assumption) ?_
      rotate_left
      · intro W0 hSw; (try dsimp only at hSw); go_simp <;> with_reducible rfl
      try simp only [Act.put, List.setIfInBounds_toArray, List.set_cons_zero, List.set_cons_succ]
      refine wpAnyH_take (i := 7) (oi := ({ dst := some 63, op := Op.move (Operand.tmp 12), type := 50, pos := "laws.go:278", after := #[{ on := 6, ground := Ground.guard }], guard := some (6, false) } : Oper)) (v := ?_) rfl (by kernel_rfl) (by kernel_rfl) (by kernel_rfl) (fun _ _ _ h => h) (Or.inl ⟨by kernel_rfl, ?_⟩) (by assumption) ?_
      rotate_left
      · intro W0 hSw; (try dsimp only at hSw); go_simp <;> with_reducible rfl
      try simp only [Act.put, List.setIfInBounds_toArray, List.set_cons_zero, List.set_cons_succ]
      refine wpAnyH_take (i := 8) (oi := ({ dst := some 64, op := Op.load 24 (Operand.tmp 9), type := 24, pos := "laws.go:278", after := #[{ on := 6, ground := Ground.guard }], guard := some (6, false) } : Oper)) (v := ?_) rfl (by kernel_rfl) (by kernel_rfl) (by kernel_rfl) (fun _ _ _ h => h) (Or.inl ⟨by kernel_rfl, ?_⟩) (by assumption) ?_
      rotate_left
      · intro W0 hSw; (try dsimp only at hSw); go_simp <;> with_reducible rfl
      try simp only [Act.put, List.setIfInBounds_toArray, List.set_cons_zero, List.set_cons_succ]
      refine wpAnyH_take (i := 9) (oi := ({ dst := some 65, op := Op.move (Operand.tmp 10), type := 2, pos := "laws.go:278", after := #[{ on := 6, ground := Ground.guard }], guard := some (6, false) } : Oper)) (v := ?_) rfl (by kernel_rfl) (by kernel_rfl) (by kernel_rfl) (fun _ _ _ h => h) (Or.inl ⟨by kernel_rfl, ?_⟩) (by assumption) ?_
      rotate_left
      · intro W0 hSw; (try dsimp only at hSw); go_simp <;> with_reducible rfl
      try simp only [Act.put, List.setIfInBounds_toArray, List.set_cons_zero, List.set_cons_succ]
      refine wpAnyH_take (i := 10) (oi := ({ dst := some 66, op := Op.move (Operand.tmp 11), type := 2, pos := "laws.go:278", after := #[{ on := 6, ground := Ground.guard }], guard := some (6, false) } : Oper)) (v := ?_) rfl (by kernel_rfl) (by kernel_rfl) (by kernel_rfl) (fun _ _ _ h => h) (Or.inl ⟨by kernel_rfl, ?_⟩) (by assumption) ?_
      rotate_left
      · intro W0 hSw; (try dsimp only at hSw); go_simp <;> with_reducible rfl
      try simp only [Act.put, List.setIfInBounds_toArray, List.set_cons_zero, List.set_cons_succ]
      refine wpAnyH_ready (rs := [11]) (by kernel_rfl) (by simp) ?_
      refine (AllReadyH.cons rfl (fun K hK => ?_) AllReadyH.nil)
      go_simp
      refine (unhide cS _).mono ?_
      rintro e w2 ⟨⟨vs, rfl, ho⟩, hx⟩
      obtain ⟨aq, cq, rfl⟩ := own_slice ho
      have PS := hide (PRow.of ho (fun j hj => flatV_val R (fun _ => false) j (by rw [unhide HRL]; exact hj)))
      clear ho
      have E2 := hide ((unhide E1).below hx)
      have P2 := hide ((unhide P1).kept hx)
      clear hx E1 P1
      refine hK.out _ _ ?_ (fun hHeld2 => ?_)
      · exact ⟨((unhide E2).at' 0 _ rfl).cell 0 _ rfl, ((unhide E2).at' 0 _ rfl).cell 1 _ rfl, ((unhide E2).at' 0 _ rfl).cell 2 _ rfl, ((unhide E2).at' 1 _ rfl).cell 0 _ rfl, ((unhide E2).at' 1 _ rfl).cell 1 _ rfl, ((unhide E2).at' 1 _ rfl).cell 2 _ rfl, ((unhide E2).at' 1 _ rfl).cell 3 _ rfl, ((unhide E2).at' 1 _ rfl).cell 4 _ rfl, ((unhide E2).at' 2 _ rfl).cell 0 _ rfl, ((unhide E2).at' 2 _ rfl).cell 1 _ rfl, ((unhide E2).at' 2 _ rfl).cell 2 _ rfl, ((unhide E2).at' 3 _ rfl).cell 0 _ rfl, ((unhide E2).at' 3 _ rfl).cell 1 _ rfl, ((unhide E2).at' 3 _ rfl).cell 2 _ rfl, ((unhide E2).at' 4 _ rfl).cell 0 _ rfl, ((unhide E2).at' 4 _ rfl).cell 1 _ rfl, ((unhide E2).at' 4 _ rfl).cell 2 _ rfl, ((unhide E2).at' 5 _ rfl).cell 0 _ rfl, ((unhide E2).at' 5 _ rfl).cell 1 _ rfl, ((unhide E2).at' 5 _ rfl).cell 2 _ rfl, ((unhide E2).at' 5 _ rfl).cell 3 _ rfl, ((unhide E2).at' 5 _ rfl).cell 4 _ rfl⟩
      clear hK K
      refine wpAnyH_ready (rs := [12]) (by kernel_rfl) (by simp) ?_
      refine (AllReadyH.cons rfl (fun K hK => ?_) AllReadyH.nil)
      go_simp
      refine (lwVecs_any m _ _ _ _ _ _ (vcI R) (fun _ => false) _ (by omega) (unhide P2) (unhide PS)).mono ?_
      rintro e w3 ⟨rfl, hx⟩
      have E3 := hide ((unhide E2).below hx)
      have P3 := hide ((unhide P2).kept hx)
      clear hx E2 P2
      refine hK.out _ _ ?_ (fun hHeld3 => ?_)
      · exact ⟨((unhide E3).at' 0 _ rfl).cell 0 _ rfl, ((unhide E3).at' 0 _ rfl).cell 1 _ rfl, ((unhide E3).at' 0 _ rfl).cell 2 _ rfl, ((unhide E3).at' 1 _ rfl).cell 0 _ rfl, ((unhide E3).at' 1 _ rfl).cell 1 _ rfl, ((unhide E3).at' 1 _ rfl).cell 2 _ rfl, ((unhide E3).at' 1 _ rfl).cell 3 _ rfl, ((unhide E3).at' 1 _ rfl).cell 4 _ rfl, ((unhide E3).at' 2 _ rfl).cell 0 _ rfl, ((unhide E3).at' 2 _ rfl).cell 1 _ rfl, ((unhide E3).at' 2 _ rfl).cell 2 _ rfl, ((unhide E3).at' 3 _ rfl).cell 0 _ rfl, ((unhide E3).at' 3 _ rfl).cell 1 _ rfl, ((unhide E3).at' 3 _ rfl).cell 2 _ rfl, ((unhide E3).at' 4 _ rfl).cell 0 _ rfl, ((unhide E3).at' 4 _ rfl).cell 1 _ rfl, ((unhide E3).at' 4 _ rfl).cell 2 _ rfl, ((unhide E3).at' 5 _ rfl).cell 0 _ rfl, ((unhide E3).at' 5 _ rfl).cell 1 _ rfl, ((unhide E3).at' 5 _ rfl).cell 2 _ rfl, ((unhide E3).at' 5 _ rfl).cell 3 _ rfl, ((unhide E3).at' 5 _ rfl).cell 4 _ rfl⟩
      clear hK K
      refine wpAnyH_take (i := 13) (oi := ({ dst := some 69, op := Op.unOp UnOp.not 4 (Operand.tmp 68), type := 4, pos := "laws.go:278", after := #[{ on := 12, ground := Ground.data }, { on := 6, ground := Ground.guard }], guard := some (6, false) } : Oper)) (v := ?_) rfl (by kernel_rfl) (by kernel_rfl) (by kernel_rfl) (fun _ _ _ h => h) (Or.inl ⟨by kernel_rfl, ?_⟩) (by assumption) ?_
      rotate_left
      · intro W0 hSw; (try dsimp only at hSw); go_simp <;> with_reducible rfl
      try simp only [Act.put, List.setIfInBounds_toArray, List.set_cons_zero, List.set_cons_succ]
      refine wpAnyH_take (i := 14) (oi := ({ dst := some 70, op := Op.pick (Operand.tmp 62) (Operand.const (Value.bool true)) (Operand.tmp 69), type := 4, pos := "laws.go:278", after := #[{ on := 6, ground := Ground.data }, { on := 13, ground := Ground.data }], guard := none } : Oper)) (v := ?_) rfl (by kernel_rfl) (by kernel_rfl) (by kernel_rfl) (fun _ _ _ h => h) (Or.inl ⟨by kernel_rfl, ?_⟩) (by assumption) ?_
      rotate_left
      · intro W0 hSw; (try dsimp only at hSw); go_simp <;> with_reducible rfl
      try simp only [Act.put, List.setIfInBounds_toArray, List.set_cons_zero, List.set_cons_succ]
      refine wpAnyH_take (i := 15) (oi := ({ dst := some 71, op := Op.move (Operand.tmp 70), type := 4, pos := "laws.go:278", after := #[{ on := 14, ground := Ground.data }, { on := 12, ground := Ground.chain }], guard := none } : Oper)) (v := ?_) rfl (by kernel_rfl) (by kernel_rfl) (by kernel_rfl) (fun _ _ _ h => h) (Or.inl ⟨by kernel_rfl, ?_⟩) (by assumption) ?_
      rotate_left
      · intro W0 hSw; (try dsimp only at hSw); go_simp <;> with_reducible rfl
      try simp only [Act.put, List.setIfInBounds_toArray, List.set_cons_zero, List.set_cons_succ]
      refine wpAnyH_take (i := 16) (oi := ({ dst := some 72, op := Op.load 40 (Operand.tmp 13), type := 40, pos := "laws.go:278", after := #[{ on := 15, ground := Ground.guard }], guard := some (15, false) } : Oper)) (v := ?_) rfl (by kernel_rfl) (by kernel_rfl) (by kernel_rfl) (fun _ _ _ h => h) (Or.inl ⟨by kernel_rfl, ?_⟩) (by assumption) ?_
      rotate_left
      · intro W0 hSw; (try dsimp only at hSw); go_simp <;> with_reducible rfl
      try simp only [Act.put, List.setIfInBounds_toArray, List.set_cons_zero, List.set_cons_succ]
      refine wpAnyH_take (i := 17) (oi := ({ dst := some 73, op := Op.move (Operand.tmp 14), type := 2, pos := "laws.go:278", after := #[{ on := 15, ground := Ground.guard }], guard := some (15, false) } : Oper)) (v := ?_) rfl (by kernel_rfl) (by kernel_rfl) (by kernel_rfl) (fun _ _ _ h => h) (Or.inl ⟨by kernel_rfl, ?_⟩) (by assumption) ?_
      rotate_left
      · intro W0 hSw; (try dsimp only at hSw); go_simp <;> with_reducible rfl
      try simp only [Act.put, List.setIfInBounds_toArray, List.set_cons_zero, List.set_cons_succ]
      refine wpAnyH_take (i := 18) (oi := ({ dst := some 74, op := Op.move (Operand.tmp 15), type := 2, pos := "laws.go:278", after := #[{ on := 15, ground := Ground.guard }], guard := some (15, false) } : Oper)) (v := ?_) rfl (by kernel_rfl) (by kernel_rfl) (by kernel_rfl) (fun _ _ _ h => h) (Or.inl ⟨by kernel_rfl, ?_⟩) (by assumption) ?_
      rotate_left
      · intro W0 hSw; (try dsimp only at hSw); go_simp <;> with_reducible rfl
      try simp only [Act.put, List.setIfInBounds_toArray, List.set_cons_zero, List.set_cons_succ]
      refine wpAnyH_take (i := 20) (oi := ({ dst := some 76, op := Op.load 40 (Operand.tmp 13), type := 40, pos := "laws.go:278", after := #[{ on := 15, ground := Ground.guard }], guard := some (15, false) } : Oper)) (v := ?_) rfl (by kernel_rfl) (by kernel_rfl) (by kernel_rfl) (fun _ _ _ h => h) (Or.inl ⟨by kernel_rfl, ?_⟩) (by assumption) ?_
      rotate_left
      · intro W0 hSw; (try dsimp only at hSw); go_simp <;> with_reducible rfl
      try simp only [Act.put, List.setIfInBounds_toArray, List.set_cons_zero, List.set_cons_succ]
      refine wpAnyH_take (i := 21) (oi := ({ dst := some 77, op := Op.move (Operand.tmp 14), type := 2, pos := "laws.go:278", after := #[{ on := 15, ground := Ground.guard }], guard := some (15, false) } : Oper)) (v := ?_) rfl (by kernel_rfl) (by kernel_rfl) (by kernel_rfl) (fun _ _ _ h => h) (Or.inl ⟨by kernel_rfl, ?_⟩) (by assumption) ?_
      rotate_left
      · intro W0 hSw; (try dsimp only at hSw); go_simp <;> with_reducible rfl
      try simp only [Act.put, List.setIfInBounds_toArray, List.set_cons_zero, List.set_cons_succ]
      refine wpAnyH_take (i := 22) (oi := ({ dst := some 78, op := Op.move (Operand.tmp 15), type := 2, pos := "laws.go:278", after := #[{ on := 15, ground := Ground.guard }], guard := some (15, false) } : Oper)) (v := ?_) rfl (by kernel_rfl) (by kernel_rfl) (by kernel_rfl) (fun _ _ _ h => h) (Or.inl ⟨by kernel_rfl, ?_⟩) (by assumption) ?_
      rotate_left
      · intro W0 hSw; (try dsimp only at hSw); go_simp <;> with_reducible rfl
      try simp only [Act.put, List.setIfInBounds_toArray, List.set_cons_zero, List.set_cons_succ]
      refine wpAnyH_ready (rs := [19]) (by kernel_rfl) (by simp) ?_
      refine (AllReadyH.cons rfl (fun K hK => ?_) AllReadyH.nil)
      go_simp
      refine (unhide cG _).mono ?_
      rintro e w4 ⟨rfl, hx⟩
      have E4 := hide ((unhide E3).below hx)
      have P4 := hide ((unhide P3).kept hx)
      clear hx E3 P3
      refine hK.out _ _ ?_ (fun hHeld4 => ?_)
      · exact ⟨((unhide E4).at' 0 _ rfl).cell 0 _ rfl, ((unhide E4).at' 0 _ rfl).cell 1 _ rfl, ((unhide E4).at' 0 _ rfl).cell 2 _ rfl, ((unhide E4).at' 1 _ rfl).cell 0 _ rfl, ((unhide E4).at' 1 _ rfl).cell 1 _ rfl, ((unhide E4).at' 1 _ rfl).cell 2 _ rfl, ((unhide E4).at' 1 _ rfl).cell 3 _ rfl, ((unhide E4).at' 1 _ rfl).cell 4 _ rfl, ((unhide E4).at' 2 _ rfl).cell 0 _ rfl, ((unhide E4).at' 2 _ rfl).cell 1 _ rfl, ((unhide E4).at' 2 _ rfl).cell 2 _ rfl, ((unhide E4).at' 3 _ rfl).cell 0 _ rfl, ((unhide E4).at' 3 _ rfl).cell 1 _ rfl, ((unhide E4).at' 3 _ rfl).cell 2 _ rfl, ((unhide E4).at' 4 _ rfl).cell 0 _ rfl, ((unhide E4).at' 4 _ rfl).cell 1 _ rfl, ((unhide E4).at' 4 _ rfl).cell 2 _ rfl, ((unhide E4).at' 5 _ rfl).cell 0 _ rfl, ((unhide E4).at' 5 _ rfl).cell 1 _ rfl, ((unhide E4).at' 5 _ rfl).cell 2 _ rfl, ((unhide E4).at' 5 _ rfl).cell 3 _ rfl, ((unhide E4).at' 5 _ rfl).cell 4 _ rfl⟩
      clear hK K
      refine wpAnyH_ready (rs := [23]) (by kernel_rfl) (by simp) ?_
      refine (AllReadyH.cons rfl (fun K hK => ?_) AllReadyH.nil)
      go_simp
      refine (unhide cGs _).mono ?_
      rintro e w5 ⟨rfl, hx⟩
      have E5 := hide ((unhide E4).below hx)
      have P5 := hide ((unhide P4).kept hx)
      clear hx E4 P4
      refine hK.out _ _ ?_ (fun hHeld5 => ?_)
      · exact ⟨((unhide E5).at' 0 _ rfl).cell 0 _ rfl, ((unhide E5).at' 0 _ rfl).cell 1 _ rfl, ((unhide E5).at' 0 _ rfl).cell 2 _ rfl, ((unhide E5).at' 1 _ rfl).cell 0 _ rfl, ((unhide E5).at' 1 _ rfl).cell 1 _ rfl, ((unhide E5).at' 1 _ rfl).cell 2 _ rfl, ((unhide E5).at' 1 _ rfl).cell 3 _ rfl, ((unhide E5).at' 1 _ rfl).cell 4 _ rfl, ((unhide E5).at' 2 _ rfl).cell 0 _ rfl, ((unhide E5).at' 2 _ rfl).cell 1 _ rfl, ((unhide E5).at' 2 _ rfl).cell 2 _ rfl, ((unhide E5).at' 3 _ rfl).cell 0 _ rfl, ((unhide E5).at' 3 _ rfl).cell 1 _ rfl, ((unhide E5).at' 3 _ rfl).cell 2 _ rfl, ((unhide E5).at' 4 _ rfl).cell 0 _ rfl, ((unhide E5).at' 4 _ rfl).cell 1 _ rfl, ((unhide E5).at' 4 _ rfl).cell 2 _ rfl, ((unhide E5).at' 5 _ rfl).cell 0 _ rfl, ((unhide E5).at' 5 _ rfl).cell 1 _ rfl, ((unhide E5).at' 5 _ rfl).cell 2 _ rfl, ((unhide E5).at' 5 _ rfl).cell 3 _ rfl, ((unhide E5).at' 5 _ rfl).cell 4 _ rfl⟩
      clear hK K
      refine wpAnyH_take (i := 24) (oi := ({ dst := some 80, op := Op.binOp BinOp.neq 4 (Operand.tmp 75) (Operand.tmp 79) 4, type := 4, pos := "laws.go:278", after := #[{ on := 19, ground := Ground.data }, { on := 23, ground := Ground.data }, { on := 15, ground := Ground.guard }], guard := some (15, false) } : Oper)) (v := ?_) rfl (by kernel_rfl) (by kernel_rfl) (by kernel_rfl) (fun _ _ _ h => h) (Or.inl ⟨by kernel_rfl, ?_⟩) (by assumption) ?_
      rotate_left
      · intro W0 hSw; (try dsimp only at hSw); go_simp <;> with_reducible rfl
      try simp only [Act.put, List.setIfInBounds_toArray, List.set_cons_zero, List.set_cons_succ]
      refine wpAnyH_take (i := 25) (oi := ({ dst := some 81, op := Op.pick (Operand.tmp 71) (Operand.const (Value.bool true)) (Operand.tmp 80), type := 4, pos := "laws.go:278", after := #[{ on := 15, ground := Ground.data }, { on := 24, ground := Ground.data }], guard := none } : Oper)) (v := ?_) rfl (by kernel_rfl) (by kernel_rfl) (by kernel_rfl) (fun _ _ _ h => h) (Or.inl ⟨by kernel_rfl, ?_⟩) (by assumption) ?_
      rotate_left
      · intro W0 hSw; (try dsimp only at hSw); go_simp <;> with_reducible rfl
      try simp only [Act.put, List.setIfInBounds_toArray, List.set_cons_zero, List.set_cons_succ]
      refine wpAnyH_take (i := 26) (oi := ({ dst := some 82, op := Op.move (Operand.tmp 81), type := 4, pos := "laws.go:278", after := #[{ on := 25, ground := Ground.data }, { on := 23, ground := Ground.chain }], guard := none } : Oper)) (v := ?_) rfl (by kernel_rfl) (by kernel_rfl) (by kernel_rfl) (fun _ _ _ h => h) (Or.inl ⟨by kernel_rfl, ?_⟩) (by assumption) ?_
      rotate_left
      · intro W0 hSw; (try dsimp only at hSw); go_simp <;> with_reducible rfl
      try simp only [Act.put, List.setIfInBounds_toArray, List.set_cons_zero, List.set_cons_succ]
      refine wpAnyH_take (i := 27) (oi := ({ dst := some 83, op := Op.load 46 (Operand.tmp 8), type := 46, pos := "laws.go:278", after := #[{ on := 26, ground := Ground.guard }], guard := some (26, false) } : Oper)) (v := ?_) rfl (by kernel_rfl) (by kernel_rfl) (by kernel_rfl) (fun _ _ _ h => h) (Or.inl ⟨by kernel_rfl, ?_⟩) (by assumption) ?_
      rotate_left
      · intro W0 hSw; (try dsimp only at hSw); go_simp <;> with_reducible rfl
      try simp only [Act.put, List.setIfInBounds_toArray, List.set_cons_zero, List.set_cons_succ]
      refine wpAnyH_take (i := 28) (oi := ({ dst := some 84, op := Op.load 46 (Operand.tmp 16), type := 46, pos := "laws.go:278", after := #[{ on := 26, ground := Ground.guard }], guard := some (26, false) } : Oper)) (v := ?_) rfl (by kernel_rfl) (by kernel_rfl) (by kernel_rfl) (fun _ _ _ h => h) (Or.inl ⟨by kernel_rfl, ?_⟩) (by assumption) ?_
      rotate_left
      · intro W0 hSw; (try dsimp only at hSw); go_simp <;> with_reducible rfl
      try simp only [Act.put, List.setIfInBounds_toArray, List.set_cons_zero, List.set_cons_succ]
      refine wpAnyH_take (i := 29) (oi := ({ dst := some 85, op := Op.binOp BinOp.neq 46 (Operand.tmp 83) (Operand.tmp 84) 46, type := 4, pos := "laws.go:278", after := #[{ on := 27, ground := Ground.data }, { on := 28, ground := Ground.data }, { on := 26, ground := Ground.guard }], guard := some (26, false) } : Oper)) (v := ?_) rfl (by kernel_rfl) (by kernel_rfl) (by kernel_rfl) (fun _ _ _ h => h) (Or.inl ⟨by kernel_rfl, ?_⟩) (by assumption) ?_
      rotate_left
      · intro W0 hSw; (try dsimp only at hSw); go_simp <;> with_reducible rfl
      try simp only [Act.put, List.setIfInBounds_toArray, List.set_cons_zero, List.set_cons_succ]
      refine wpAnyH_take (i := 30) (oi := ({ dst := some 86, op := Op.move (Operand.tmp 85), type := 4, pos := "laws.go:278", after := #[{ on := 29, ground := Ground.data }, { on := 26, ground := Ground.chain }, { on := 26, ground := Ground.guard }], guard := some (26, false) } : Oper)) (v := ?_) rfl (by kernel_rfl) (by kernel_rfl) (by kernel_rfl) (fun _ _ _ h => h) (Or.inl ⟨by kernel_rfl, ?_⟩) (by assumption) ?_
      rotate_left
      · intro W0 hSw; (try dsimp only at hSw); go_simp <;> with_reducible rfl
      try simp only [Act.put, List.setIfInBounds_toArray, List.set_cons_zero, List.set_cons_succ]
      refine wpAnyH_take (i := 31) (oi := ({ dst := some 87, op := Op.fieldAddr 46 (Operand.tmp 8) 2, type := 0, pos := "laws.go:278", after := #[{ on := 30, ground := Ground.guard }], guard := some (30, true) } : Oper)) (v := ?_) rfl (by kernel_rfl) (by kernel_rfl) (by kernel_rfl) (fun _ _ _ h => h) (Or.inl ⟨by kernel_rfl, ?_⟩) (by assumption) ?_
      rotate_left
      · intro W0 hSw; (try dsimp only at hSw); go_simp <;> with_reducible rfl
      try simp only [Act.put, List.setIfInBounds_toArray, List.set_cons_zero, List.set_cons_succ]
      refine wpAnyH_take (i := 32) (oi := ({ dst := some 88, op := Op.load 2 (Operand.tmp 87), type := 2, pos := "laws.go:278", after := #[{ on := 31, ground := Ground.data }, { on := 30, ground := Ground.guard }], guard := some (30, true) } : Oper)) (v := ?_) rfl (by kernel_rfl) (by kernel_rfl) (by kernel_rfl) (fun _ _ _ h => h) (Or.inl ⟨by kernel_rfl, ?_⟩) (by assumption) ?_
      rotate_left
      · intro W0 hSw; (try dsimp only at hSw); go_simp <;> with_reducible rfl
      try simp only [Act.put, List.setIfInBounds_toArray, List.set_cons_zero, List.set_cons_succ]
      refine wpAnyH_take (i := 33) (oi := ({ dst := some 89, op := Op.binOp BinOp.leq 2 (Operand.tmp 88) (Operand.const (Value.int IntKind.i64 0)) 2, type := 4, pos := "laws.go:278", after := #[{ on := 32, ground := Ground.data }, { on := 30, ground := Ground.guard }], guard := some (30, true) } : Oper)) (v := .bool false) rfl (by kernel_rfl) (by kernel_rfl) (by kernel_rfl) (fun _ _ _ h => h) (Or.inl ⟨by kernel_rfl, ?_⟩) (by assumption) ?_
      · intro W0 hSw; (try dsimp only at hSw); go_simp <;> first | with_reducible rfl | omega | simp [hz'] | simp; omega
      try simp only [Act.put, List.setIfInBounds_toArray, List.set_cons_zero, List.set_cons_succ]
      refine wpAnyH_take (i := 34) (oi := ({ dst := some 90, op := Op.move (Operand.tmp 89), type := 4, pos := "laws.go:278", after := #[{ on := 33, ground := Ground.data }, { on := 30, ground := Ground.chain }, { on := 30, ground := Ground.guard }], guard := some (30, true) } : Oper)) (v := ?_) rfl (by kernel_rfl) (by kernel_rfl) (by kernel_rfl) (fun _ _ _ h => h) (Or.inl ⟨by kernel_rfl, ?_⟩) (by assumption) ?_
      rotate_left
      · intro W0 hSw; (try dsimp only at hSw); go_simp <;> with_reducible rfl
      try simp only [Act.put, List.setIfInBounds_toArray, List.set_cons_zero, List.set_cons_succ]
      refine wpAnyH_take (i := 35) (oi := ({ dst := some 91, op := Op.load 46 (Operand.tmp 8), type := 46, pos := "laws.go:278", after := #[{ on := 34, ground := Ground.guard }], guard := some (34, false) } : Oper)) (v := ?_) rfl (by kernel_rfl) (by kernel_rfl) (by kernel_rfl) (fun _ _ _ h => h) (Or.inl ⟨by kernel_rfl, ?_⟩) (by assumption) ?_
      rotate_left
      · intro W0 hSw; (try dsimp only at hSw); go_simp <;> with_reducible rfl
      try simp only [Act.put, List.setIfInBounds_toArray, List.set_cons_zero, List.set_cons_succ]
      refine wpAnyH_take (i := 37) (oi := ({ dst := some 93, op := Op.load 46 (Operand.tmp 8), type := 46, pos := "laws.go:278", after := #[{ on := 34, ground := Ground.guard }], guard := some (34, false) } : Oper)) (v := ?_) rfl (by kernel_rfl) (by kernel_rfl) (by kernel_rfl) (fun _ _ _ h => h) (Or.inl ⟨by kernel_rfl, ?_⟩) (by assumption) ?_
      rotate_left
      · intro W0 hSw; (try dsimp only at hSw); go_simp <;> with_reducible rfl
      try simp only [Act.put, List.setIfInBounds_toArray, List.set_cons_zero, List.set_cons_succ]
      refine wpAnyH_ready (rs := [36]) (by kernel_rfl) (by simp) ?_
      refine (AllReadyH.cons rfl (fun K hK => ?_) AllReadyH.nil)
      go_simp
      refine (unhide cP _).mono ?_
      rintro e w6 ⟨rfl, hx⟩
      have E6 := hide ((unhide E5).below hx)
      have P6 := hide ((unhide P5).kept hx)
      clear hx E5 P5
      refine hK.out _ _ ?_ (fun hHeld6 => ?_)
      · exact ⟨((unhide E6).at' 0 _ rfl).cell 0 _ rfl, ((unhide E6).at' 0 _ rfl).cell 1 _ rfl, ((unhide E6).at' 0 _ rfl).cell 2 _ rfl, ((unhide E6).at' 1 _ rfl).cell 0 _ rfl, ((unhide E6).at' 1 _ rfl).cell 1 _ rfl, ((unhide E6).at' 1 _ rfl).cell 2 _ rfl, ((unhide E6).at' 1 _ rfl).cell 3 _ rfl, ((unhide E6).at' 1 _ rfl).cell 4 _ rfl, ((unhide E6).at' 2 _ rfl).cell 0 _ rfl, ((unhide E6).at' 2 _ rfl).cell 1 _ rfl, ((unhide E6).at' 2 _ rfl).cell 2 _ rfl, ((unhide E6).at' 3 _ rfl).cell 0 _ rfl, ((unhide E6).at' 3 _ rfl).cell 1 _ rfl, ((unhide E6).at' 3 _ rfl).cell 2 _ rfl, ((unhide E6).at' 4 _ rfl).cell 0 _ rfl, ((unhide E6).at' 4 _ rfl).cell 1 _ rfl, ((unhide E6).at' 4 _ rfl).cell 2 _ rfl, ((unhide E6).at' 5 _ rfl).cell 0 _ rfl, ((unhide E6).at' 5 _ rfl).cell 1 _ rfl, ((unhide E6).at' 5 _ rfl).cell 2 _ rfl, ((unhide E6).at' 5 _ rfl).cell 3 _ rfl, ((unhide E6).at' 5 _ rfl).cell 4 _ rfl⟩
      clear hK K
      refine wpAnyH_take (i := 38) (oi := ({ dst := some 94, op := Op.binOp BinOp.neq 46 (Operand.tmp 92) (Operand.tmp 93) 46, type := 4, pos := "laws.go:278", after := #[{ on := 36, ground := Ground.data }, { on := 37, ground := Ground.data }, { on := 34, ground := Ground.guard }], guard := some (34, false) } : Oper)) (v := ?_) rfl (by kernel_rfl) (by kernel_rfl) (by kernel_rfl) (fun _ _ _ h => h) (Or.inl ⟨by kernel_rfl, ?_⟩) (by assumption) ?_
      rotate_left
      · intro W0 hSw; (try dsimp only at hSw); go_simp <;> with_reducible rfl
      try simp only [Act.put, List.setIfInBounds_toArray, List.set_cons_zero, List.set_cons_succ]
      refine wpAnyH_take (i := 39) (oi := ({ dst := some 95, op := Op.pick (Operand.tmp 90) (Operand.const (Value.bool true)) (Operand.tmp 94), type := 4, pos := "laws.go:278", after := #[{ on := 34, ground := Ground.data }, { on := 38, ground := Ground.data }, { on := 30, ground := Ground.guard }], guard := some (30, true) } : Oper)) (v := ?_) rfl (by kernel_rfl) (by kernel_rfl) (by kernel_rfl) (fun _ _ _ h => h) (Or.inl ⟨by kernel_rfl, ?_⟩) (by assumption) ?_
      rotate_left
      · intro W0 hSw; (try dsimp only at hSw); go_simp <;> with_reducible rfl
      try simp only [Act.put, List.setIfInBounds_toArray, List.set_cons_zero, List.set_cons_succ]
      refine wpAnyH_take (i := 40) (oi := ({ dst := some 96, op := Op.pick (Operand.tmp 86) (Operand.tmp 95) (Operand.const (Value.bool false)), type := 4, pos := "laws.go:278", after := #[{ on := 30, ground := Ground.data }, { on := 39, ground := Ground.data }, { on := 26, ground := Ground.guard }], guard := some (26, false) } : Oper)) (v := ?_) rfl (by kernel_rfl) (by kernel_rfl) (by kernel_rfl) (fun _ _ _ h => h) (Or.inl ⟨by kernel_rfl, ?_⟩) (by assumption) ?_
      rotate_left
      · intro W0 hSw; (try dsimp only at hSw); go_simp <;> with_reducible rfl
      try simp only [Act.put, List.setIfInBounds_toArray, List.set_cons_zero, List.set_cons_succ]
      refine wpAnyH_take (i := 41) (oi := ({ dst := some 97, op := Op.pick (Operand.tmp 82) (Operand.const (Value.bool true)) (Operand.tmp 96), type := 4, pos := "laws.go:278", after := #[{ on := 26, ground := Ground.data }, { on := 40, ground := Ground.data }], guard := none } : Oper)) (v := ?_) rfl (by kernel_rfl) (by kernel_rfl) (by kernel_rfl) (fun _ _ _ h => h) (Or.inl ⟨by kernel_rfl, ?_⟩) (by assumption) ?_
      rotate_left
      · intro W0 hSw; (try dsimp only at hSw); go_simp <;> with_reducible rfl
      try simp only [Act.put, List.setIfInBounds_toArray, List.set_cons_zero, List.set_cons_succ]
      refine wpAnyH_done (by kernel_rfl) ?_ _
      go_wp2_with fail
      go_meet
      exact ⟨rfl, hide ((unhide E6).pick (by intro x hx; simp only [List.mem_cons, List.not_mem_nil, or_false] at hx; subst hx; simp)), hide ⟨_, _, unhide P6⟩⟩
  case rest =>
  obtain ⟨rfl, HE, HP⟩ := hcut
  clear E8 P8 HPR cV cVs cS cG cGs
  have g0 := ((unhide HE).at' 0 _ rfl).cell 0 _ rfl
  have g1 := ((unhide HE).at' 0 _ rfl).cell 1 _ rfl
  have g2 := ((unhide HE).at' 0 _ rfl).cell 2 _ rfl
  go_wp2_with fail
  clear g0 g1 g2
  refine (unhide cB _).mono ?_
  rintro e W10 ⟨⟨v10, rfl, ho⟩, hx⟩
  obtain ⟨an, cn, rfl⟩ := own_slice ho
  obtain ⟨lo, hi, hP⟩ := unhide HP
  have E10 := hide ((unhide HE).below hx)
  have V10 := hide ((vcAt_of hP (unhide HRL)).kept hx)
  have S10 : Hid (BlAt W10 an S) := hide (fun k b hk => by
    obtain ⟨g, e1, _, e2, e3⟩ := blob_cells ho rfl k b hk
    exact ⟨g, e1, e2, e3⟩)
  generalize hSl : S.length = n at *
  have HSL := hide hSl
  clear hx HE HP hP ho cB hSl
  have hfd : ∀ W : World, (Instr.field 29 (.agg #[.slice an n cn, .int .i64 code]) 0).run Try.prog W = .ok (.slice an n cn) W := fun W => by kernel_rfl
  go_wp2_with fail
  go_loopw [18, 19, 20] (fun i _ _ wr => ∃ k : Nat, k ≤ m ∧ i = .int .i64 k ∧ Hid (Db w wr [(gb, [.int .i64 wd2, .int .i64 ht2, .string s2], 24)]) ∧ Hid (VcAt wr a7 R) ∧ Hid (BlAt wr an S)) (fun i _ _ _ => m - (intOf i).toNat)
  case atStart => exact ⟨0, by omega, rfl, E10, V10, S10⟩
  case round =>
    clear E10 V10 S10
    obtain ⟨i, hi, rfl, HE, HV, HS⟩ := hrel
    by_cases him : i < m
    · have him2 : (i : Int) < (m : Int) := by omega
      obtain ⟨v, hv⟩ : ∃ v, R[i]? = some v := ⟨_, List.getElem?_eq_getElem (by rw [unhide HRL]; exact him)⟩
      have HF := hide (unhide HSE i v hv)
      have HVi := hide hv
      clear hv
      go_wp2_with fail
      go_loopw [19, 20] (fun f i wr => ∃ j : Nat, j ≤ n ∧ i = .int .i64 j ∧ f = .bool (seenP wd2 ht2 s2 fo2 S v j) ∧ Hid (Db w wr [(gb, [.int .i64 wd2, .int .i64 ht2, .string s2], 24)]) ∧ Hid (VcAt wr a7 R) ∧ Hid (BlAt wr an S)) (fun _ i _ => n - (intOf i).toNat)
      case atStart => exact ⟨0, by omega, rfl, by rw [seenP_zero], HE, HV, HS⟩
      case round =>
        clear HE HV HS
        obtain ⟨j, hj, rfl, rfl, HE, HV, HS⟩ := hrel
        by_cases hjn : j < n
        · have hjn2 : (j : Int) < (n : Int) := by omega
          obtain ⟨b, hb⟩ : ∃ b, S[j]? = some b := ⟨_, List.getElem?_eq_getElem (by rw [unhide HSL]; exact hjn)⟩
          have HST := hide (seenP_step wd2 ht2 s2 fo2 S v j b hb)
          obtain ⟨g, hg, _, c0, c1, c2, c3, c4⟩ := unhide HS j b hb
          obtain ⟨g', hg', _, d0, d1, d2⟩ := unhide HV i v (unhide HVi)
          subst hg hg'
          have q0 := cell_regrown (((unhide HE).at' 0 _ rfl).cell 0 _ rfl)
          have q1 := cell_regrown (((unhide HE).at' 0 _ rfl).cell 1 _ rfl)
          have q2 := cell_regrown (((unhide HE).at' 0 _ rfl).cell 2 _ rfl)
          have cGd := hide (fun W => specBlobGood_any b.ar b.su b.sx b.sy b.ed 1 20 W)
          have cSp := hide (fun W => spotOf_any b.ar b.su b.sx b.sy b.ed wd2 ht2 s2 fo2 W)
          rw [spT_v] at cSp
          unfold vecG at cSp
          generalize seenP wd2 ht2 s2 fo2 S v j = sn at *
          generalize goodB b.ar b.ed 1 20 = gd2 at *
          generalize spT wd2 ht2 s2 fo2 b = tt at *
          obtain ⟨p, q, r⟩ := tt
          obtain ⟨v0, v1, v2⟩ := v
          simp only at d0 d1 d2 cSp HST
          have heq := fun W => eql_vec p q r v0 v1 v2 W
          generalize eqB p q r v0 v1 v2 = eqv at *
          obtain ⟨bar, bsu, bsx, bsy, bed⟩ := b
          simp only at c0 c1 c2 c3 c4 cGd cSp
          have r0 := cell_regrown c0
          have r1 := cell_regrown c1
          have r2 := cell_regrown c2
          have r3 := cell_regrown c3
          have r4 := cell_regrown c4
          have t0 := cell_regrown d0
          have t1 := cell_regrown d1
          have t2 := cell_regrown d2
          clear c0 c1 c2 c3 c4 d0 d1 d2 hb
          cases sn
          · cases gd2
            · go_wp2_with fail
              refine wp_region_quiet_below (by kernel_rfl) (by kernel_rfl) ?_
              repeat (go_big_quiet_step (first | (with_reducible exact Calls.regrown_of (unhide cGd _)) | (with_reducible exact Calls.regrown_of (unhide cSp _))))
              refine wpQuiet_nil ?_
              intro _ hw'
              obtain ⟨⟨dq, osq⟩, hw''⟩ := hw'
              subst hw''
              have hx := below_regrown wr dq osq
              have HEb := hide ((unhide HE).below hx)
              have HVb := hide ((unhide HV).kept hx)
              have HSb := hide ((unhide HS).kept hx)
              generalize grow (redrawn wr dq) osq = W4 at hx HEb HVb HSb ⊢
              clear hx cGd cSp r0 r1 r2 r3 r4 t0 t1 t2 q0 q1 q2 heq HE HV HS
              go_wp2_with fail
              go_roundw
              case rel => exact ⟨j + 1, by omega, by go_num, by rw [unhide HST]; simp, HEb, HVb, HSb⟩
              case measure => simp [intOf]; omega
            · go_wp2_with fail
              refine wp_region_quiet_below (by kernel_rfl) (by kernel_rfl) ?_
              repeat (go_big_quiet_step (first | (with_reducible exact Calls.regrown_of (unhide cGd _)) | (with_reducible exact Calls.regrown_of (unhide cSp _))))
              refine wpQuiet_nil ?_
              intro _ hw'
              obtain ⟨⟨dq, osq⟩, hw''⟩ := hw'
              subst hw''
              have hx := below_regrown wr dq osq
              have HEb := hide ((unhide HE).below hx)
              have HVb := hide ((unhide HV).kept hx)
              have HSb := hide ((unhide HS).kept hx)
              generalize grow (redrawn wr dq) osq = W4 at hx HEb HVb HSb ⊢
              clear hx cGd cSp r0 r1 r2 r3 r4 t0 t1 t2 q0 q1 q2 heq HE HV HS
              go_wp2_with fail
              go_roundw
              case rel => exact ⟨j + 1, by omega, by go_num, by rw [unhide HST]; simp, HEb, HVb, HSb⟩
              case measure => simp [intOf]; omega
          · go_wp2_with fail
            refine wp_region_quiet_below (by kernel_rfl) (by kernel_rfl) ?_
            repeat (go_big_quiet_step (first | (with_reducible exact Calls.regrown_of (unhide cGd _)) | (with_reducible exact Calls.regrown_of (unhide cSp _))))
            refine wpQuiet_nil ?_
            intro _ hw'
            obtain ⟨⟨dq, osq⟩, hw''⟩ := hw'
            subst hw''
            have hx := below_regrown wr dq osq
            have HEb := hide ((unhide HE).below hx)
            have HVb := hide ((unhide HV).kept hx)
            have HSb := hide ((unhide HS).kept hx)
            generalize grow (redrawn wr dq) osq = W4 at hx HEb HVb HSb ⊢
            clear hx cGd cSp r0 r1 r2 r3 r4 t0 t1 t2 q0 q1 q2 heq HE HV HS
            go_wp2_with fail
            go_roundw
            case rel => exact ⟨j + 1, by omega, by go_num, by rw [unhide HST]; simp, HEb, HVb, HSb⟩
            case measure => simp [intOf]; omega
        · have hjn' : j = n := by omega
          subst hjn'
          have hF := unhide HF
          rw [hF]
          go_wp2_with fail
          go_roundw
          case rel => exact ⟨i + 1, by omega, by go_num, HE, HV, HS⟩
          case measure => simp [intOf]; omega
    · have him' : i = m := by omega
      subst him'
      go_wp2_with fail
      go_ret
      exact ⟨rfl, (unhide HE).bel⟩
end Go.Proofs.Ytmacbegchdjdnaa
