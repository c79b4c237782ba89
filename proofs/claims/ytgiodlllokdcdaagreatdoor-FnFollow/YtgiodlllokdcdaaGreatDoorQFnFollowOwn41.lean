/- Several texts in one: SceA. -/
import Derived.Test.YtgiodlllokdcdaaGreatDoorQFnFollowOwn10
import Derived.Test.YtgiodlllokdcdaaGreatDoorQFnFollowOwn40
import Derived.Test.YtgiodlllokdcdaaGreatDoorQFnFollowOwn16
import Derived.Test.YtgiodlllokdcdaaGreatDoorQFnFollowOwn2
import Derived.Test.YtgiodlllokdcdaaGreatDoorQFnFollowOwn6
import Derived.Test.YtgiodlllokdcdaaGreatDoorQFnFollowOwn1
namespace Go.Proofs.YtgiodlllokdcdaaGreatDoor
set_option linter.unusedVariables false
set_option linter.unusedSimpArgs false
set_option maxRecDepth 100000
set_option maxHeartbeats 8000000
section
open Go.RowKit Go.Sort
theorem rP {w : World} {B B' m m' n n' : Nat} {t t' : TypeId} {v v' : Value} {xs xs' : List Value} (h : w.ownsRow B t m v n xs) (h' : w.ownsRow B' t' m' v' n' xs') (ht : t ≠ t') : v.ownBlock = none ∨ v.ownBlock ≠ v'.ownBlock := by
 rcases h.2 with ⟨rfl, _⟩ | ⟨g, cap, cur, rfl, _, hg, _⟩
 ·exact .inl rfl
 ·refine .inr (fun e => ?_)
  rcases h'.2 with ⟨rfl, _⟩ | ⟨g', cap', cur', rfl, _, hg', _⟩
  ·cases e
  ·obtain rfl : g = g' := Option.some.inj e
   rw [hg] at hg'
   injection hg' with e1
   injection e1 with _ e2
   exact ht e2
structure jy (w wr : World) (S : List D3) (a : Option Addr) (cap : Nat) (I : List Int) (a2 : Option Addr) (cap2 : Nat) : Prop where
 row : wr.ownsRow w.heap.size 78 3 (.slice a S.length cap) S.length (flL S)
 few : wr.ownsRow w.heap.size 2 1 (.slice a2 I.length cap2) I.length (dG I)
 bel : Below w.heap.size w wr
theorem jy.below {w wr w2 : World} {S : List D3} {a a2 : Option Addr} {cap cap2 : Nat} {I : List Int} (h : jy w wr S a cap I a2 cap2) (hx : Below wr.heap.size wr w2) : jy w w2 S a cap I a2 cap2 :=
 ⟨ee h.row hx, ee h.few hx, aj h.bel hx⟩
theorem jy.app {w wr w2 : World} {S : List D3} {a a2 : Option Addr} {cap cap2 : Nat} {I : List Int} {v : D3} {v' : Value} (h : jy w wr S a cap I a2 cap2) (hg : wr.grownBy w2 (Value.slice a S.length cap).ownBlock) (hr : w2.ownsRow w.heap.size 78 3 v' (S.length + 1) (flL S ++ vcL v)) : ∃ a3 cap3, v' = .slice a3 (S.length + 1) cap3 ∧ jy w w2 (S ++ [v]) a3 cap3 I a2 cap2 := by
 obtain ⟨a3, c3, rfl, _⟩ := gl hr
 refine ⟨a3, c3, rfl, ?_, World.ownsRow.kept h.few hg (rP h.few h.row (by decide)), lx h.bel h.bel.size h.row hg⟩
 rw [← lh] at hr
 rw [show (S ++ [v]).length = S.length + 1 by simp]
 exact hr
theorem jy.add {w wr w2 : World} {S : List D3} {a a2 : Option Addr} {cap cap2 : Nat} {I : List Int} {x : Int} {v' : Value} (h : jy w wr S a cap I a2 cap2) (hg : wr.grownBy w2 (Value.slice a2 I.length cap2).ownBlock) (hr : w2.ownsRow w.heap.size 2 1 v' (I.length + 1) (dG I ++ [.int .i64 x])) : ∃ a3 cap3, v' = .slice a3 (I.length + 1) cap3 ∧ jy w w2 S a cap (I ++ [x]) a3 cap3 := by
 obtain ⟨a3, c3, rfl, _⟩ := gl hr
 refine ⟨a3, c3, rfl, World.ownsRow.kept h.row hg (rP h.row h.few (by decide)), ?_, lx h.bel h.bel.size h.few hg⟩
 rw [show (I ++ [x]).length = I.length + 1 by simp, show dG (I ++ [x]) = dG I ++ [.int .i64 x] by simp [dG]]
 exact hr
theorem uk {w : World} {B : Nat} {a : Option Addr} {c : Nat} {xs : List Int} (h : w.ownsRow B 2 1 (.slice a xs.length c) xs.length (mD xs)) {k : Nat} (hk : k < xs.length) : ∃ g, a = some ⟨g, 0, none⟩ ∧ g < w.heap.size ∧ w.cell? ⟨g, k, none⟩ = some (.int .i64 (xs.getD k 0)) := by
 rcases h.2 with ⟨_, h0⟩ | ⟨g, cap, cur, e, hb, hg, h1, h2, h3, h4⟩
 ·omega
 ·injection e with e1 e2 e3
  subst e1 e3
  refine ⟨g, rfl, (Array.getElem?_eq_some_iff.1 hg).1, ?_⟩
  rw [World.ownsRow.cellAt h k (by omega)]
  unfold mD
  rw [List.getElem?_map, List.getElem?_eq_getElem hk, List.getD_eq_getElem?_getD, List.getElem?_eq_getElem hk]
  rfl
theorem vf (L : List St) (a b c d cone : Int) : (fR L a b c d cone).length ≤ 12 := by
 unfold fR
 split
 ·rename_i h
  rw [Bool.and_eq_true, Bool.and_eq_true] at h
  have := mb L a b c d cone L.length
  have := (bD h.1.1).1
  omega
 ·simp
theorem sJ {w : World} {g : Nat} {x : Int} (h : Blk w g [.int .i64 x] 2) (j : Nat) (u : Value) (hj : ([.int .i64 x] : List Value)[j]? = some u) : w.cell? ((⟨g, 0, none⟩ : Addr).add j) = some u := by
 have e : (⟨g, 0, none⟩ : Addr).add j = ⟨g, j, none⟩ := by cases j <;> simp [Addr.add]
 rw [e]
 exact h.cell j u hj
theorem uY (L : List St) (a b c d cone : Int) (k : Nat) (X : List Int) (hX : fR L a b c d cone = X) (hk : k < X.length) (h6 : k < 6) : X.take (k + 1) = X.take k ++ [X.getD k 0] ∧ (X.take (k + 1)).map (scV L a b c d) = (X.take k).map (scV L a b c d) ++ [scV L a b c d (X.getD k 0)] := by
 have e : X.take (k + 1) = X.take k ++ [X.getD k 0] := by
  rw [List.take_add_one, List.getD_eq_getElem?_getD, List.getElem?_eq_getElem hk]
  rfl
 exact ⟨e, by rw [e, List.map_append]; rfl⟩
theorem pL (L : List St) (A B C D cone : Int) (sa : Option Addr) (sc : Nat) (w : World) (hn : L.length ≤ 1048576) (hL : aI w sa L L.length) :
  Calls Tryz.prog 22 #[.slice sa L.length sc, .agg #[.int .i64 A, .int .i64 B, .int .i64 C, .int .i64 D], .int .i64 cone] w fun e w' => ∃ (a a2 : Option Addr) (cap cap2 : Nat), e = .returned (.tuple #[.slice a (scI L A B C D cone).length cap, .slice a2 (scI L A B C D cone).length cap2]) ∧ w'.ownsRow w.heap.size 78 3 (.slice a (scS L A B C D cone).length cap) (scS L A B C D cone).length (flL (scS L A B C D cone)) ∧ w'.ownsRow w.heap.size 2 1 (.slice a2 (scI L A B C D cone).length cap2) (scI L A B C D cone).length (dG (scI L A B C D cone)) ∧ Below w.heap.size w w' := by
 obtain ⟨i0, hinf, hz0, hz1, hz2⟩ := info_parts nr
 obtain ⟨j0, jinf, jz0, jz1, jz2⟩ := info_parts fK
 have hm8 : 400 ≤ maxLen := by decide +kernel
 have Z := an w (.cells #[.int .i64 A, .int .i64 B, .int .i64 C, .int .i64 D] 25)
 have HX := yz (aF w [.int .i64 A, .int .i64 B, .int .i64 C, .int .i64 D] 25)
 have cS := yz (oO L A B C D cone sa sc (w.alloc (.cells #[.int .i64 A, .int .i64 B, .int .i64 C, .int .i64 D] 25)) hn (hL.kept Z))
 have HL := yz (hL.kept Z)
 have HB := yz Z
 clear Z hL
 go_enter Tryz.func22, Tryz.ntmps22
 go_upto_region 1 with fail
 generalize w.alloc (.cells #[.int .i64 A, .int .i64 B, .int .i64 C, .int .i64 D] 25) = W0 at *
 obtain ⟨d0, d1, d2, d3⟩ := uE (yy HX)
 go_wp2_with fail
 refine (yy cS).mono ?_
 rintro e W1 ⟨v, rfl, hown, hx⟩
 have HX1 := yz ((yy HX).kept hx)
 have HL1 := yz ((yy HL).kept hx)
 have HB1 := yz (aj (yy HB) hx)
 clear hx HX HL HB cS d0 d1 d2 d3
 obtain ⟨X, hX⟩ : ∃ X, fR L A B C D cone = X := ⟨_, rfl⟩
 rw [hX] at hown
 have HXE := yz hX
 have h12 : X.length ≤ 12 := by rw [← hX]; exact vf L A B C D cone
 clear hX
 obtain ⟨xa, xc, rfl, hxc⟩ := gl hown
 have HXR : Hid (∀ k, k < X.length → ∃ g, xa = some ⟨g, 0, none⟩ ∧ g < W1.heap.size ∧ W1.cell? ⟨g, k, none⟩ = some (.int .i64 (X.getD k 0))) := yz (fun k hk => uk hown hk)
 clear hown
 have HST0 : Hid (jy W1 ((W1.alloc (.cells #[] 78)).alloc (.cells #[] 2)) [] (some ⟨W1.heap.size, 0, none⟩) 0 [] (some ⟨W1.heap.size + 1, 0, none⟩) 0) := yz ⟨ee (World.ownsRow_lit W1 #[] 0 (Nat.le_refl _) (by simp [maxLen]) rfl) (an _ _), by have h := World.ownsRow_lit (base := W1.heap.size) (e := 2) (size := 1) (W1.alloc (.cells #[] 78)) #[] 0 (by simp) (by simp [maxLen]) rfl; simpa [dG] using h, aM W1 _ _⟩
 go_upto_region 4 with fail
 generalize (W1.alloc (.cells #[] 78)).alloc (.cells #[] 2) = W2 at *
 go_wp2_with fail
 go_loopw [9, 10, 11] (fun lv fv iv wr => ∃ (k : Nat) (S : List D3) (I : List Int) (a a2 : Option Addr) (cap cap2 : Nat), iv = .int .i64 k ∧ lv = .slice a S.length cap ∧ fv = .slice a2 I.length cap2 ∧ k ≤ 6 ∧ k ≤ X.length ∧ S.length ≤ 6 ∧ I.length ≤ 6 ∧ Hid (I = X.take k ∧ S = I.map (scV L A B C D)) ∧ Hid (jy W1 wr S a cap I a2 cap2)) (fun _ _ iv _ => 7 - (intOf iv).toNat)
 case atStart => exact ⟨0, [], [], _, _, 0, 0, rfl, rfl, rfl, by omega, by omega, by decide, by decide, yz ⟨rfl, rfl⟩, HST0⟩
 case round =>
  clear HST0
  obtain ⟨k, S, I, a, a2, cap, cap2, rfl, rfl, rfl, hk6, hkX, hs6, hi6, HE, HS⟩ := hrel
  by_cases hb : k < X.length ∧ k < 6
  ·obtain ⟨hk, h6⟩ := hb
   have hk' : (k : Int) < (X.length : Int) := by omega
   have h6' : (k : Int) < 6 := by omega
   obtain ⟨g, rfl, hgl, hgc⟩ := yy HXR k hk
   have hwl : w.heap.size < W1.heap.size := (yy HX1).lt
   have HKS : Hid (∀ w' : World, Below W1.heap.size W1 w' → (w'.cell? ⟨w.heap.size, 0, none⟩ = some (.int .i64 A) ∧ w'.cell? ⟨w.heap.size, 1, none⟩ = some (.int .i64 B) ∧ w'.cell? ⟨w.heap.size, 2, none⟩ = some (.int .i64 C) ∧ w'.cell? ⟨w.heap.size, 3, none⟩ = some (.int .i64 D)) ∧ w'.cell? ⟨g, k, none⟩ = some (.int .i64 (X.getD k 0))) := yz (fun w' h => ⟨⟨by rw [h.cell hwl]; exact (yy HX1).cell 0 _ rfl, by rw [h.cell hwl]; exact (yy HX1).cell 1 _ rfl, by rw [h.cell hwl]; exact (yy HX1).cell 2 _ rfl, by rw [h.cell hwl]; exact (yy HX1).cell 3 _ rfl⟩, by rw [h.cell hgl]; exact hgc⟩)
   clear hgc
   go_upto_region 7 with fail
   obtain ⟨x, HXK⟩ : ∃ x, X.getD k 0 = x := ⟨_, rfl⟩
   rw [HXK] at HKS
   obtain ⟨v1, v2, v3, y1, y2, y3, z1, z2, z3, cSt, cAp, cPr, HV⟩ : ∃ v1 v2 v3 y1 y2 y3 z1 z2 z3 : Int, Hid (∀ W : World, aI W sa L L.length → Calls Tryz.prog 56 #[.slice sa L.length sc, .int .i64 x] W fun e w' => e = .returned (.agg #[.int .i64 v1, .int .i64 v2, .int .i64 v3]) ∧ Below W.heap.size W w') ∧ Hid (∀ W : World, Calls Tryz.prog 55 #[.agg #[.int .i64 A, .int .i64 B, .int .i64 C, .int .i64 D], .agg #[.int .i64 v1, .int .i64 v2, .int .i64 v3]] W fun e w' => e = .returned (.agg #[.int .i64 y1, .int .i64 y2, .int .i64 y3]) ∧ Below W.heap.size W w') ∧ Hid (∀ W : World, Calls Tryz.prog 54 #[.agg #[.int .i64 y1, .int .i64 y2, .int .i64 y3]] W fun e w' => e = .returned (.agg #[.int .i64 z1, .int .i64 z2, .int .i64 z3]) ∧ Below W.heap.size W w') ∧ Hid (scV L A B C D x = (z1, z2, z3)) :=
    ⟨_, _, _, _, _, _, _, _, _, yz (fun W hW => mf L x sa sc W hn hW), yz (fun W => iE A B C D _ _ _ W), yz (fun W => mJ _ _ _ W), yz rfl⟩
   go_cut [9] (fun pv wx => ∃ (wv : World) (a9 : Option Addr) (c9 : Nat), wv = wx ∧ pv = .slice a9 (S.length + 1) c9 ∧ Hid (jy W1 wx (S ++ [(z1, z2, z3)]) a9 c9 I a2 cap2))
   case first =>
    refine wp_region_held_drew (S := (fun w' => (w'.cell? ⟨w.heap.size, 0, none⟩ = some (.int .i64 A) ∧ w'.cell? ⟨w.heap.size, 1, none⟩ = some (.int .i64 B) ∧ w'.cell? ⟨w.heap.size, 2, none⟩ = some (.int .i64 C) ∧ w'.cell? ⟨w.heap.size, 3, none⟩ = some (.int .i64 D)) ∧ w'.cell? ⟨g, k, none⟩ = some (.int .i64 x))) (by kernel_rfl) (yy HKS wr (yy HS).bel) (fun hHeld => ?_)
    refine ab 0 rfl ?_
    try simp only [Act.put, ag, ah, ai]
    refine ab 1 rfl ?_
    try simp only [Act.put, ag, ah, ai]
    refine ab 2 rfl ?_
    try simp only [Act.put, ag, ah, ai]
    refine ab 3 rfl ?_
    try simp only [Act.put, ag, ah, ai]
    refine ab 4 rfl ?_
    try simp only [Act.put, ag, ah, ai]
    refine ab 5 rfl ?_
    try simp only [Act.put, ag, ah, ai]
    refine ab 6 rfl ?_
    try simp only [Act.put, ag, ah, ai]
    have HV0 : Hid (jy W1 wr.drew S a cap I a2 cap2) := yz ((yy HS).below (Below.refl wr.heap.size wr).drew)
    clear HS
    obtain ⟨V0, HYY⟩ : ∃ YY, YY = wr.drew := ⟨_, rfl⟩
    rw [← HYY] at HV0 hHeld ⊢
    clear HYY
    refine ae 7 rfl fun K hK => ?_
    go_simp
    refine (yy cSt V0 ((yy HL1).kept (yy HV0).bel)).mono ?_
    rintro e V1 ⟨rfl, hx⟩
    replace HV0 := yz ((yy HV0).below hx)
    clear hx
    refine hK.out _ _ (yy HKS _ (yy HV0).bel) (fun hHeld2 => ?_)
    clear hK K hHeld
    have hHeld := hHeld2
    clear hHeld2
    refine ae 8 rfl fun K hK => ?_
    go_simp
    refine (yy cAp V1).mono ?_
    rintro e V2 ⟨rfl, hx⟩
    replace HV0 := yz ((yy HV0).below hx)
    clear hx
    refine hK.out _ _ (yy HKS _ (yy HV0).bel) (fun hHeld2 => ?_)
    clear hK K hHeld
    have hHeld := hHeld2
    clear hHeld2
    refine ae 9 rfl fun K hK => ?_
    go_simp
    refine (yy cPr V2).mono ?_
    rintro e V3 ⟨rfl, hx⟩
    replace HV0 := yz ((yy HV0).below hx)
    clear hx
    refine hK.out _ _ (yy HKS _ (yy HV0).bel) (fun hHeld2 => ?_)
    clear hK K hHeld
    have hHeld := hHeld2
    clear hHeld2
    refine ae 10 rfl fun K hK => ?_
    go_simp
    have hy := an V3 (.cells #[.int .i64 z1, .int .i64 z2, .int .i64 z3] 78)
    have HN := yz (aF V3 [.int .i64 z1, .int .i64 z2, .int .i64 z3] 78)
    replace HV0 := yz ((yy HV0).below hy)
    clear hy
    refine hK.out _ _ (yy HKS _ (yy HV0).bel) (fun hHeld2 => ?_)
    clear hK K hHeld
    have hHeld := hHeld2
    clear hHeld2
    refine ae 11 rfl fun K hK => ?_
    have hown := (yy HV0).row
    have hbase : W1.heap.size ≤ (V3.alloc (.cells #[.int .i64 z1, .int .i64 z2, .int .i64 z3] 78)).heap.size := (yy HV0).bel.size
    refine (if_pos (by kernel_rfl)).mpr ?_
    simp only [List.getElem_toArray, List.getElem_cons_succ, List.getElem_cons_zero]
    generalize hA : ({ tmps := _, defers := _ } : Act) = aa
    have hf0 : aa.eval (Operand.tmp 28) = .slice a S.length cap := by subst hA; simp [go_sem]
    have hf1 : aa.eval (Operand.tmp 38) = .slice (some ⟨V3.heap.size, 0, none⟩) 1 1 := by subst hA; simp [go_sem]
    refine wp_append_own _ (Operand.tmp 28) (Operand.tmp 38) 28 rfl W1.heap.size 78 i0 (.agg #[.int .i64 0, .int .i64 0, .int .i64 0]) 3 24 Tryz.underlying28 hinf hz0 hz1 hz2 rfl (by decide) (.slice a S.length cap) S.length (flL S) hf0 hown ⟨V3.heap.size, 0, none⟩ 1 1 (vcL (z1, z2, z3)) hf1 rfl (gQ (yy HN)) (fun u hu => ju hu) (by omega) (by omega) hbase ?_
    intro v7 V7 hown7 hgrow7 _
    subst hA
    obtain ⟨a9, c9, rfl, hS9⟩ := (yy HV0).app hgrow7 hown7
    have HS9 := yz hS9
    clear hown7 hgrow7 hS9 hown HN HV0 hf0 hf1
    refine hK.out _ _ (yy HKS _ (yy HS9).bel) (fun hHeld2 => ?_)
    clear hK K hHeld
    have hHeld := hHeld2
    clear hHeld2
    refine ae 12 rfl fun K hK => ?_
    go_simp
    refine hK.out _ _ (yy HKS _ (yy HS9).bel) (fun hHeld2 => ?_)
    clear hK K hHeld
    refine wpAnyH_done (by kernel_rfl) ?_ _
    clear hHeld2
    go_wp2_with fail
    go_meet
    exact ⟨_, a9, c9, rfl, rfl, HS9⟩
   case rest =>
   clear HS cSt cAp cPr
   obtain ⟨wx, a9, c9, hwx, rfl, HS⟩ := hcut
   subst hwx
   obtain ⟨_, hgx⟩ := yy HKS wx (yy HS).bel
   have hy := an wx (.cells #[.int .i64 x] 2)
   have HN := yz (aF wx [.int .i64 x] 2)
   have HS8 := yz ((yy HS).below hy)
   clear hy HS
   have hown := (yy HS8).few
   have hbase : W1.heap.size ≤ (wx.alloc (.cells #[.int .i64 x] 2)).heap.size := (yy HS8).bel.size
   go_wp2_with (at_builtin; refine wpList_append_own _ rfl _ _ 44 rfl W1.heap.size 2 j0 (.int .i64 0) 1 8 Tryz.underlying44 jinf jz0 jz1 jz2 rfl (by decide) _ _ _ rfl hown ⟨wx.heap.size, 0, none⟩ 1 1 [.int .i64 x] rfl rfl (sJ (yy HN)) ?c2 ?c3 ?c4 hbase ?_)
   case c2 => exact fun u hu => jE (S := [x]) hu
   case c3 => omega
   case c4 => omega
   intro v7 V7 hown7 hgrow7 _
   obtain ⟨a8, c8, rfl, hS9⟩ := (yy HS8).add hgrow7 hown7
   have HS9 := yz hS9
   clear hown7 hgrow7 hS9 hown HN HS8 hgx
   have HE9 : Hid (I ++ [x] = X.take (k + 1) ∧ S ++ [(z1, z2, z3)] = (I ++ [x]).map (scV L A B C D)) := yz (by
    obtain ⟨e1, e2⟩ := yy HE
    obtain ⟨t1, _⟩ := uY L A B C D cone k X (yy HXE) hk h6
    rw [HXK, ← e1] at t1
    exact ⟨t1.symm, by rw [List.map_append, ← e2]; show _ = S ++ [scV L A B C D x]; rw [yy HV]⟩)
   have HXK2 := yz HXK
   clear HE HV HXK
   go_wp2_with fail
   go_roundw
   case rel => exact ⟨k + 1, S ++ [(z1, z2, z3)], I ++ [x], a9, a8, c9, c8, by go_num, by rw [show (S ++ [(z1, z2, z3)]).length = S.length + 1 by simp], by rw [show (I ++ [x]).length = I.length + 1 by simp], by omega, by omega, by have h := yy HE9; rw [h.2, h.1, List.length_map, List.length_take]; omega, by have h := yy HE9; rw [h.1, List.length_take]; omega, HE9, HS9⟩
   case measure => simp [intOf] <;> omega
  ·have HEI : Hid (I = scI L A B C D cone ∧ S = scS L A B C D cone) := yz (by
    obtain ⟨e1, e2⟩ := yy HE
    have e3 : I = scI L A B C D cone := by
     unfold scI
     rw [yy HXE, e1]
     by_cases h6 : k < 6
     ·rw [List.take_of_length_le (show X.length ≤ k by omega), List.take_of_length_le (show X.length ≤ 6 by omega)]
     ·rw [show k = 6 by omega]
    exact ⟨e3, by rw [e2, e3]; rfl⟩)
   have hfin : ∃ (b b2 : Option Addr) (cb cb2 : Nat), Ending.returned (.tuple #[.slice a S.length cap, .slice a2 I.length cap2]) = .returned (.tuple #[.slice b (scI L A B C D cone).length cb, .slice b2 (scI L A B C D cone).length cb2]) ∧ wr.ownsRow w.heap.size 78 3 (.slice b (scS L A B C D cone).length cb) (scS L A B C D cone).length (flL (scS L A B C D cone)) ∧ wr.ownsRow w.heap.size 2 1 (.slice b2 (scI L A B C D cone).length cb2) (scI L A B C D cone).length (dG (scI L A B C D cone)) ∧ Below w.heap.size w wr := by
    obtain ⟨e1, e2⟩ := yy HEI
    have hl : w.heap.size ≤ W1.heap.size := (yy HB1).size
    have hlen : S.length = I.length := by rw [e2, jn, ← e1]
    refine ⟨a, a2, cap, cap2, ?_, ?_, ?_, aj (yy HB1) (yy HS).bel⟩
    ·rw [← e1, hlen]
    ·rw [← e2]; exact World.ownsRow.mono (yy HS).row hl
    ·rw [← e1]; exact World.ownsRow.mono (yy HS).few hl
   have HF := yz hfin
   clear hfin HEI HE HS
   rcases (by omega : ¬ (k : Int) < (X.length : Int) ∨ ((k : Int) < (X.length : Int) ∧ ¬ (k : Int) < 6)) with h1' | ⟨h1', h2'⟩
   all_goals (go_wp2_with fail; exact bodyPost_ret (v := .tuple #[.slice a S.length cap, .slice a2 I.length cap2]) (by simp [results, Tryz.results22, go_sem]) rfl (yy HF))
end
end Go.Proofs.YtgiodlllokdcdaaGreatDoor
