/- SpotsOf: the program's. -/
import Derived.Test.YtmacbegchdjdnaaSpD
import Derived.Test.YtmacbegchdjdnaaBlI
namespace Go.Proofs.Ytmacbegchdjdnaa
open Go.RowKit Go.Sort
set_option linter.unusedVariables false

set_option maxHeartbeats 4000000 in
set_option maxRecDepth 100000 in
theorem implSpotsOf_any (wd ht : Int) (s : ByteArray) (lv fo : Int) (w : World) (hs : s.size ≤ maxLen) :
    Calls Try.prog 20 #[.agg #[.int .i64 wd, .int .i64 ht, .string s], .int .i64 lv, .int .i64 fo] w fun e w' => (∃ v, e = .returned v ∧ w'.ownsRow w.heap.size 46 3 v (spotsR wd ht s lv fo).length (flatV (spotsR wd ht s lv fo))) ∧ Below w.heap.size w w' := by
  obtain ⟨i0, hinf, hz0, hz1, hz2⟩ := info_parts info_vec
  have hm8 : 400 ≤ maxLen := by decide +kernel
  have cB := hide (fun W => implBlobsOf_any wd ht s lv W hs)
  have hml := resB_len' wd ht s lv
  have HR : Hid (spotsR wd ht s lv fo = if focB fo = true then pickS wd ht s fo (resB wd ht s lv) else []) := hide rfl
  generalize codeB wd ht s lv = code at *
  generalize resB wd ht s lv = S at *
  have A0 := blk_new w [.int .i64 wd, .int .i64 ht, .string s] 24
  have B0 := below1 w (.cells #[.int .i64 wd, .int .i64 ht, .string s] 24)
  go_enter Try.func20, Try.ntmps20
  go_wp2_with fail
  generalize w.alloc (.cells #[.int .i64 wd, .int .i64 ht, .string s] 24) = W0 at A0 B0 ⊢
  refine (isFocal_any fo _).mono ?_
  rintro e W00 ⟨rfl, rfl⟩
  cases hf : focB fo
  · rw [hf] at HR
    have HR' : Hid (spotsR wd ht s lv fo = []) := HR
    go_wp2_with fail
    go_ret
    rw [unhide HR']
    exact ⟨⟨_, rfl, World.ownsRow_nil _ _ _ _⟩, B0⟩
  rw [hf, if_pos rfl] at HR
  clear hf
  have f0 := A0.cell 0 _ rfl
  have f1 := A0.cell 1 _ rfl
  have f2 := A0.cell 2 _ rfl
  go_wp2_with fail
  refine (unhide cB _).mono ?_
  rintro e W1 ⟨⟨v1, rfl, ho⟩, hx⟩
  obtain ⟨a1, c1, rfl⟩ := own_slice ho
  have hfl : w.heap.size < W00.heap.size := A0.lt
  have HST : Hid (StS w W1 w.heap.size W1.heap.size wd ht s a1 S.length c1 S) := hide ⟨A0.kept hx, own_lower ho (by omega), fun z e => (ho.lt z e).2, by have := hx.size; omega, by have := hx.size; omega, Nat.le_refl _, below_call B0 hx⟩
  have HO : Hid (W1.ownsRow W1.heap.size 46 3 (.slice none 0 0) (pickS wd ht s fo (S.take 0)).length (flatV (pickS wd ht s fo (S.take 0)))) := hide (World.ownsRow_nil _ _ _ _)
  clear ho hx A0 B0 cB hfl f0 f1 f2
  have hfd : ∀ W : World, (Instr.field 29 (.agg #[.slice a1 S.length c1, .int .i64 code]) 0).run Try.prog W = .ok (.slice a1 S.length c1) W := fun W => by kernel_rfl
  go_wp2_with fail
  clear hfd
  generalize W1.heap.size = lo at *
  go_loopw [7, 19] (fun v kk wr => ∃ k : Nat, k ≤ S.length ∧ kk = .int .i64 k ∧ Hid (wr.ownsRow lo 46 3 v (pickS wd ht s fo (S.take k)).length (flatV (pickS wd ht s fo (S.take k)))) ∧ Hid (StS w wr w.heap.size lo wd ht s a1 S.length c1 S)) (fun _ kk _ => S.length - (intOf kk).toNat)
  case atStart => exact ⟨0, by omega, rfl, HO, HST⟩
  case round =>
    clear HO HST
    obtain ⟨k, hk, rfl, HO, HST⟩ := hrel
    by_cases hkn : k < S.length
    · have hkn2 : (k : Int) < (S.length : Int) := by omega
      obtain ⟨b, hb⟩ : ∃ b, S[k]? = some b := ⟨S[k], List.getElem?_eq_getElem hkn⟩
      have HSN := hide (pick_snoc wd ht s fo S k b hb)
      have hpl : (pickS wd ht s fo (S.take k)).length ≤ 8 := by have := pick_len wd ht s fo (S.take k); have := List.length_take_le k S; omega
      obtain ⟨g, ha, hg1, hg2, c0, c1', c2, c3, c4⟩ := blob_cells (unhide HST).bl rfl k b hb
      subst ha
      clear hb
      have HSV := hide (spT_v wd ht s fo b)
      have HKE : Hid (keepS wd ht s fo b = (goodB b.ar b.ed 1 20 && wideB (spT wd ht s fo b).1 (spT wd ht s fo b).2.1 (spT wd ht s fo b).2.2)) := hide rfl
      generalize spT wd ht s fo b = q at *
      generalize keepS wd ht s fo b = kp at *
      obtain ⟨q1, q2, q3⟩ := q
      obtain ⟨ar, su, sx, sy, ed⟩ := b
      have HSV' : Hid (spV su sx sy wd ht s fo = .agg #[.int .i64 q1, .int .i64 q2, .int .i64 q3]) := HSV
      have HKE' : Hid (kp = (goodB ar ed 1 20 && wideB q1 q2 q3)) := HKE
      clear HSV HKE
      simp only at c0 c1' c2 c3 c4
      have Z := below1 wr (.cells #[.int .i64 ar, .int .i64 su, .int .i64 sx, .int .i64 sy, .bool ed] 40)
      have HST2 := hide ((unhide HST).kept Z)
      have HO2 := hide (own_kept (unhide HO) Z)
      have D2 := blk_new wr [.int .i64 ar, .int .i64 su, .int .i64 sx, .int .i64 sy, .bool ed] 40
      clear Z HST HO
      have d0 := D2.cell 0 _ rfl
      have d1 := D2.cell 1 _ rfl
      have d2 := D2.cell 2 _ rfl
      have d3 := D2.cell 3 _ rfl
      have d4 := D2.cell 4 _ rfl
      go_wp2_with fail
      clear c0 c1' c2 c3 c4
      refine (blobGood_any ar su sx sy ed 1 20 _).mono ?_
      rintro e W3 ⟨rfl, hx⟩
      have HST3 := hide ((unhide HST2).kept hx)
      have HO3 := hide (own_kept (unhide HO2) hx)
      have D3 := D2.kept hx
      clear hx HST2 HO2 D2 d0 d1 d2 d3 d4
      cases hgd : goodB ar ed 1 20
      · rw [hgd] at HKE'
        have HKE : Hid (kp = false) := HKE'
        rw [unhide HKE, if_neg (by simp), List.append_nil] at HSN
        have HO4 : Hid (W3.ownsRow lo 46 3 u7 (pickS wd ht s fo (S.take (k + 1))).length (flatV (pickS wd ht s fo (S.take (k + 1))))) := hide (by rw [unhide HSN]; exact unhide HO3)
        go_wp2_with fail
        go_roundw
        case rel => exact ⟨k + 1, by omega, by go_num, HO4, HST3⟩
        case measure => simp [intOf] <;> omega
      rw [hgd, Bool.true_and] at HKE'
      have d0 := D3.cell 0 _ rfl
      have d1 := D3.cell 1 _ rfl
      have d2 := D3.cell 2 _ rfl
      have d3 := D3.cell 3 _ rfl
      have d4 := D3.cell 4 _ rfl
      have f0 := (unhide HST3).fr.cell 0 _ rfl
      have f1 := (unhide HST3).fr.cell 1 _ rfl
      have f2 := (unhide HST3).fr.cell 2 _ rfl
      go_wp2_with fail
      refine (spotOf_any ar su sx sy ed wd ht s fo _).mono ?_
      rintro e W4 ⟨rfl, hx⟩
      rw [unhide HSV']
      clear HSV'
      have Z := below1 W4 (.cells #[.int .i64 q1, .int .i64 q2, .int .i64 q3] 46)
      have HST5 := hide (((unhide HST3).kept hx).kept Z)
      have HO5 := hide (own_kept (own_kept (unhide HO3) hx) Z)
      have E5 := blk_new W4 [.int .i64 q1, .int .i64 q2, .int .i64 q3] 46
      clear hx Z HST3 HO3 D3 d0 d1 d2 d3 d4 f0 f1 f2
      have e0 := E5.cell 0 _ rfl
      have e1 := E5.cell 1 _ rfl
      have e2 := E5.cell 2 _ rfl
      go_wp2_with fail
      generalize W4.alloc (.cells #[.int .i64 q1, .int .i64 q2, .int .i64 q3] 46) = W5 at HST5 HO5 E5 e0 e1 e2 ⊢
      generalize W4.heap.size = vb at *
      clear e0 e1 e2
      refine (isWide_any q1 q2 q3 _).mono ?_
      rintro e W6 ⟨rfl, hx⟩
      have HST6 := hide ((unhide HST5).kept hx)
      have HO6 := hide (own_kept (unhide HO5) hx)
      have E6 := E5.kept hx
      clear hx HST5 HO5 E5
      cases hwd : wideB q1 q2 q3
      · rw [hwd] at HKE'
        rw [unhide HKE', if_neg (by simp), List.append_nil] at HSN
        have HO7 : Hid (W6.ownsRow lo 46 3 u7 (pickS wd ht s fo (S.take (k + 1))).length (flatV (pickS wd ht s fo (S.take (k + 1))))) := hide (by rw [unhide HSN]; exact unhide HO6)
        go_wp2_with fail
        go_roundw
        case rel => exact ⟨k + 1, by omega, by go_num, HO7, HST6⟩
        case measure => simp [intOf] <;> omega
      · rw [hwd] at HKE'
        rw [unhide HKE', if_pos rfl] at HSN
        have e0 := E6.cell 0 _ rfl
        have e1 := E6.cell 1 _ rfl
        have e2 := E6.cell 2 _ rfl
        have Z1 := below1 W6 (.cells #[.int .i64 q1, .int .i64 q2, .int .i64 q3] 46)
        have hown := own_kept (unhide HO6) Z1
        have ST7 := (unhide HST6).kept Z1
        have hll := (unhide HST6).ll
        clear Z1 HO6 HST6
        generalize pickS wd ht s fo (S.take k) = Pk at *
        go_wp2_with (at_builtin; refine wpList_append_own _ rfl _ _ 50 rfl lo 46 i0 (.agg #[.int .i64 0, .int .i64 0, .int .i64 0]) 3 24 Try.underlying50 hinf hz0 hz1 hz2 rfl (by decide) _ _ _ rfl hown ⟨W6.heap.size, 0, none⟩ 1 1 (flatV [(q1, q2, q3)]) rfl rfl ?d2 (fun u hu => flatV_cell hu) ?d3 ?d4 ?d5 ?_)
        case d2 => first | exact fun j u h => h | exact new_list _ _ _
        case d3 => omega
        case d4 => omega
        case d5 => first | omega | (simp; omega)
        intro v7 V7 hown7 hgrow7 _
        have HST8 := hide (ST7.byRow hgrow7 (fun q e => (hown.lt q e).1))
        have HO8 : Hid (V7.ownsRow lo 46 3 v7 (pickS wd ht s fo (S.take (k + 1))).length (flatV (pickS wd ht s fo (S.take (k + 1))))) := hide (by rw [unhide HSN, flatV_app, List.length_append]; exact hown7)
        clear hown7 hgrow7 hown ST7 e0 e1 e2 E6
        go_wp2_with fail
        go_roundw
        case rel => exact ⟨k + 1, by omega, by go_num, HO8, HST8⟩
        case measure => simp [intOf] <;> omega
    · have hke : k = S.length := by omega
      have HO3 : Hid (wr.ownsRow lo 46 3 u7 (spotsR wd ht s lv fo).length (flatV (spotsR wd ht s lv fo))) := hide (by
        have h := unhide HO
        rw [hke, List.take_length] at h
        rw [unhide HR]
        exact h)
      go_wp2_with fail
      go_ret
      exact ⟨⟨_, rfl, own_lower (unhide HO3) (unhide HST).lw⟩, (unhide HST).bel⟩
end Go.Proofs.Ytmacbegchdjdnaa
