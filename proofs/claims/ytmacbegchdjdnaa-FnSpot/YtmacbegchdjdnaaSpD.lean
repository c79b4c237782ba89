/- SpotsOf: the specification's. -/
import Derived.Test.YtmacbegchdjdnaaBlC
import Derived.Test.YtmacbegchdjdnaaSpB
import Derived.Test.YtmacbegchdjdnaaWideT
namespace Go.Proofs.Ytmacbegchdjdnaa
open Go.RowKit Go.Sort
set_option linter.unusedVariables false

theorem info_vec : (Try.prog.info? 46).map (fun i => (i.zero, i.size, i.bytes)) = some (some (.agg #[.int .i64 0, .int .i64 0, .int .i64 0]), 3, 24) := by kernel_rfl
def vec3 (v : Int × Int × Int) : List Value := [.int .i64 v.1, .int .i64 v.2.1, .int .i64 v.2.2]
def flatV (S : List (Int × Int × Int)) : List Value := S.flatMap vec3
theorem flatV_app (A B : List (Int × Int × Int)) : flatV (A ++ B) = flatV A ++ flatV B := by unfold flatV; rw [List.flatMap_append]
theorem flatV_cell {S : List (Int × Int × Int)} {v : Value} (h : v ∈ flatV S) : v.oneCell' = true := by
  unfold flatV at h
  rw [List.mem_flatMap] at h
  obtain ⟨p, _, hp⟩ := h
  simp [vec3] at hp
  rcases hp with rfl | rfl | rfl <;> rfl
theorem ownV_none (w : World) (B : Nat) (h : B ≤ w.heap.size) : (w.alloc (.cells #[] 46)).ownsRow B 46 3 (.slice (some ⟨w.heap.size, 0, none⟩) 0 0) 0 (flatV []) :=
  ⟨rfl, .inr ⟨_, 0, #[], rfl, h, Array.getElem?_push_size, Nat.le_refl _, Nat.zero_le _, rfl, rfl⟩⟩
/-- the spot of a blob, plainly -/
def spT (wd ht : Int) (s : ByteArray) (fo : Int) (b : Bl) : Int × Int × Int :=
  (spI (spOk b.su b.sx b.sy wd ht s fo) (spX b.sx wd b.su) (spX b.sy ht b.su) (spZ fo b.su) (spX b.sx wd b.su), spI (spOk b.su b.sx b.sy wd ht s fo) (spX b.sx wd b.su) (spX b.sy ht b.su) (spZ fo b.su) (spX b.sy ht b.su), spI (spOk b.su b.sx b.sy wd ht s fo) (spX b.sx wd b.su) (spX b.sy ht b.su) (spZ fo b.su) (spZ fo b.su))
def vecG (v : Int × Int × Int) : Value := .agg #[.int .i64 v.1, .int .i64 v.2.1, .int .i64 v.2.2]
theorem spT_v (wd ht : Int) (s : ByteArray) (fo : Int) (b : Bl) : spV b.su b.sx b.sy wd ht s fo = vecG (spT wd ht s fo b) := rfl
def keepS (wd ht : Int) (s : ByteArray) (fo : Int) (b : Bl) : Bool := goodB b.ar b.ed 1 20 && wideB (spT wd ht s fo b).1 (spT wd ht s fo b).2.1 (spT wd ht s fo b).2.2
def pickS (wd ht : Int) (s : ByteArray) (fo : Int) (S : List Bl) : List (Int × Int × Int) := (S.filter (keepS wd ht s fo)).map (spT wd ht s fo)
def spotsR (wd ht : Int) (s : ByteArray) (lv fo : Int) : List (Int × Int × Int) := if focB fo = true then pickS wd ht s fo (resB wd ht s lv) else []
theorem pick_len (wd ht : Int) (s : ByteArray) (fo : Int) (S : List Bl) : (pickS wd ht s fo S).length ≤ S.length := by
  unfold pickS
  rw [List.length_map]
  exact List.length_filter_le _ _
theorem pick_snoc (wd ht : Int) (s : ByteArray) (fo : Int) (S : List Bl) (k : Nat) (b : Bl) (hk : S[k]? = some b) : pickS wd ht s fo (S.take (k + 1)) = pickS wd ht s fo (S.take k) ++ (if keepS wd ht s fo b = true then [spT wd ht s fo b] else []) := by
  obtain ⟨hl, he⟩ := List.getElem?_eq_some_iff.1 hk
  have e : S.take (k + 1) = S.take k ++ [b] := by rw [List.take_succ_eq_append_getElem hl, he]
  unfold pickS
  rw [e, List.filter_append, List.map_append]
  congr 1
  cases h : keepS wd ht s fo b
  · rw [List.filter_cons_of_neg (by simp [h])]; rfl
  · rw [List.filter_cons_of_pos h]; rfl
/-- the blobs lie at a slice: each one's cells -/
theorem blob_cells {w : World} {B n : Nat} {a : Option Addr} {c : Nat} {S : List Bl} (h : w.ownsRow B 40 5 (.slice a n c) n (flatB S)) (hn : n = S.length) (k : Nat) (b : Bl) (hk : S[k]? = some b) :
    ∃ g, a = some ⟨g, 0, none⟩ ∧ B ≤ g ∧ g < w.heap.size ∧ w.cell? ⟨g, k * 5, none⟩ = some (.int .i64 b.ar) ∧ w.cell? ⟨g, k * 5 + 1, none⟩ = some (.int .i64 b.su) ∧ w.cell? ⟨g, k * 5 + 2, none⟩ = some (.int .i64 b.sx) ∧ w.cell? ⟨g, k * 5 + 3, none⟩ = some (.int .i64 b.sy) ∧ w.cell? ⟨g, k * 5 + 4, none⟩ = some (.bool b.ed) := by
  obtain ⟨hl, he⟩ := List.getElem?_eq_some_iff.1 hk
  rcases h.2 with ⟨h1, h0⟩ | ⟨g, cap, cur, hv, hb, hg, hnc, hcm, hcs, htake⟩
  · omega
  · injection hv with e1 e2 e3
    have fl : ∀ (S : List Bl) (k : Nat) (b : Bl), S[k]? = some b → ∀ j u, (blobL b)[j]? = some u → (flatB S)[k * 5 + j]? = some u := by
      intro S
      induction S with
      | nil => intro k b h; simp at h
      | cons x S ih =>
        intro k b h j u hu
        have e : flatB (x :: S) = blobL x ++ flatB S := by unfold flatB; simp
        have hj : j < 5 := (List.getElem?_eq_some_iff.1 hu).1
        rw [e]
        cases k with
        | zero =>
          simp at h
          subst h
          rw [List.getElem?_append_left (by show _ < 5; omega)]
          simpa using hu
        | succ k =>
          rw [List.getElem?_append_right (by show 5 ≤ _; omega)]
          rw [show (k + 1) * 5 + j - (blobL x).length = k * 5 + j by show _ - 5 = _; omega]
          exact ih k b (by simpa using h) j u hu
    have cl : ∀ j u, (blobL b)[j]? = some u → w.cell? ⟨g, k * 5 + j, none⟩ = some u := by
      intro j u hu
      have hj : j < 5 := (List.getElem?_eq_some_iff.1 hu).1
      have e := fl S k b hk j u hu
      rw [cell_of_row w g _ cur _ _ hg]
      rw [← htake, List.getElem?_take, if_pos (by omega)] at e
      simpa using e
    exact ⟨g, e1, hb, (Array.getElem?_eq_some_iff.1 hg).1, cl 0 _ rfl, cl 1 _ rfl, cl 2 _ rfl, cl 3 _ rfl, cl 4 _ rfl⟩
theorem resB_len' (wd ht : Int) (s : ByteArray) (lv : Int) : (resB wd ht s lv).length ≤ 8 := by
  unfold resB
  split
  · split
    · assumption
    · simp
  · simp
/-- what lies in memory while the blobs are gone through -/
structure StS (w wr : World) (fb lo : Nat) (wd ht : Int) (s : ByteArray) (a : Option Addr) (n c : Nat) (S : List Bl) : Prop where
  fr : Blk wr fb [.int .i64 wd, .int .i64 ht, .string s] 24
  bl : wr.ownsRow w.heap.size 40 5 (.slice a n c) n (flatB S)
  lt : ∀ z, (Value.slice a n c).ownBlock = some z → z < lo
  lf : fb < lo
  lw : w.heap.size ≤ lo
  ll : lo ≤ wr.heap.size
  bel : Below w.heap.size w wr
theorem StS.kept {w wr wy : World} {fb lo : Nat} {wd ht : Int} {s : ByteArray} {a : Option Addr} {n c : Nat} {S : List Bl} (h : StS w wr fb lo wd ht s a n c S) (hB : Below wr.heap.size wr wy) : StS w wy fb lo wd ht s a n c S :=
  ⟨h.fr.kept hB, own_kept h.bl hB, h.lt, h.lf, h.lw, Nat.le_trans h.ll hB.size, below_call h.bel hB⟩
theorem StS.byRow {w wr wy : World} {fb lo : Nat} {wd ht : Int} {s : ByteArray} {a : Option Addr} {n c : Nat} {S : List Bl} {row : Option Nat} (h : StS w wr fb lo wd ht s a n c S) (hg : wr.grownBy wy row) (hr : ∀ g, row = some g → lo ≤ g) : StS w wy fb lo wd ht s a n c S := by
  have ne : ∀ b, b < lo → some b ≠ row := fun b hb e => by have := hr b e.symm; omega
  refine ⟨h.fr.grown hg (ne _ h.lf), h.bl.kept hg ?_, h.lt, h.lf, h.lw, Nat.le_trans h.ll hg.size, h.bel.trans ⟨hg.os, hg.tape, hg.output, hg.size, fun k hk => hg.block k (Nat.lt_of_lt_of_le hk h.bel.size) (ne k (by have := h.lw; omega))⟩⟩
  cases hv : (Value.slice a n c).ownBlock with
  | none => exact .inl rfl
  | some z => exact .inr (fun e => by have := h.lt z hv; exact ne z this e)
set_option maxHeartbeats 4000000 in
set_option maxRecDepth 100000 in
theorem specSpotsOf_any (wd ht : Int) (s : ByteArray) (lv fo : Int) (w : World) (hs : s.size ≤ maxLen) :
    Calls Try.prog 24 #[.agg #[.int .i64 wd, .int .i64 ht, .string s], .int .i64 lv, .int .i64 fo] w fun e w' => (∃ v, e = .returned v ∧ w'.ownsRow w.heap.size 46 3 v (spotsR wd ht s lv fo).length (flatV (spotsR wd ht s lv fo))) ∧ Below w.heap.size w w' := by
  obtain ⟨i0, hinf, hz0, hz1, hz2⟩ := info_parts info_vec
  have hm8 : 400 ≤ maxLen := by decide +kernel
  have cB := hide (fun W => specBlobsOf_any wd ht s lv W hs)
  have hml := resB_len' wd ht s lv
  have HR : Hid (spotsR wd ht s lv fo = if focB fo = true then pickS wd ht s fo (resB wd ht s lv) else []) := hide rfl
  generalize codeB wd ht s lv = code at *
  generalize resB wd ht s lv = S at *
  have A0 := blk_new w [.int .i64 wd, .int .i64 ht, .string s] 24
  have B0 := below1 w (.cells #[.int .i64 wd, .int .i64 ht, .string s] 24)
  go_enter Try.func24, Try.ntmps24
  go_wp2_with fail
  generalize w.alloc (.cells #[.int .i64 wd, .int .i64 ht, .string s] 24) = W0 at A0 B0 ⊢
  refine (unhide cB _).mono ?_
  rintro e W1 ⟨⟨v1, rfl, ho⟩, hx⟩
  obtain ⟨a1, c1, rfl⟩ := own_slice ho
  have hfl : w.heap.size < W0.heap.size := A0.lt
  have HST0 : StS w W1 w.heap.size W1.heap.size wd ht s a1 S.length c1 S := ⟨A0.kept hx, own_lower ho (by omega), fun z e => (ho.lt z e).2, by have := hx.size; omega, by have := hx.size; omega, Nat.le_refl _, below_call B0 hx⟩
  have Z := below1 W1 (.cells #[.slice a1 S.length c1, .int .i64 code] 29)
  have HST1 := HST0.kept Z
  have X1 := blk_new W1 [.slice a1 S.length c1, .int .i64 code] 29
  clear ho hx Z A0 B0 cB HST0
  have x0 := X1.cell 0 _ rfl
  have x1 := X1.cell 1 _ rfl
  have e1 : (W1.alloc (.cells #[.slice a1 S.length c1, .int .i64 code] 29)).heap.size = W1.heap.size + 1 := by simp
  have Z := below1 (W1.alloc (.cells #[.slice a1 S.length c1, .int .i64 code] 29)) (.cells #[] 46)
  have HST2 : StS w _ w.heap.size (W1.heap.size + 1) wd ht s a1 S.length c1 S := (show StS w (W1.alloc (.cells #[.slice a1 S.length c1, .int .i64 code] 29)) w.heap.size (W1.heap.size + 1) wd ht s a1 S.length c1 S from ⟨HST1.fr, HST1.bl, fun z e => Nat.lt_succ_of_lt (HST1.lt z e), Nat.lt_succ_of_lt HST1.lf, Nat.le_succ_of_le HST1.lw, by omega, HST1.bel⟩).kept Z
  have HX := hide (X1.kept Z)
  have HO := hide (ownV_none (W1.alloc (.cells #[.slice a1 S.length c1, .int .i64 code] 29)) (W1.heap.size + 1) (by omega))
  have HST := hide HST2
  have hxb : W1.heap.size < W1.heap.size + 1 := Nat.lt_succ_self _
  rw [e1] at HO
  clear Z HST1 HST2 X1 e1
  go_wp2_with fail
  clear x0 x1
  generalize (W1.alloc (.cells #[.slice a1 S.length c1, .int .i64 code] 29)).alloc (.cells #[] 46) = W2 at HST HX HO ⊢
  generalize W1.heap.size + 1 = lo at *
  generalize W1.heap.size = xb at *
  refine (l02Is_any fo 1 40 _).mono ?_
  rintro e W3 ⟨rfl, rfl⟩
  have hfo : (decide (1 ≤ fo) && decide (fo ≤ 40)) = focB fo := isD _ _ _
  rw [hfo]
  clear hfo
  cases hf : focB fo
  · rw [hf] at HR
    have HR' : Hid (spotsR wd ht s lv fo = []) := HR
    go_wp2_with fail
    go_ret
    rw [unhide HR']
    exact ⟨⟨_, rfl, own_lower (unhide HO) (unhide HST).lw⟩, (unhide HST).bel⟩
  rw [hf, if_pos rfl] at HR
  clear hf
  go_wp2_with fail
  go_loopw [8, 9] (fun v kk wr => ∃ k : Nat, k ≤ S.length ∧ kk = .int .i64 k ∧ Hid (wr.ownsRow lo 46 3 v (pickS wd ht s fo (S.take k)).length (flatV (pickS wd ht s fo (S.take k)))) ∧ Hid (StS w wr w.heap.size lo wd ht s a1 S.length c1 S) ∧ Hid (Blk wr xb [.slice a1 S.length c1, .int .i64 code] 29)) (fun _ kk _ => S.length - (intOf kk).toNat)
  case atStart => exact ⟨0, by omega, rfl, HO, HST, HX⟩
  case round =>
    clear HO HST HX
    obtain ⟨k, hk, rfl, HO, HST, HX⟩ := hrel
    have x0 := (unhide HX).cell 0 _ rfl
    have x1 := (unhide HX).cell 1 _ rfl
    by_cases hkn : k < S.length
    · have hkn2 : (k : Int) < (S.length : Int) := by omega
      obtain ⟨b, hb⟩ : ∃ b, S[k]? = some b := ⟨S[k], List.getElem?_eq_getElem hkn⟩
      have HSN := hide (pick_snoc wd ht s fo S k b hb)
      have hpl : (pickS wd ht s fo (S.take k)).length ≤ 8 := by have := pick_len wd ht s fo (S.take k); have := List.length_take_le k S; omega
      obtain ⟨g, ha, hg1, hg2, c0, c1', c2, c3, c4⟩ := blob_cells (unhide HST).bl rfl k b hb
      subst ha
      clear hb
      have HSV := hide (spT_v wd ht s fo b)
      have HKE : Hid (keepS wd ht s fo b = (goodB b.ar b.ed 1 20 && wideB (spT wd ht s fo b).1 (spT wd ht s fo b).2.1 (spT wd ht s fo b).2.2)) := hide rfl
      generalize spT wd ht s fo b = q at *
      generalize keepS wd ht s fo b = kp at *
      obtain ⟨q1, q2, q3⟩ := q
      obtain ⟨ar, su, sx, sy, ed⟩ := b
      have HSV' : Hid (spV su sx sy wd ht s fo = .agg #[.int .i64 q1, .int .i64 q2, .int .i64 q3]) := HSV
      have HKE' : Hid (kp = (goodB ar ed 1 20 && wideB q1 q2 q3)) := HKE
      clear HSV HKE
      simp only at c0 c1' c2 c3 c4
      have Z := below1 wr (.cells #[.int .i64 ar, .int .i64 su, .int .i64 sx, .int .i64 sy, .bool ed] 40)
      have HST2 := hide ((unhide HST).kept Z)
      have HO2 := hide (own_kept (unhide HO) Z)
      have HX2 := hide ((unhide HX).kept Z)
      have D2 := blk_new wr [.int .i64 ar, .int .i64 su, .int .i64 sx, .int .i64 sy, .bool ed] 40
      clear Z HST HO HX
      have d0 := D2.cell 0 _ rfl
      have d1 := D2.cell 1 _ rfl
      have d2 := D2.cell 2 _ rfl
      have d3 := D2.cell 3 _ rfl
      have d4 := D2.cell 4 _ rfl
      go_wp2_with fail
      clear c0 c1' c2 c3 c4 x0 x1
      refine (specBlobGood_any ar su sx sy ed 1 20 _).mono ?_
      rintro e W3 ⟨rfl, hx⟩
      have HST3 := hide ((unhide HST2).kept hx)
      have HO3 := hide (own_kept (unhide HO2) hx)
      have HX3 := hide ((unhide HX2).kept hx)
      have D3 := D2.kept hx
      clear hx HST2 HO2 D2 d0 d1 d2 d3 d4 HX2
      cases hgd : goodB ar ed 1 20
      · rw [hgd] at HKE'
        have HKE : Hid (kp = false) := HKE'
        rw [unhide HKE, if_neg (by simp), List.append_nil] at HSN
        have HO4 : Hid (W3.ownsRow lo 46 3 u8 (pickS wd ht s fo (S.take (k + 1))).length (flatV (pickS wd ht s fo (S.take (k + 1))))) := hide (by rw [unhide HSN]; exact unhide HO3)
        go_wp2_with fail
        go_roundw
        case rel => exact ⟨k + 1, by omega, by go_num, HO4, HST3, HX3⟩
        case measure => simp [intOf] <;> omega
      rw [hgd, Bool.true_and] at HKE'
      have d0 := D3.cell 0 _ rfl
      have d1 := D3.cell 1 _ rfl
      have d2 := D3.cell 2 _ rfl
      have d3 := D3.cell 3 _ rfl
      have d4 := D3.cell 4 _ rfl
      have f0 := (unhide HST3).fr.cell 0 _ rfl
      have f1 := (unhide HST3).fr.cell 1 _ rfl
      have f2 := (unhide HST3).fr.cell 2 _ rfl
      go_wp2_with fail
      refine (specSpotOf_any ar su sx sy ed wd ht s fo _).mono ?_
      rintro e W4 ⟨rfl, hx⟩
      rw [unhide HSV']
      clear HSV'
      have Z := below1 W4 (.cells #[.int .i64 q1, .int .i64 q2, .int .i64 q3] 46)
      have HST5 := hide (((unhide HST3).kept hx).kept Z)
      have HO5 := hide (own_kept (own_kept (unhide HO3) hx) Z)
      have HX5 := hide (((unhide HX3).kept hx).kept Z)
      have E5 := blk_new W4 [.int .i64 q1, .int .i64 q2, .int .i64 q3] 46
      clear hx Z HST3 HO3 D3 d0 d1 d2 d3 d4 f0 f1 f2 HX3
      have e0 := E5.cell 0 _ rfl
      have e1 := E5.cell 1 _ rfl
      have e2 := E5.cell 2 _ rfl
      go_wp2_with fail
      generalize W4.alloc (.cells #[.int .i64 q1, .int .i64 q2, .int .i64 q3] 46) = W5 at HST5 HO5 E5 e0 e1 e2 HX5 ⊢
      generalize W4.heap.size = vb at *
      clear e0 e1 e2
      refine (l04Wide_any q1 q2 q3 _).mono ?_
      rintro e W6 ⟨rfl, hx⟩
      have HST6 := hide ((unhide HST5).kept hx)
      have HO6 := hide (own_kept (unhide HO5) hx)
      have HX6 := hide ((unhide HX5).kept hx)
      have E6 := E5.kept hx
      clear hx HST5 HO5 E5 HX5
      cases hwd : wideB q1 q2 q3
      · rw [hwd] at HKE'
        rw [unhide HKE', if_neg (by simp), List.append_nil] at HSN
        have HO7 : Hid (W6.ownsRow lo 46 3 u8 (pickS wd ht s fo (S.take (k + 1))).length (flatV (pickS wd ht s fo (S.take (k + 1))))) := hide (by rw [unhide HSN]; exact unhide HO6)
        go_wp2_with fail
        go_roundw
        case rel => exact ⟨k + 1, by omega, by go_num, HO7, HST6, HX6⟩
        case measure => simp [intOf] <;> omega
      · rw [hwd] at HKE'
        rw [unhide HKE', if_pos rfl] at HSN
        have e0 := E6.cell 0 _ rfl
        have e1 := E6.cell 1 _ rfl
        have e2 := E6.cell 2 _ rfl
        have Z1 := below1 W6 (.cells #[.int .i64 q1, .int .i64 q2, .int .i64 q3] 46)
        have hown := own_kept (unhide HO6) Z1
        have ST7 := (unhide HST6).kept Z1
        have hll := (unhide HST6).ll
        have X7 := (unhide HX6).kept Z1
        clear Z1 HO6 HST6 HX6
        generalize pickS wd ht s fo (S.take k) = Pk at *
        go_wp2_with (at_builtin; refine wpList_append_own _ rfl _ _ 50 rfl lo 46 i0 (.agg #[.int .i64 0, .int .i64 0, .int .i64 0]) 3 24 Try.underlying50 hinf hz0 hz1 hz2 rfl (by decide) _ _ _ rfl hown ⟨W6.heap.size, 0, none⟩ 1 1 (flatV [(q1, q2, q3)]) rfl rfl ?d2 (fun u hu => flatV_cell hu) ?d3 ?d4 ?d5 ?_)
        case d2 => first | exact fun j u h => h | exact new_list _ _ _
        case d3 => omega
        case d4 => omega
        case d5 => first | omega | (simp; omega)
        intro v7 V7 hown7 hgrow7 _
        have HST8 := hide (ST7.byRow hgrow7 (fun q e => (hown.lt q e).1))
        have HX8 := hide (X7.grown hgrow7 (fun e => by have := (hown.lt _ e.symm).1; omega))
        have HO8 : Hid (V7.ownsRow lo 46 3 v7 (pickS wd ht s fo (S.take (k + 1))).length (flatV (pickS wd ht s fo (S.take (k + 1))))) := hide (by rw [unhide HSN, flatV_app, List.length_append]; exact hown7)
        clear hown7 hgrow7 hown ST7 e0 e1 e2 E6
        go_wp2_with fail
        go_roundw
        case rel => exact ⟨k + 1, by omega, by go_num, HO8, HST8, HX8⟩
        case measure => simp [intOf] <;> omega
    · have hke : k = S.length := by omega
      have HO3 : Hid (wr.ownsRow lo 46 3 u8 (spotsR wd ht s lv fo).length (flatV (spotsR wd ht s lv fo))) := hide (by
        have h := unhide HO
        rw [hke, List.take_length] at h
        rw [unhide HR]
        exact h)
      go_wp2_with fail
      go_ret
      exact ⟨⟨_, rfl, own_lower (unhide HO3) (unhide HST).lw⟩, (unhide HST).bel⟩
end Go.Proofs.Ytmacbegchdjdnaa
