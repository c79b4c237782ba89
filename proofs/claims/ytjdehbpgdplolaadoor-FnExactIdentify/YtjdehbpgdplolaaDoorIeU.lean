/- The program's Identify, walked. -/
import Derived.Test.YtjdehbpgdplolaaDoorIeT
namespace Go.Proofs.YtjdehbpgdplolaaDoor
open Go.RowKit Go.Sort Go.Shelf
set_option linter.unusedVariables false

/-- what is answered, its row beyond B -/
def OutP (w' : World) (B : Nat) (ids : List Int) (cnt code : Int) (e : Ending) : Prop := ∃ v, e = .returned (.agg #[v, .int .i64 cnt, .int .i64 code]) ∧ ((ids = [] ∧ v = .slice none 0 0) ∨ ∃ g, v = .slice (some ⟨g, 0, none⟩) ids.length ids.length ∧ B ≤ g ∧ RowV w' 2 g (ids.length * 1) (numV ids))
theorem res_ident (T : Array Value) (X : World) (b : Nat) (v : Value) (c k : Int) (hT : T.getD 4 undef = .pointer (some ⟨b, 0, none⟩)) (h : IdO X b v c k) : (results Tryd.f9 T).run Tryd.prog X = .ok (.agg #[v, .int .i64 c, .int .i64 k]) X := by
  obtain ⟨h0, h1, h2⟩ := h
  simp only [Array.getD_eq_getD_getElem?] at hT
  simp [results, Tryd.results9, go_sem, hT, h0, h1, h2]
theorem row_farO {W : World} {x g m : Nat} {t : TypeId} {f : Nat → Value} (h : RowV W t g m f) (hne : g ≠ x) (o : Nat) (v : Value) : RowV (W.setCell ⟨x, o, none⟩ v) t g m f := by
  obtain ⟨cur, hc, hr⟩ := h
  exact ⟨cur, by rw [Below.heap_setCell W ⟨x, o, none⟩ v g hne]; exact hc, hr⟩
theorem foldG_le : ∀ (X : List (List Int)) (g : List Int × Nat), (X.foldl stepG g).2 ≤ g.2 + X.length
  | [], g => by simp
  | x :: X, g => by
    have h1 := foldG_le X (stepG g x)
    have h2 : (stepG g x).2 ≤ g.2 + 1 := by
      unfold stepG
      split
      · exact Nat.le_succ _
      · split
        · show 1 ≤ g.2 + 1; omega
        · exact Nat.le_refl _
    rw [List.foldl_cons, List.length_cons]
    omega
theorem greatR_le (L : List St) (S : List D3) (hk : skyB L = true) (hm : S.length ≤ 6) : (greatR L S).2 ≤ 4826809 := by
  have h1 := foldG_le (allN (fitF L S) (L.map (·.1)) S.length []) ([], 0)
  have h2 := allN_len (fitF L S) (L.map (·.1)) (by rw [List.length_map]; exact (sky_ok hk).1) S.length []
  have h3 : 13 ^ S.length ≤ 13 ^ 6 := Nat.pow_le_pow_right (by omega) hm
  have h4 : (13 : Nat) ^ 6 = 4826809 := by decide
  unfold greatR
  rw [h4] at h3
  exact Nat.le_trans h1 (by show 0 + _ ≤ _; omega)
theorem outP_none {w' : World} {B : Nat} {L : List St} {S : List D3} {k : Int} (h : identL L S = [] ∧ identC L S = 0 ∧ identK L S = k) : OutP w' B (identL L S) (identC L S) (identK L S) (.returned (.agg #[.slice none 0 0, .int .i64 0, .int .i64 k])) := by
  rw [h.1, h.2.1, h.2.2]
  exact ⟨_, rfl, .inl ⟨rfl, rfl⟩⟩

set_option maxHeartbeats 4000000 in
set_option maxRecDepth 100000 in
theorem identify_any (L : List St) (S : List D3) (ar br : Option Addr) (cr dr : Nat) (p : Addr) (w : World) (hn : L.length ≤ 1048576) (hm : S.length ≤ 1048576) (hcr : L.length ≤ cr) (hc9 : cr ≤ 9223372036854775807) (hdr : S.length ≤ dr) (hd9 : dr ≤ 9223372036854775807) (hS : Stars w ar L L.length) (hD : Dirs w br S S.length) (hA : ∀ y, ar = some y → y.block < w.heap.size) (hB : ∀ y, br = some y → y.block < w.heap.size) (hE : ErrSky p w) :
    Calls Tryd.prog 9 #[.slice ar L.length cr, .slice br S.length dr] w fun e w' => OutP w' w.heap.size (identL L S) (identC L S) (identK L S) e ∧ Below w.heap.size w w' := by
  have B0 := below1 w (.cells #[.slice none 0 0, .int .i64 0, .int .i64 0] 28)
  by_cases hbig : 400 < L.length ∨ 400 < S.length
  · have HO := hide (ident_big hbig)
    by_cases h4 : 400 < L.length
    · have h4' : (400 : Int) < (L.length : Int) := by omega
      go_enter Tryd.func9, Tryd.ntmps9
      go_wp2
      exact bodyPost_ret (v := .agg #[.slice none 0 0, .int .i64 0, .int .i64 2]) (by simp [results, Tryd.results9, go_sem]) rfl ⟨outP_none (unhide HO), below1 _ _⟩
    · have h4' : ¬ (400 : Int) < (L.length : Int) := by omega
      have h5' : (400 : Int) < (S.length : Int) := by omega
      go_enter Tryd.func9, Tryd.ntmps9
      go_wp2
      exact bodyPost_ret (v := .agg #[.slice none 0 0, .int .i64 0, .int .i64 2]) (by simp [results, Tryd.results9, go_sem]) rfl ⟨outP_none (unhide HO), below1 _ _⟩
  have h4' : ¬ (400 : Int) < (L.length : Int) := by omega
  have h5' : ¬ (400 : Int) < (S.length : Int) := by omega
  have R0 : IdO (w.alloc (.cells #[.slice none 0 0, .int .i64 0, .int .i64 0] 28)) w.heap.size (.slice none 0 0) 0 0 := by refine ⟨?_, ?_, ?_⟩ <;> simp
  have F0 : FreeX (w.alloc (.cells #[.slice none 0 0, .int .i64 0, .int .i64 0] 28)) w.heap.size := fun i => by simp
  have hsz : w.heap.size + 1 ≤ (w.alloc (.cells #[.slice none 0 0, .int .i64 0, .int .i64 0] 28)).heap.size := by simp
  have cS := hide (fun (W : World) h h2 => skyRight_any L ar cr p W hn hcr hc9 h h2)
  have HE := hide (hE.kept B0)
  have cD := hide (fun (W : World) h => spotsRight_any S br dr W hm hdr hd9 h)
  have HB := hide B0
  have HR := hide R0
  have HF := hide F0
  have HS := hide (hS.kept B0)
  have HD := hide (hD.kept B0)
  clear B0 R0 F0 hS hD hE
  go_enter Tryd.func9, Tryd.ntmps9
  go_wp2_with fail
  generalize hW : w.alloc (.cells #[.slice none 0 0, .int .i64 0, .int .i64 0] 28) = W at *
  clear hW
  refine (unhide cS _ (unhide HS) (unhide HE)).mono ?_
  rintro e w1 ⟨rfl, hx⟩
  have B1 := hide (below_call (unhide HB) hx)
  have R1 := hide ((unhide HR).kept hx)
  have F1 := hide ((unhide HF).kept (by omega) hx)
  have S1 := hide ((unhide HS).kept hx)
  have D1 := hide ((unhide HD).kept hx)
  have hsz1 : w.heap.size + 1 ≤ w1.heap.size := Nat.le_trans hsz hx.size
  clear hx HB HR HF HS HD hsz cS
  cases hk : skyB L
  · have HO := hide (ident_no hbig (by unfold idOk; rw [hk]; rfl))
    obtain ⟨r0, r1, r2⟩ := unhide R1
    have f0 := unhide F1 0
    have f1 := unhide F1 1
    have f2 := unhide F1 2
    go_wp2_with fail
    clear r0 r1 r2 f0 f1 f2
    exact bodyPost_ret (v := .agg #[.slice none 0 0, .int .i64 0, .int .i64 1]) (res_ident _ _ w.heap.size _ 0 1 rfl (idO_set (unhide R1) _ _ _)) rfl ⟨outP_none (unhide HO), ((((unhide B1).setCell (Nat.le_refl _) _).setCell (Nat.le_refl _) _).setCell (Nat.le_refl _) _)⟩
  go_wp2_with fail
  refine (unhide cD _ (unhide D1)).mono ?_
  rintro e w2 ⟨rfl, hx⟩
  have B2 := hide (below_call (unhide B1) hx)
  have R2 := hide ((unhide R1).kept hx)
  have F2 := hide ((unhide F1).kept (by omega) hx)
  have S2 := hide ((unhide S1).kept hx)
  have D2 := hide ((unhide D1).kept hx)
  have hsz2 : w.heap.size + 1 ≤ w2.heap.size := Nat.le_trans hsz1 hx.size
  clear hx B1 R1 F1 S1 D1 hsz1 cD
  cases hp : spotsB S
  · have HO := hide (ident_no hbig (by unfold idOk; rw [hp, Bool.and_false]))
    obtain ⟨r0, r1, r2⟩ := unhide R2
    have f0 := unhide F2 0
    have f1 := unhide F2 1
    have f2 := unhide F2 2
    go_wp2_with fail
    clear r0 r1 r2 f0 f1 f2
    exact bodyPost_ret (v := .agg #[.slice none 0 0, .int .i64 0, .int .i64 1]) (res_ident _ _ w.heap.size _ 0 1 rfl (idO_set (unhide R2) _ _ _)) rfl ⟨outP_none (unhide HO), ((((unhide B2).setCell (Nat.le_refl _) _).setCell (Nat.le_refl _) _).setCell (Nat.le_refl _) _)⟩
  have HO := hide (ident_yes hbig (by unfold idOk; rw [hk, hp]; rfl))
  have hs6 : S.length ≤ 6 := (spots_ok hp).1
  have hgb := greatR_le L S hk hs6
  clear hp
  go_wp2_with fail
  refine (namings_any L S ar br cr dr w2).mono ?_
  rintro e w3 ⟨rfl, p1, p2, hx⟩
  have B3 := hide (below_call (unhide B2) hx)
  have R3 := hide ((unhide R2).kept hx)
  have F3 := hide ((unhide F2).kept (by omega) hx)
  have S3 := hide ((unhide S2).kept hx)
  have D3' := hide ((unhide D2).kept hx)
  have hsz3 : w.heap.size + 1 ≤ w3.heap.size := Nat.le_trans hsz2 hx.size
  have cG := hide ((callsIn_wide (n := 0)).1 (greatest_any L S ar br cr dr w2.heap.size (w2.heap.size + 1) w3 hk hs6 p1 p2 (unhide S3) (unhide D3') (fun y e => by have := hA y e; omega) (fun y e => by have := hB y e; omega) 0))
  clear p1 p2 hx B2 R2 F2 S2 D2 hk
  go_wp2_with fail
  refine (unhide cG).mono ?_
  rintro e w4 ⟨⟨v, rfl, hv⟩, hx, hl6⟩
  have B4 := hide (below_call (unhide B3) hx)
  have R4 := hide ((unhide R3).kept hx)
  have F4 := hide ((unhide F3).kept (by omega) hx)
  have hsz4 : w.heap.size + 1 ≤ w4.heap.size := Nat.le_trans hsz3 hx.size
  have HV := hide hv
  clear hx hv B3 R3 F3 S3 D3' cG
  rw [wrap_id (n := ((greatR L S).2 : Int)) (by omega) (by omega)]
  have HG := hide (great_same L S)
  obtain ⟨Gi, hGi⟩ : ∃ G, (greatR L S) = G := ⟨_, rfl⟩
  rw [hGi] at HV HG hgb hl6 ⊢
  clear hGi
  obtain ⟨gi, ga⟩ := Gi
  dsimp only at HV HG hgb hl6 ⊢
  obtain ⟨r0, r1, r2⟩ := unhide R4
  have f0 := unhide F4 0
  have f1 := unhide F4 1
  have f2 := unhide F4 2
  by_cases c0 : ga = 0
  · have c0' : (ga : Int) = 0 := by omega
    go_wp2_with fail
    clear r0 r1 r2 f0 f1 f2
    have h8 : identL L S = [] ∧ identC L S = 0 ∧ identK L S = 6 := ⟨by rw [(unhide HO).1, (unhide HG).1, if_neg (by omega)], by rw [(unhide HO).2.1, (unhide HG).2.1, if_neg (by omega)], by rw [(unhide HO).2.2, (unhide HG).2.2, if_pos c0]⟩
    exact bodyPost_ret (v := .agg #[.slice none 0 0, .int .i64 0, .int .i64 6]) (res_ident _ _ w.heap.size _ 0 6 rfl (idO_set (unhide R4) _ _ _)) rfl ⟨outP_none h8, ((((unhide B4).setCell (Nat.le_refl _) _).setCell (Nat.le_refl _) _).setCell (Nat.le_refl _) _)⟩
  have c0' : ¬ (ga : Int) = 0 := by omega
  by_cases c1 : 1 < ga
  · have c1' : (1 : Int) < (ga : Int) := by omega
    go_wp2_with fail
    clear r0 r1 r2 f0 f1 f2
    have h8 : identL L S = [] ∧ identC L S = 0 ∧ identK L S = 11 := ⟨by rw [(unhide HO).1, (unhide HG).1, if_neg (by omega)], by rw [(unhide HO).2.1, (unhide HG).2.1, if_neg (by omega)], by rw [(unhide HO).2.2, (unhide HG).2.2, if_neg c0, if_pos c1]⟩
    exact bodyPost_ret (v := .agg #[.slice none 0 0, .int .i64 0, .int .i64 11]) (res_ident _ _ w.heap.size _ 0 11 rfl (idO_set (unhide R4) _ _ _)) rfl ⟨outP_none h8, ((((unhide B4).setCell (Nat.le_refl _) _).setCell (Nat.le_refl _) _).setCell (Nat.le_refl _) _)⟩
  have c1' : ¬ (1 : Int) < (ga : Int) := by omega
  have hga : ga = 1 := by omega
  have h8 : identL L S = gi ∧ identC L S = (cntN gi : Int) ∧ identK L S = 0 := ⟨by rw [(unhide HO).1, (unhide HG).1, if_pos hga], by rw [(unhide HO).2.1, (unhide HG).2.1, if_pos hga], by rw [(unhide HO).2.2, (unhide HG).2.2, if_neg c0, if_neg c1]⟩
  obtain ⟨va, vc, rfl, hnm⟩ : ∃ a c, v = .slice a gi.length c ∧ Nums w4 a gi gi.length := by
    rcases unhide HV with ⟨e1, e2⟩ | ⟨g, e, _, hr⟩
    · exact ⟨none, 0, by rw [e1, e2]; rfl, .inl (by rw [e1]; rfl)⟩
    · exact ⟨_, _, e, nums_of hr⟩
  have cN := hide (countNamed_any gi va vc w4 (by omega) hnm)
  clear hnm
  go_wp2_with fail
  refine (unhide cN).mono ?_
  rintro e w5 ⟨rfl, hw5⟩
  subst hw5
  go_wp2_with fail
  clear r0 r1 r2 f0 f1 f2
  rw [h8.1, h8.2.1, h8.2.2]
  refine bodyPost_ret (v := .agg #[.slice va gi.length vc, .int .i64 (cntN gi : Int), .int .i64 0]) (res_ident _ _ w.heap.size _ (cntN gi : Int) 0 rfl (idO_set (unhide R4) _ _ _)) rfl ⟨⟨_, rfl, ?_⟩, ((((unhide B4).setCell (Nat.le_refl _) _).setCell (Nat.le_refl _) _).setCell (Nat.le_refl _) _)⟩
  rcases unhide HV with h | ⟨g, e, hg, hr⟩
  · exact .inl h
  · have hne : g ≠ w.heap.size := by omega
    exact .inr ⟨g, e, by omega, row_farO (row_farO (row_farO hr hne 0 _) hne 1 _) hne 2 _⟩
end Go.Proofs.YtjdehbpgdplolaaDoor
