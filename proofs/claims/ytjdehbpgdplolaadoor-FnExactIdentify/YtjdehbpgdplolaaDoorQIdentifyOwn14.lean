/- Several texts in one: IeU, IeV, IeW, SkyW. -/
import Derived.Deep.RegionHeld
import Derived.Deep.DeepCutAuto
import Derived.Test.YtjdehbpgdplolaaDoorRows
import Derived.Deep.Slices
import Derived.Deep.Strs
import Derived.Stop.LaidErr
import Derived.LaidHandle
import Derived.LaidMore
import Derived.ProofKit
import Derived.Test.YtjdehbpgdplolaaDoorQIdentifyOwn13
import Derived.Test.YtjdehbpgdplolaaDoorQIdentifyOwn8
import Derived.Test.YtjdehbpgdplolaaDoorQIdentifyOwn6
import Derived.Test.YtjdehbpgdplolaaDoorQIdentifyOwn4
namespace Go.Proofs.YtjdehbpgdplolaaDoor
open Go.RowKit Go.Sort Go.Shelf
set_option linter.unusedVariables false

/-- what is answered, its row beyond B -/
def OutP (w' : World) (B : Nat) (ids : List Int) (cnt code : Int) (e : Ending) : Prop := ∃ v, e = .returned (.agg #[v, .int .i64 cnt, .int .i64 code]) ∧ ((ids = [] ∧ v = .slice none 0 0) ∨ ∃ g, v = .slice (some ⟨g, 0, none⟩) ids.length ids.length ∧ B ≤ g ∧ RowV w' 2 g (ids.length * 1) (numV ids))
theorem res_ident (T : Array Value) (X : World) (b : Nat) (v : Value) (c k : Int) (hT : T.getD 4 undef = .pointer (some ⟨b, 0, none⟩)) (h : IdO X b v c k) : (results Tryd.f9 T).run Tryd.prog X = .ok (.agg #[v, .int .i64 c, .int .i64 k]) X := by
  obtain ⟨h0, h1, h2⟩ := h
  simp only [Array.getD_eq_getD_getElem?] at hT
  simp [results, Tryd.results9, go_sem, hT, h0, h1, h2]
theorem row_farO {W : World} {x g m : Nat} {t : TypeId} {f : Nat → Value} (h : RowV W t g m f) (hne : g ≠ x) (o : Nat) (v : Value) : RowV (W.setCell ⟨x, o, none⟩ v) t g m f := by
  obtain ⟨cur, hc, hr⟩ := h
  exact ⟨cur, by rw [Below.heap_setCell W ⟨x, o, none⟩ v g hne]; exact hc, hr⟩
theorem foldG_le : ∀ (X : List (List Int)) (g : List Int × Nat), (X.foldl stepG g).2 ≤ g.2 + X.length
  | [], g => by simp
  | x :: X, g => by
    have h1 := foldG_le X (stepG g x)
    have h2 : (stepG g x).2 ≤ g.2 + 1 := by
      unfold stepG
      split
      · exact Nat.le_succ _
      · split
        · show 1 ≤ g.2 + 1; omega
        · exact Nat.le_refl _
    rw [List.foldl_cons, List.length_cons]
    omega
theorem greatR_le (L : List St) (S : List D3) (hk : skyB L = true) (hm : S.length ≤ 6) : (greatR L S).2 ≤ 4826809 := by
  have h1 := foldG_le (allN (fitF L S) (L.map (·.1)) S.length []) ([], 0)
  have h2 := allN_len (fitF L S) (L.map (·.1)) (by rw [List.length_map]; exact (sky_ok hk).1) S.length []
  have h3 : 13 ^ S.length ≤ 13 ^ 6 := Nat.pow_le_pow_right (by omega) hm
  have h4 : (13 : Nat) ^ 6 = 4826809 := by decide
  unfold greatR
  rw [h4] at h3
  exact Nat.le_trans h1 (by show 0 + _ ≤ _; omega)
theorem outP_none {w' : World} {B : Nat} {L : List St} {S : List D3} {k : Int} (h : identL L S = [] ∧ identC L S = 0 ∧ identK L S = k) : OutP w' B (identL L S) (identC L S) (identK L S) (.returned (.agg #[.slice none 0 0, .int .i64 0, .int .i64 k])) := by
  rw [h.1, h.2.1, h.2.2]
  exact ⟨_, rfl, .inl ⟨rfl, rfl⟩⟩

set_option maxHeartbeats 4000000 in
set_option maxRecDepth 100000 in
theorem identify_any (L : List St) (S : List D3) (ar br : Option Addr) (cr dr : Nat) (p : Addr) (w : World) (hn : L.length ≤ 1048576) (hm : S.length ≤ 1048576) (hcr : L.length ≤ cr) (hc9 : cr ≤ 9223372036854775807) (hdr : S.length ≤ dr) (hd9 : dr ≤ 9223372036854775807) (hS : Stars w ar L L.length) (hD : Dirs w br S S.length) (hA : ∀ y, ar = some y → y.block < w.heap.size) (hB : ∀ y, br = some y → y.block < w.heap.size) (hE : ErrSky p w) :
    Calls Tryd.prog 9 #[.slice ar L.length cr, .slice br S.length dr] w fun e w' => OutP w' w.heap.size (identL L S) (identC L S) (identK L S) e ∧ Below w.heap.size w w' := by
  have B0 := below1 w (.cells #[.slice none 0 0, .int .i64 0, .int .i64 0] 28)
  by_cases hbig : 400 < L.length ∨ 400 < S.length
  · have HO := hide (ident_big hbig)
    by_cases h4 : 400 < L.length
    · have h4' : (400 : Int) < (L.length : Int) := by omega
      go_enter Tryd.func9, Tryd.ntmps9
      go_wp2
      exact bodyPost_ret (v := .agg #[.slice none 0 0, .int .i64 0, .int .i64 2]) (by simp [results, Tryd.results9, go_sem]) rfl ⟨outP_none (unhide HO), below1 _ _⟩
    · have h4' : ¬ (400 : Int) < (L.length : Int) := by omega
      have h5' : (400 : Int) < (S.length : Int) := by omega
      go_enter Tryd.func9, Tryd.ntmps9
      go_wp2
      exact bodyPost_ret (v := .agg #[.slice none 0 0, .int .i64 0, .int .i64 2]) (by simp [results, Tryd.results9, go_sem]) rfl ⟨outP_none (unhide HO), below1 _ _⟩
  have h4' : ¬ (400 : Int) < (L.length : Int) := by omega
  have h5' : ¬ (400 : Int) < (S.length : Int) := by omega
  have R0 : IdO (w.alloc (.cells #[.slice none 0 0, .int .i64 0, .int .i64 0] 28)) w.heap.size (.slice none 0 0) 0 0 := by refine ⟨?_, ?_, ?_⟩ <;> simp
  have F0 : FreeX (w.alloc (.cells #[.slice none 0 0, .int .i64 0, .int .i64 0] 28)) w.heap.size := fun i => by simp
  have hsz : w.heap.size + 1 ≤ (w.alloc (.cells #[.slice none 0 0, .int .i64 0, .int .i64 0] 28)).heap.size := by simp
  have cS := hide (fun (W : World) h h2 => skyRight_any L ar cr p W hn hcr hc9 h h2)
  have HE := hide (hE.kept B0)
  have cD := hide (fun (W : World) h => spotsRight_any S br dr W hm hdr hd9 h)
  have HB := hide B0
  have HR := hide R0
  have HF := hide F0
  have HS := hide (hS.kept B0)
  have HD := hide (hD.kept B0)
  clear B0 R0 F0 hS hD hE
  go_enter Tryd.func9, Tryd.ntmps9
  go_wp2_with fail
  generalize hW : w.alloc (.cells #[.slice none 0 0, .int .i64 0, .int .i64 0] 28) = W at *
  clear hW
  refine (unhide cS _ (unhide HS) (unhide HE)).mono ?_
  rintro e w1 ⟨rfl, hx⟩
  have B1 := hide (below_call (unhide HB) hx)
  have R1 := hide ((unhide HR).kept hx)
  have F1 := hide ((unhide HF).kept (by omega) hx)
  have S1 := hide ((unhide HS).kept hx)
  have D1 := hide ((unhide HD).kept hx)
  have hsz1 : w.heap.size + 1 ≤ w1.heap.size := Nat.le_trans hsz hx.size
  clear hx HB HR HF HS HD hsz cS
  cases hk : skyB L
  · have HO := hide (ident_no hbig (by unfold idOk; rw [hk]; rfl))
    obtain ⟨r0, r1, r2⟩ := unhide R1
    have f0 := unhide F1 0
    have f1 := unhide F1 1
    have f2 := unhide F1 2
    go_wp2_with fail
    clear r0 r1 r2 f0 f1 f2
    exact bodyPost_ret (v := .agg #[.slice none 0 0, .int .i64 0, .int .i64 1]) (res_ident _ _ w.heap.size _ 0 1 rfl (idO_set (unhide R1) _ _ _)) rfl ⟨outP_none (unhide HO), ((((unhide B1).setCell (Nat.le_refl _) _).setCell (Nat.le_refl _) _).setCell (Nat.le_refl _) _)⟩
  go_wp2_with fail
  refine (unhide cD _ (unhide D1)).mono ?_
  rintro e w2 ⟨rfl, hx⟩
  have B2 := hide (below_call (unhide B1) hx)
  have R2 := hide ((unhide R1).kept hx)
  have F2 := hide ((unhide F1).kept (by omega) hx)
  have S2 := hide ((unhide S1).kept hx)
  have D2 := hide ((unhide D1).kept hx)
  have hsz2 : w.heap.size + 1 ≤ w2.heap.size := Nat.le_trans hsz1 hx.size
  clear hx B1 R1 F1 S1 D1 hsz1 cD
  cases hp : spotsB S
  · have HO := hide (ident_no hbig (by unfold idOk; rw [hp, Bool.and_false]))
    obtain ⟨r0, r1, r2⟩ := unhide R2
    have f0 := unhide F2 0
    have f1 := unhide F2 1
    have f2 := unhide F2 2
    go_wp2_with fail
    clear r0 r1 r2 f0 f1 f2
    exact bodyPost_ret (v := .agg #[.slice none 0 0, .int .i64 0, .int .i64 1]) (res_ident _ _ w.heap.size _ 0 1 rfl (idO_set (unhide R2) _ _ _)) rfl ⟨outP_none (unhide HO), ((((unhide B2).setCell (Nat.le_refl _) _).setCell (Nat.le_refl _) _).setCell (Nat.le_refl _) _)⟩
  have HO := hide (ident_yes hbig (by unfold idOk; rw [hk, hp]; rfl))
  have hs6 : S.length ≤ 6 := (spots_ok hp).1
  have hgb := greatR_le L S hk hs6
  clear hp
  go_wp2_with fail
  refine (namings_any L S ar br cr dr w2).mono ?_
  rintro e w3 ⟨rfl, p1, p2, hx⟩
  have B3 := hide (below_call (unhide B2) hx)
  have R3 := hide ((unhide R2).kept hx)
  have F3 := hide ((unhide F2).kept (by omega) hx)
  have S3 := hide ((unhide S2).kept hx)
  have D3' := hide ((unhide D2).kept hx)
  have hsz3 : w.heap.size + 1 ≤ w3.heap.size := Nat.le_trans hsz2 hx.size
  have cG := hide ((callsIn_wide (n := 0)).1 (greatest_any L S ar br cr dr w2.heap.size (w2.heap.size + 1) w3 hk hs6 p1 p2 (unhide S3) (unhide D3') (fun y e => by have := hA y e; omega) (fun y e => by have := hB y e; omega) 0))
  clear p1 p2 hx B2 R2 F2 S2 D2 hk
  go_wp2_with fail
  refine (unhide cG).mono ?_
  rintro e w4 ⟨⟨v, rfl, hv⟩, hx, hl6⟩
  have B4 := hide (below_call (unhide B3) hx)
  have R4 := hide ((unhide R3).kept hx)
  have F4 := hide ((unhide F3).kept (by omega) hx)
  have hsz4 : w.heap.size + 1 ≤ w4.heap.size := Nat.le_trans hsz3 hx.size
  have HV := hide hv
  clear hx hv B3 R3 F3 S3 D3' cG
  rw [wrap_id (n := ((greatR L S).2 : Int)) (by omega) (by omega)]
  have HG := hide (great_same L S)
  obtain ⟨Gi, hGi⟩ : ∃ G, (greatR L S) = G := ⟨_, rfl⟩
  rw [hGi] at HV HG hgb hl6 ⊢
  clear hGi
  obtain ⟨gi, ga⟩ := Gi
  dsimp only at HV HG hgb hl6 ⊢
  obtain ⟨r0, r1, r2⟩ := unhide R4
  have f0 := unhide F4 0
  have f1 := unhide F4 1
  have f2 := unhide F4 2
  by_cases c0 : ga = 0
  · have c0' : (ga : Int) = 0 := by omega
    go_wp2_with fail
    clear r0 r1 r2 f0 f1 f2
    have h8 : identL L S = [] ∧ identC L S = 0 ∧ identK L S = 6 := ⟨by rw [(unhide HO).1, (unhide HG).1, if_neg (by omega)], by rw [(unhide HO).2.1, (unhide HG).2.1, if_neg (by omega)], by rw [(unhide HO).2.2, (unhide HG).2.2, if_pos c0]⟩
    exact bodyPost_ret (v := .agg #[.slice none 0 0, .int .i64 0, .int .i64 6]) (res_ident _ _ w.heap.size _ 0 6 rfl (idO_set (unhide R4) _ _ _)) rfl ⟨outP_none h8, ((((unhide B4).setCell (Nat.le_refl _) _).setCell (Nat.le_refl _) _).setCell (Nat.le_refl _) _)⟩
  have c0' : ¬ (ga : Int) = 0 := by omega
  by_cases c1 : 1 < ga
  · have c1' : (1 : Int) < (ga : Int) := by omega
    go_wp2_with fail
    clear r0 r1 r2 f0 f1 f2
    have h8 : identL L S = [] ∧ identC L S = 0 ∧ identK L S = 11 := ⟨by rw [(unhide HO).1, (unhide HG).1, if_neg (by omega)], by rw [(unhide HO).2.1, (unhide HG).2.1, if_neg (by omega)], by rw [(unhide HO).2.2, (unhide HG).2.2, if_neg c0, if_pos c1]⟩
    exact bodyPost_ret (v := .agg #[.slice none 0 0, .int .i64 0, .int .i64 11]) (res_ident _ _ w.heap.size _ 0 11 rfl (idO_set (unhide R4) _ _ _)) rfl ⟨outP_none h8, ((((unhide B4).setCell (Nat.le_refl _) _).setCell (Nat.le_refl _) _).setCell (Nat.le_refl _) _)⟩
  have c1' : ¬ (1 : Int) < (ga : Int) := by omega
  have hga : ga = 1 := by omega
  have h8 : identL L S = gi ∧ identC L S = (cntN gi : Int) ∧ identK L S = 0 := ⟨by rw [(unhide HO).1, (unhide HG).1, if_pos hga], by rw [(unhide HO).2.1, (unhide HG).2.1, if_pos hga], by rw [(unhide HO).2.2, (unhide HG).2.2, if_neg c0, if_neg c1]⟩
  obtain ⟨va, vc, rfl, hnm⟩ : ∃ a c, v = .slice a gi.length c ∧ Nums w4 a gi gi.length := by
    rcases unhide HV with ⟨e1, e2⟩ | ⟨g, e, _, hr⟩
    · exact ⟨none, 0, by rw [e1, e2]; rfl, .inl (by rw [e1]; rfl)⟩
    · exact ⟨_, _, e, nums_of hr⟩
  have cN := hide (countNamed_any gi va vc w4 (by omega) hnm)
  clear hnm
  go_wp2_with fail
  refine (unhide cN).mono ?_
  rintro e w5 ⟨rfl, hw5⟩
  subst hw5
  go_wp2_with fail
  clear r0 r1 r2 f0 f1 f2
  rw [h8.1, h8.2.1, h8.2.2]
  refine bodyPost_ret (v := .agg #[.slice va gi.length vc, .int .i64 (cntN gi : Int), .int .i64 0]) (res_ident _ _ w.heap.size _ (cntN gi : Int) 0 rfl (idO_set (unhide R4) _ _ _)) rfl ⟨⟨_, rfl, ?_⟩, ((((unhide B4).setCell (Nat.le_refl _) _).setCell (Nat.le_refl _) _).setCell (Nat.le_refl _) _)⟩
  rcases unhide HV with h | ⟨g, e, hg, hr⟩
  · exact .inl h
  · have hne : g ≠ w.heap.size := by omega
    exact .inr ⟨g, e, by omega, row_farO (row_farO (row_farO hr hne 0 _) hne 1 _) hne 2 _⟩
end Go.Proofs.YtjdehbpgdplolaaDoor

namespace Go.Proofs.YtjdehbpgdplolaaDoor
open Go.RowKit Go.Sort
set_option linter.unusedVariables false

theorem allN_long (F : List Int → Int → Bool) (A : List Int) : ∀ (r : Nat) (ids l : List Int), l ∈ allN F A r ids → l.length = ids.length + r
  | 0, ids, l, h => by
    simp only [allN, List.mem_singleton] at h
    subst h
    omega
  | r + 1, ids, l, h => by
    simp only [allN, List.mem_append, List.mem_flatMap] at h
    rcases h with ⟨a, _, h⟩ | h
    · have := allN_long F A r _ l h
      rw [List.length_append] at this
      simp at this
      omega
    · have := allN_long F A r _ l h
      rw [List.length_append] at this
      simp at this
      omega
theorem foldG_long (m : Nat) : ∀ (X : List (List Int)) (g : List Int × Nat), (∀ l ∈ X, l.length ≤ m) → g.1.length ≤ m → (X.foldl stepG g).1.length ≤ m
  | [], g, _, h => h
  | x :: X, g, hX, h => by
    rw [List.foldl_cons]
    refine foldG_long m X _ (fun l hl => hX l (List.mem_cons_of_mem _ hl)) ?_
    unfold stepG
    split
    · exact h
    · split
      · exact hX x (List.mem_cons_self ..)
      · exact h
theorem identL_len (L : List St) (S : List D3) : (identL L S).length ≤ 6 := by
  by_cases hb : 400 < L.length ∨ 400 < S.length
  · rw [(ident_big hb).1]; simp
  · cases ho : idOk L S
    · rw [(ident_no hb ho).1]; simp
    · rw [(ident_yes hb ho).1, (great_same L S).1]
      have hp : spotsB S = true := by unfold idOk at ho; simp at ho; exact ho.2
      have h6 := (spots_ok hp).1
      split
      · refine Nat.le_trans (foldG_long S.length _ _ (fun l hl => ?_) (by simp)) h6
        have := allN_long _ _ _ _ _ hl
        simp at this
        omega
      · simp
theorem PRow.sliceI {w : World} {t : TypeId} {c lo hi n : Nat} {v : Value} {f : Nat → Value} (h : PRow w t c lo hi n v f) : ∃ a k, v = .slice a n k := by
  rcases h with ⟨rfl, a, k, rfl⟩ | ⟨g, k, rfl, _⟩
  · exact ⟨a, k, rfl⟩
  · exact ⟨_, k, rfl⟩
theorem prow_outI {w' : World} {B : Nat} {ids : List Int} {cnt code : Int} {e : Ending} (h : OutI w' B ids cnt code e) : ∃ a k, e = .returned (.agg #[.slice a ids.length k, .int .i64 cnt, .int .i64 code]) ∧ PRow w' 2 1 B w'.heap.size ids.length (.slice a ids.length k) (valInt64S (fun j => ids.getD j 0) (fun _ => false)) := by
  obtain ⟨v, he, ho⟩ := h
  have hp : PRow w' 2 1 B w'.heap.size ids.length v (valInt64S (fun j => ids.getD j 0) (fun _ => false)) := PRow.of ho (fun j h => by
    have h' : j < ids.length := by omega
    show (ids.map (fun z => Value.int .i64 z))[j]? = some (.int .i64 (ids.getD j 0))
    rw [List.getElem?_map, List.getElem?_eq_getElem h', List.getD_eq_getElem?_getD, List.getElem?_eq_getElem h']
    rfl)
  obtain ⟨a, k, rfl⟩ := hp.sliceI
  exact ⟨a, k, he, hp⟩
theorem prow_outP {w' : World} {B : Nat} {ids : List Int} {cnt code : Int} {e : Ending} (h : OutP w' B ids cnt code e) : ∃ a k, e = .returned (.agg #[.slice a ids.length k, .int .i64 cnt, .int .i64 code]) ∧ PRow w' 2 1 B w'.heap.size ids.length (.slice a ids.length k) (valInt64S (fun j => ids.getD j 0) (fun _ => false)) := by
  obtain ⟨v, he, ho⟩ := h
  rcases ho with ⟨h0, rfl⟩ | ⟨g, rfl, hg, hr⟩
  · exact ⟨none, 0, by rw [he, h0]; rfl, .inl ⟨by rw [h0]; rfl, none, 0, by rw [h0]; rfl⟩⟩
  · exact ⟨_, _, he, .inr ⟨g, _, rfl, hg, hr.lt, hr⟩⟩
set_option maxHeartbeats 1000000 in
set_option maxRecDepth 100000 in
theorem eqIdentOut_any (n lo hi lo' hi' : Nat) (v v' : Value) (cnt code : Int) (fI : Nat → Int) (fB : Nat → Bool) (w : World) (hn : n ≤ 1048576) (h : PRow w 2 1 lo hi n v (valInt64S fI fB)) (h' : PRow w 2 1 lo' hi' n v' (valInt64S fI fB)) :
    Calls Tryd.prog 10 #[.agg #[v, .int .i64 cnt, .int .i64 code], .agg #[v', .int .i64 cnt, .int .i64 code]] w fun e w' => e = .returned (.bool true) ∧ Below w.heap.size w w' := by
  obtain ⟨a, k, rfl⟩ := h.sliceI
  obtain ⟨a', k', rfl⟩ := h'.sliceI
  have B1 := below2 w (.cells #[.slice a n k, .int .i64 cnt, .int .i64 code] 28) (.cells #[.slice a' n k', .int .i64 cnt, .int .i64 code] 28)
  have O1 := (blk_new w [.slice a n k, .int .i64 cnt, .int .i64 code] 28).alloc (.cells #[.slice a' n k', .int .i64 cnt, .int .i64 code] 28)
  have O2 := blk_new (w.alloc (.cells #[.slice a n k, .int .i64 cnt, .int .i64 code] 28)) [.slice a' n k', .int .i64 cnt, .int .i64 code] 28
  have e1 : (w.alloc (.cells #[.slice a n k, .int .i64 cnt, .int .i64 code] 28)).heap.size = w.heap.size + 1 := by simp
  rw [e1] at O2
  clear e1
  go_enter Tryd.func10, Tryd.ntmps10
  go_wp2_with fail
  refine (eqInt64S_any n lo hi lo' hi' _ _ fI fB _ hn (h.kept B1) (h'.kept B1)).mono ?_
  rintro e w1 ⟨rfl, hx⟩
  have p1 := (O1.kept hx).cell 1 _ rfl
  have q1 := (O2.kept hx).cell 1 _ rfl
  have p2 := (O1.kept hx).cell 2 _ rfl
  have q2 := (O2.kept hx).cell 2 _ rfl
  have B2 := below_call B1 hx
  clear hx B1 O1 O2
  go_wp2_with fail
  go_ret
  exact ⟨rfl, B2⟩
set_option maxHeartbeats 1000000 in
set_option maxRecDepth 100000 in
theorem markIdentOut_any (n lo hi : Nat) (v : Value) (cnt code : Int) (f : Nat → Value) (w : World) (hn : n ≤ 1048576) (hb : hi ≤ w.heap.size) (h : PRow w 2 1 lo hi n v f) :
    Calls Tryd.prog 15 #[.agg #[v, .int .i64 cnt, .int .i64 code], .int .i64 1] w fun e w' => e = .returned (.int .i64 (1 + (n : Int))) ∧ PRow w' 2 1 lo hi n v markInt64SV ∧ ∃ w1, Below w.heap.size w w1 ∧ Apart lo hi w1 w' := by
  obtain ⟨a, k, rfl⟩ := h.sliceI
  have B1 := below1 w (.cells #[.slice a n k, .int .i64 cnt, .int .i64 code] 28)
  go_enter Tryd.func15, Tryd.ntmps15
  go_wp2_with fail
  refine (markInt64S_any n lo hi _ f _ hn (h.kept B1)).mono ?_
  rintro e w1 ⟨rfl, hp, ha⟩
  go_wp2_with fail
  go_ret
  exact ⟨rfl, hp, _, B1, ha⟩
set_option maxHeartbeats 1000000 in
set_option maxRecDepth 100000 in
theorem heldIdentOut_any (n lo hi : Nat) (v : Value) (cnt code : Int) (w : World) (hn : n ≤ 1048576) (h : PRow w 2 1 lo hi n v markInt64SV) :
    Calls Tryd.prog 16 #[.agg #[v, .int .i64 cnt, .int .i64 code], .int .i64 1] w fun e w' => e = .returned (.int .i64 (1 + (n : Int))) ∧ Below w.heap.size w w' := by
  obtain ⟨a, k, rfl⟩ := h.sliceI
  have B1 := below1 w (.cells #[.slice a n k, .int .i64 cnt, .int .i64 code] 28)
  have cH := hide (heldInt64S_any n lo hi _ _ hn (h.kept B1))
  obtain ⟨K, hK⟩ : ∃ K : Int, K = 1 + (n : Int) := ⟨_, rfl⟩
  rw [← hK] at cH ⊢
  have hk0 : ¬ K < 0 := by omega
  clear hK
  go_enter Tryd.func16, Tryd.ntmps16
  go_wp2_with fail
  refine (unhide cH).mono ?_
  rintro e w1 ⟨rfl, rfl⟩
  go_wp2_with fail
  go_ret
  exact ⟨rfl, B1⟩
end Go.Proofs.YtjdehbpgdplolaaDoor

namespace Go.Proofs.YtjdehbpgdplolaaDoor
open Go.RowKit Go.Sort
set_option linter.unusedVariables false

theorem Blk.apartI {w w' : World} {b lo hi : Nat} {cs : List Value} {t : TypeId} (h : Blk w b cs t) (ha : Apart lo hi w w') (hd : b < lo ∨ hi ≤ b) : Blk w' b cs t := (ha.block b h.lt hd).trans h
theorem OwnD.apartI {w w' : World} {lo hi b n k : Nat} {L : List D3} (h : OwnD w b n L k) (ha : Apart lo hi w w') (hb : b < lo ∨ hi ≤ b) : OwnD w' b n L k := by
  have e := ha.block b h.lt hb
  obtain ⟨cur, hc, r⟩ := h
  exact ⟨cur, by rw [e]; exact hc, r⟩
theorem belowI {B lo hi : Nat} {w w1 w2 : World} (h : Below B w w1) (ha : Apart lo hi w1 w2) (hB : B ≤ lo) (hs : B ≤ w1.heap.size) : Below B w w2 :=
  h.trans ⟨ha.os, ha.tape, ha.output, ha.size, fun k hk => ha.block k (by omega) (.inl (by omega))⟩
theorem ownS_addr {w : World} {b : Nat} (h : b < w.heap.size) : ∀ y, (some (⟨b, 0, none⟩ : Addr)) = some y → y.block < w.heap.size := by
  intro y e
  rw [← Option.some.inj e]
  exact h
set_option maxHeartbeats 16000000 in
set_option maxRecDepth 100000 in
theorem lawIdentify (L : List St) (S : List D3) (ar br : Option Addr) (cr dr : Nat) (p : Addr) (w : World) (hn : L.length ≤ 1048576) (hm : (S.length : Int) ≤ 1048576 - (L.length : Int)) (hS : Stars w ar L L.length) (hD : Dirs w br S S.length) (hE : ErrSky p w) :
    Calls Tryd.prog 3 #[.slice ar L.length cr, .slice br S.length dr] w fun e w' => e = .returned (.bool true) ∧ Below w.heap.size w w' := by
  have HS := hide hS
  have HD := hide hD
  have HE := hide hE
  have hm2 : S.length ≤ 1048576 := by omega
  clear hS hD hE
  have hm8 : 1048576 ≤ maxLen := by decide +kernel
  have cT := hide (fun W hW => toStarS_any L ar cr W hn hW)
  have cD := hide (fun W hW => toVecS_any S S.length br dr W hm2 hW)
  obtain ⟨k, cnt, code, fI, hk, cS, cR⟩ : ∃ (k : Nat) (cnt code : Int) (fI : Nat → Int), k ≤ 6 ∧ Hid (∀ (W : World) (q q' : Nat), q < W.heap.size → q' < W.heap.size → Stars W (some ⟨q, 0, none⟩) L L.length → Dirs W (some ⟨q', 0, none⟩) S S.length → Calls Tryd.prog 6 #[.slice (some ⟨q, 0, none⟩) L.length L.length, .slice (some ⟨q', 0, none⟩) S.length S.length] W fun e w' => ∃ a kk, e = .returned (.agg #[.slice a k kk, .int .i64 cnt, .int .i64 code]) ∧ PRow w' 2 1 W.heap.size w'.heap.size k (.slice a k kk) (valInt64S fI (fun _ => false)) ∧ Below W.heap.size W w')
      ∧ Hid (∀ (W : World) (q q' : Nat), q < W.heap.size → q' < W.heap.size → Stars W (some ⟨q, 0, none⟩) L L.length → Dirs W (some ⟨q', 0, none⟩) S S.length → ErrSky p W → Calls Tryd.prog 9 #[.slice (some ⟨q, 0, none⟩) L.length L.length, .slice (some ⟨q', 0, none⟩) S.length S.length] W fun e w' => ∃ a kk, e = .returned (.agg #[.slice a k kk, .int .i64 cnt, .int .i64 code]) ∧ PRow w' 2 1 W.heap.size w'.heap.size k (.slice a k kk) (valInt64S fI (fun _ => false)) ∧ Below W.heap.size W w') := by
    refine ⟨(identL L S).length, identC L S, identK L S, fun j => (identL L S).getD j 0, identL_len L S, hide (fun W q q' g1 g2 h1 h2 => (specIdentify_any L S _ _ _ _ W hn hm2 (Nat.le_refl _) (by omega) h1 h2 (ownS_addr g1) (ownS_addr g2)).mono fun e w' h => ?_), hide (fun W q q' g1 g2 h1 h2 h3 => (identify_any L S _ _ _ _ p W hn hm2 (Nat.le_refl _) (by omega) (Nat.le_refl _) (by omega) h1 h2 (ownS_addr g1) (ownS_addr g2) h3).mono fun e w' h => ?_)⟩
    · obtain ⟨a, kk, he, hp⟩ := prow_outI h.1
      exact ⟨a, kk, he, hp, h.2⟩
    · obtain ⟨a, kk, he, hp⟩ := prow_outP h.1
      exact ⟨a, kk, he, hp, h.2⟩
  generalize S.length = m at *
  generalize L.length = n at *
  have h0 : ¬ (1048576 : Int) - (n : Int) < 0 := by omega
  have h1 : ¬ (1048576 : Int) - (n : Int) - (m : Int) < 0 := by omega
  go_enter Tryd.func3, Tryd.ntmps3
  go_wp2_with fail
  refine (szStarS_any ar n cr _ hn).mono ?_
  rintro e w1 ⟨rfl, hw⟩
  rw [hw]
  clear hw w1
  go_wp2_with fail
  refine (szVecS_any br m dr (1048576 - (n : Int)) _ (by omega) (by omega) (by omega)).mono ?_
  rintro e w1 ⟨rfl, hw⟩
  rw [hw]
  clear hw w1
  go_wp2_with fail
  refine (unhide cT _ (unhide HS)).mono ?_
  rintro e v1 ⟨rfl, ho, hx⟩
  have OS := hide ho
  have V1 := hide hx
  have hbw : w.heap.size < v1.heap.size := ho.lt
  clear ho hx
  go_wp2_with fail
  refine (unhide cD _ ((unhide HD).kept (unhide V1))).mono ?_
  rintro e v2 ⟨rfl, ho, hx⟩
  have OD := hide ho
  have OS2 := hide ((unhide OS).kept hx)
  have V2 := hide (below_call (unhide V1) hx)
  clear ho hx OS V1
  go_wp2_with fail
  refine (unhide cS _ _ _ (unhide OS2).lt (unhide OD).lt (unhide OS2).stars (unhide OD).dirs).mono ?_
  rintro e wc ⟨a4, k4, rfl, hp, hx⟩
  have Z := below1 wc (.cells #[.slice a4 k k4, .int .i64 cnt, .int .i64 code] 28)
  have S1 := hide (hp.kept Z)
  have W1 := hide (blk_new wc [.slice a4 k k4, .int .i64 cnt, .int .i64 code] 28)
  have B1 := hide (below_call (below_call (unhide V2) hx) Z)
  have l1 := Z.size
  clear hx hp OS2 OD V2 Z
  go_wp2_with fail
  generalize wc.alloc (.cells #[.slice a4 k k4, .int .i64 cnt, .int .i64 code] 28) = wc1 at B1 W1 S1 l1 ⊢
  have lw : wc.heap.size < wc1.heap.size := (unhide W1).lt
  generalize wc.heap.size = wb at *
  clear wc
  refine (unhide cT _ ((unhide HS).kept (unhide B1))).mono ?_
  rintro e w3 ⟨rfl, ho, hx⟩
  have O3 := hide ho
  have S3 := hide ((unhide S1).kept hx)
  have W3 := hide ((unhide W1).kept hx)
  have B3 := hide (below_call (unhide B1) hx)
  have l3 : wc1.heap.size < w3.heap.size := ho.lt
  have l3w : w.heap.size ≤ wc1.heap.size := (unhide B1).size
  generalize wc1.heap.size = xb at *
  clear ho hx
  clear W1 B1 S1
  go_wp2_with fail
  refine (unhide cD _ ((unhide HD).kept (unhide B3))).mono ?_
  rintro e w4 ⟨rfl, ho, hx⟩
  have D4 := hide ho
  have S4 := hide ((unhide S3).kept hx)
  have W4 := hide ((unhide W3).kept hx)
  have O4 := hide ((unhide O3).kept hx)
  have B4 := hide (below_call (unhide B3) hx)
  have l4 : w3.heap.size < w4.heap.size := ho.lt
  generalize w3.heap.size = yb at *
  clear ho hx
  clear W3 O3 B3 S3
  go_wp2_with fail
  refine (unhide cR _ _ _ (unhide O4).lt (unhide D4).lt (unhide O4).stars (unhide D4).dirs ((unhide HE).kept (unhide B4))).mono ?_
  rintro e w6 ⟨a7, k7, rfl, hp, hx⟩
  have Z := below1 w6 (.cells #[.slice a7 k k7, .int .i64 cnt, .int .i64 code] 28)
  have G7 := hide (hp.kept Z)
  have Q7 := hide (blk_new w6 [.slice a7 k k7, .int .i64 cnt, .int .i64 code] 28)
  have S7 := hide (((unhide S4).kept hx).kept Z)
  have W7 := hide (((unhide W4).kept hx).kept Z)
  have O7 := hide (((unhide O4).kept hx).kept Z)
  have D7 := hide (((unhide D4).kept hx).kept Z)
  have B7 := hide (below_call (below_call (unhide B4) hx) Z)
  have l6 := hx.size
  clear hx hp Z
  clear W4 O4 D4 B4 S4
  generalize w4.heap.size = lo at *
  have p0 := (unhide W7).cell 0 _ rfl
  have p1 := (unhide W7).cell 1 _ rfl
  have p2 := (unhide W7).cell 2 _ rfl
  have q0 := (unhide Q7).cell 0 _ rfl
  have q1 := (unhide Q7).cell 1 _ rfl
  have q2 := (unhide Q7).cell 2 _ rfl
  go_wp2_with fail
  clear p0 p1 p2 q0 q1 q2
  generalize w6.alloc (.cells #[.slice a7 k k7, .int .i64 cnt, .int .i64 code] 28) = w7 at G7 Q7 S7 W7 O7 D7 B7 ⊢
  have l7 : w6.heap.size < w7.heap.size := (unhide Q7).lt
  generalize w6.heap.size = hi at *
  clear w6
  refine (eqIdentOut_any k _ _ _ _ _ _ cnt code fI _ _ (by omega) (unhide G7) (unhide S7)).mono ?_
  rintro e w8 ⟨rfl, hx⟩
  have l8 := hx.size
  have S8 := hide ((unhide S7).kept hx)
  have W8 := hide ((unhide W7).kept hx)
  have O8 := hide ((unhide O7).kept hx)
  have D8 := hide ((unhide D7).kept hx)
  have G8 := hide ((unhide G7).kept hx)
  have Q8 := hide ((unhide Q7).kept hx)
  have B8 := hide (below_call (unhide B7) hx)
  clear hx
  clear S7 W7 O7 D7 G7 Q7 B7
  go_wp2_with fail
  refine (unhide cT _ ((unhide HS).kept (unhide B8))).mono ?_
  rintro e w9 ⟨rfl, ho, hx⟩
  have OT := hide ho
  have l9 := hx.size
  have S9 := hide ((unhide S8).kept hx)
  have W9 := hide ((unhide W8).kept hx)
  have O9 := hide ((unhide O8).kept hx)
  have D9 := hide ((unhide D8).kept hx)
  have G9 := hide ((unhide G8).kept hx)
  have Q9 := hide ((unhide Q8).kept hx)
  have B9 := hide (below_call (unhide B8) hx)
  generalize w8.heap.size = xb2 at *
  clear ho hx
  clear S8 W8 O8 D8 G8 Q8 B8
  go_wp2_with fail
  refine (eqStarS_same L n (some ⟨xb, 0, none⟩) (some ⟨xb2, 0, none⟩) n n _ hn (unhide O9).stars (unhide OT).stars).mono ?_
  rintro e wa ⟨rfl, hx⟩
  have la := hx.size
  have Sa := hide ((unhide S9).kept hx)
  have Wa := hide ((unhide W9).kept hx)
  have Oa := hide ((unhide O9).kept hx)
  have Da := hide ((unhide D9).kept hx)
  have Ga := hide ((unhide G9).kept hx)
  have Qa := hide ((unhide Q9).kept hx)
  have Ba := hide (below_call (unhide B9) hx)
  clear hx OT
  clear S9 W9 O9 D9 G9 Q9 B9
  go_wp2_with fail
  refine (unhide cD _ ((unhide HD).kept (unhide Ba))).mono ?_
  rintro e wb' ⟨rfl, ho, hx⟩
  have OT := hide ho
  have lb := hx.size
  have Sb := hide ((unhide Sa).kept hx)
  have Wb := hide ((unhide Wa).kept hx)
  have Ob := hide ((unhide Oa).kept hx)
  have Db := hide ((unhide Da).kept hx)
  have Gb := hide ((unhide Ga).kept hx)
  have Qb := hide ((unhide Qa).kept hx)
  have Bb := hide (below_call (unhide Ba) hx)
  generalize wa.heap.size = yb2 at *
  clear ho hx
  clear Sa Wa Oa Da Ga Qa Ba
  go_wp2_with fail
  refine (eqVecS_same S m (some ⟨yb, 0, none⟩) (some ⟨yb2, 0, none⟩) m m _ hm2 (unhide Db).dirs (unhide OT).dirs).mono ?_
  rintro e wc ⟨rfl, hx⟩
  have lc := hx.size
  have Sc := hide ((unhide Sb).kept hx)
  have Wc := hide ((unhide Wb).kept hx)
  have Oc := hide ((unhide Ob).kept hx)
  have Dc := hide ((unhide Db).kept hx)
  have Gc := hide ((unhide Gb).kept hx)
  have Qc := hide ((unhide Qb).kept hx)
  have Bc := hide (below_call (unhide Bb) hx)
  clear hx OT
  clear Sb Wb Ob Db Gb Qb Bb
  go_wp2_with fail
  obtain ⟨fs, hfs⟩ := rowOfStars (unhide Oc)
  refine (markStarS_any n n xb fs _ hn hfs).mono ?_
  rintro e wd ⟨rfl, _, hg⟩
  have ha := Apart.of (lo := xb) (hi := xb + 1) hg (Nat.le_refl _) (by omega)
  have ld := ha.size
  have Gd := hide ((unhide Gc).apart ha (by omega))
  have Qd := hide ((unhide Qc).apartI ha (by omega))
  have Dd := hide ((unhide Dc).apartI ha (by omega))
  have Sd := hide ((unhide Sc).apart ha (by omega))
  have Wd := hide ((unhide Wc).apartI ha (by omega))
  have Bd := hide (belowI (unhide Bc) ha (by omega) (by omega))
  clear hg ha hfs
  clear Sc Wc Oc Dc Gc Qc Bc
  go_wp2_with fail
  obtain ⟨fv, hfv⟩ := rowOfDirs (unhide Dd)
  refine (markVecS_from m m yb (1 + (n : Int) * 4) fv _ hm2 (by omega) (by omega) hfv).mono ?_
  rintro e we ⟨rfl, hg⟩
  have ha := Apart.of (lo := yb) (hi := yb + 1) hg (Nat.le_refl _) (by omega)
  have le := ha.size
  have Ge := hide ((unhide Gd).apart ha (by omega))
  have Qe := hide ((unhide Qd).apartI ha (by omega))
  have Se := hide ((unhide Sd).apart ha (by omega))
  have We := hide ((unhide Wd).apartI ha (by omega))
  have Be := hide (belowI (unhide Bd) ha (by omega) (by omega))
  clear hg ha hfv
  clear Sd Wd Dd Gd Qd Bd
  have hk0 : ¬ (1 + (n : Int) * 4 + (m : Int) * 3) < 0 := by omega
  have hk1 : decide ((1 + (n : Int) * 4 + (m : Int) * 3) < 0) = false := by simp; omega
  have p0 := (unhide We).cell 0 _ rfl
  have p1 := (unhide We).cell 1 _ rfl
  have p2 := (unhide We).cell 2 _ rfl
  have q0 := (unhide Qe).cell 0 _ rfl
  have q1 := (unhide Qe).cell 1 _ rfl
  have q2 := (unhide Qe).cell 2 _ rfl
  go_wp2_with fail
  clear p0 p1 p2 q0 q1 q2
  refine (eqIdentOut_any k _ _ _ _ _ _ cnt code fI _ _ (by omega) (unhide Ge) (unhide Se)).mono ?_
  rintro e wf ⟨rfl, hx⟩
  have lf := hx.size
  have Sf := hide ((unhide Se).kept hx)
  have Wf := hide ((unhide We).kept hx)
  have Gf := hide ((unhide Ge).kept hx)
  have Qf := hide ((unhide Qe).kept hx)
  have Bf := hide (below_call (unhide Be) hx)
  clear hx
  clear Se We Ge Qe Be
  have q0 := (unhide Qf).cell 0 _ rfl
  have q1 := (unhide Qf).cell 1 _ rfl
  have q2 := (unhide Qf).cell 2 _ rfl
  go_wp2_with fail
  clear q0 q1 q2
  refine (markIdentOut_any k lo hi _ cnt code _ _ (by omega) (by omega) (unhide Gf)).mono ?_
  rintro e wg ⟨rfl, hp, wz, hx, ha⟩
  have lz := hx.size
  have lg := ha.size
  have Gg := hide hp
  have Qg := hide (((unhide Qf).kept hx).apartI ha (by omega))
  have Sg := hide (((unhide Sf).kept hx).apart ha (by omega))
  have Wg := hide (((unhide Wf).kept hx).apartI ha (by omega))
  have Bg := hide (belowI (below_call (unhide Bf) hx) ha (by omega) (by omega))
  clear hp hx ha
  clear Sf Wf Gf Qf Bf
  obtain ⟨K, hK⟩ : ∃ K : Int, K = 1 + (k : Int) := ⟨_, rfl⟩
  have hK0 : ¬ K < 0 := by omega
  have cH : Hid (∀ W : World, PRow W 2 1 lo hi k (.slice a7 k k7) markInt64SV → Calls Tryd.prog 16 #[.agg #[.slice a7 k k7, .int .i64 cnt, .int .i64 code], .int .i64 1] W fun e w' => e = .returned (.int .i64 K) ∧ Below W.heap.size W w') := hide (fun W h => by rw [hK]; exact heldIdentOut_any k lo hi _ cnt code W (by omega) h)
  rw [← hK]
  clear hK
  have q0 := (unhide Qg).cell 0 _ rfl
  have q1 := (unhide Qg).cell 1 _ rfl
  have q2 := (unhide Qg).cell 2 _ rfl
  go_wp2_with fail
  clear q0 q1 q2
  refine (unhide cH _ (unhide Gg)).mono ?_
  rintro e wh ⟨rfl, hx⟩
  have Sh := hide ((unhide Sg).kept hx)
  have Wh := hide ((unhide Wg).kept hx)
  have Gh := hide ((unhide Gg).kept hx)
  have Qh := hide ((unhide Qg).kept hx)
  have Bh := hide (below_call (unhide Bg) hx)
  clear hx
  clear Sg Wg Gg Qg Bg
  go_wp2_with fail
  refine (unhide cT _ ((unhide HS).kept (unhide Bh))).mono ?_
  rintro e wi ⟨rfl, ho, hx⟩
  have Oi := hide ho
  have Si := hide ((unhide Sh).kept hx)
  have Wi := hide ((unhide Wh).kept hx)
  have Gi := hide ((unhide Gh).kept hx)
  have Qi := hide ((unhide Qh).kept hx)
  have Bi := hide (below_call (unhide Bh) hx)
  clear ho hx
  clear Sh Wh Gh Qh Bh
  go_wp2_with fail
  refine (unhide cD _ ((unhide HD).kept (unhide Bi))).mono ?_
  rintro e wj ⟨rfl, ho, hx⟩
  have Dj := hide ho
  have Oj := hide ((unhide Oi).kept hx)
  have Sj := hide ((unhide Si).kept hx)
  have Wj := hide ((unhide Wi).kept hx)
  have Gj := hide ((unhide Gi).kept hx)
  have Qj := hide ((unhide Qi).kept hx)
  have Bj := hide (below_call (unhide Bi) hx)
  clear ho hx Oi
  clear Si Wi Gi Qi Bi
  go_wp2_with fail
  refine (unhide cR _ _ _ (unhide Oj).lt (unhide Dj).lt (unhide Oj).stars (unhide Dj).dirs ((unhide HE).kept (unhide Bj))).mono ?_
  rintro e wk ⟨a9, k9, rfl, hp, hx⟩
  have Z := below1 wk (.cells #[.slice a9 k k9, .int .i64 cnt, .int .i64 code] 28)
  have Hl := hide (hp.kept Z)
  have Nl := hide (blk_new wk [.slice a9 k k9, .int .i64 cnt, .int .i64 code] 28)
  have Sl := hide (((unhide Sj).kept hx).kept Z)
  have Wl := hide (((unhide Wj).kept hx).kept Z)
  have Gl := hide (((unhide Gj).kept hx).kept Z)
  have Ql := hide (((unhide Qj).kept hx).kept Z)
  have Bl := hide (below_call (below_call (unhide Bj) hx) Z)
  clear hx hp Z
  clear Sj Wj Gj Qj Bj Oj Dj
  have p0 := (unhide Wl).cell 0 _ rfl
  have p1 := (unhide Wl).cell 1 _ rfl
  have p2 := (unhide Wl).cell 2 _ rfl
  have q0 := (unhide Nl).cell 0 _ rfl
  have q1 := (unhide Nl).cell 1 _ rfl
  have q2 := (unhide Nl).cell 2 _ rfl
  go_wp2_with fail
  clear p0 p1 p2 q0 q1 q2
  generalize wk.alloc (.cells #[.slice a9 k k9, .int .i64 cnt, .int .i64 code] 28) = wl at Hl Nl Sl Wl Gl Ql Bl ⊢
  clear Nl
  refine (eqIdentOut_any k _ _ _ _ _ _ cnt code fI _ _ (by omega) (unhide Hl) (unhide Sl)).mono ?_
  rintro e wm ⟨rfl, hx⟩
  have Gm := hide ((unhide Gl).kept hx)
  have Qm := hide ((unhide Ql).kept hx)
  have Bm := hide (below_call (unhide Bl) hx)
  clear hx Hl Sl Wl Gl Ql Bl
  have q0 := (unhide Qm).cell 0 _ rfl
  have q1 := (unhide Qm).cell 1 _ rfl
  have q2 := (unhide Qm).cell 2 _ rfl
  go_wp2_with fail
  clear q0 q1 q2
  refine (unhide cH _ (unhide Gm)).mono ?_
  rintro e wo ⟨rfl, hx⟩
  have Bo := hide (below_call (unhide Bm) hx)
  clear hx
  go_wp2_with fail
  go_ret
  exact ⟨rfl, unhide Bo⟩
set_option maxRecDepth 100000 in
theorem lawIdentify_big (n m : Nat) (ar br : Option Addr) (cr dr : Nat) (w : World) (hn : n ≤ 9223372036854775807) (hm : m ≤ 9223372036854775807) (h : 1048576 < n ∨ (n ≤ 1048576 ∧ (1048576 : Int) - (n : Int) < (m : Int))) :
    Calls Tryd.prog 3 #[.slice ar n cr, .slice br m dr] w fun e w' => e = .returned (.bool true) ∧ Below w.heap.size w w' := by
  rcases h with h1 | ⟨h1, h2⟩
  · go_enter Tryd.func3, Tryd.ntmps3
    go_wp2_with fail
    refine (szStarS_big ar n cr _ h1 hn).mono ?_
    rintro e w1 ⟨rfl, hw⟩
    rw [hw]
    go_wp2_with fail
    go_ret
    exact ⟨rfl, Below.refl _ _⟩
  · have h0 : ¬ (1048576 : Int) - (n : Int) < 0 := by omega
    go_enter Tryd.func3, Tryd.ntmps3
    go_wp2_with fail
    refine (szStarS_any ar n cr _ h1).mono ?_
    rintro e w1 ⟨rfl, hw⟩
    rw [hw]
    clear hw w1
    go_wp2_with fail
    refine (szVecS_big br m dr (1048576 - (n : Int)) _ (by omega) (by omega) (by omega) hm).mono ?_
    rintro e w1 ⟨rfl, hw⟩
    rw [hw]
    go_wp2_with fail
    go_ret
    exact ⟨rfl, Below.refl _ _⟩
theorem lawIdentify_all (L : List St) (ar : Option Addr) (len cap : Nat) (hl : L.length = len) (hm : len ≤ maxLen) (S : List D3) (br : Option Addr) (len2 cap2 : Nat) (hl2 : S.length = len2) (hm2 : len2 ≤ maxLen) (w : World) (hS : Stars w ar L len) (hD : Dirs w br S len2) (hE : ∃ p, ErrSky p w) :
    Calls Tryd.prog 3 #[.slice ar len cap, .slice br len2 cap2] w fun e w' => e = .returned (.bool true) ∧ Below w.heap.size w w' := by
  obtain ⟨p, hp⟩ := hE
  subst hl hl2
  have hm' : maxLen ≤ 9223372036854775807 := by decide +kernel
  by_cases h : L.length ≤ 1048576 ∧ (S.length : Int) ≤ 1048576 - (L.length : Int)
  · exact lawIdentify L S ar br cap cap2 p w h.1 h.2 hS hD hp
  · exact lawIdentify_big L.length S.length ar br cap cap2 w (by omega) (by omega) (by omega)
end Go.Proofs.YtjdehbpgdplolaaDoor

namespace Go.Proofs.YtjdehbpgdplolaaDoor
open Go.RowKit Go.Deep Go.ChangeShapes
set_option linter.unusedVariables false

def laidSky : List (String × DataW Unit) := [("loop.example/g00577/impl.errNoSky", Rows.laid_loop_example_g00577_impl_errNoSky)]
theorem star_ptr : "*" ++ "errors.errorString" = "*errors.errorString" := by decide
theorem rowE (u : TypeId) (h : Tryd.prog.typeName? 3 u = some "*errors.errorString") : u = 123 :=
  typeName_ptr_named (nm := "errors.errorString") (by rw [star_ptr]; kernel_rfl) (by kernel_rfl) (by decide) u (by rw [star_ptr]; exact h)
theorem errNamed : Tryd.prog.globalNamed "loop.example/g00577/impl.errNoSky" = some 0 := by kernel_rfl
theorem errType : (Tryd.prog.globals[0]?).map (·.type) = some 72 := by kernel_rfl
theorem errVar_of_laid {W : World} (h : laidMetH Tryd.prog laidSky W) : ∃ p, W.var? Tryd.prog "loop.example/g00577/impl.errNoSky" = some #[.iface 123 (.pointer (some p))] := by
  have h' : laidMet Tryd.prog laidSky W := h
  obtain ⟨a, s, hv, _⟩ := laid_sentinel h' errNamed errType Tryd.underlying72 rowE Tryd.underlying123 Tryd.underlying149 rfl rfl Tryd.underlying9 (by kernel_rfl) (by kernel_rfl)
  exact ⟨a, hv⟩
theorem errSky_of_var {W : World} {p : Addr} (hv : W.var? Tryd.prog "loop.example/g00577/impl.errNoSky" = some #[.iface 123 (.pointer (some p))]) : ErrSky p W := by
  unfold ErrSky
  rw [World.var?_cell errNamed hv 0]
  rfl
theorem err_read {H : Type} (enc : TypeId × Value → H) {W : World} {p : Addr} (hv : W.var? Tryd.prog "loop.example/g00577/impl.errNoSky" = some #[.iface 123 (.pointer (some p))]) (sp : Nat → Bool) :
    DataW.TrodVars enc Tryd.prog W sp ["loop.example/g00577/impl.errNoSky"] [tok enc (.iface 123 (.pointer (some p)))] [.cell 0 0] :=
  vars_read1 enc errNamed errType Tryd.underlying72 hv trivial sp
theorem door_met (os : Os) (args : Array Value) : laidMetH Tryd.prog laidSky ((World.doorLaid Tryd.prog 400 os).forCall (fun _ _ => 0) ⟨#[], args, []⟩).memory :=
  laidMet_of_run' 8 (by kernel_rfl) (by kernel_rfl)

theorem stA_range (n : Nat) (f : Nat → St) {i : Nat} (h : i < n) : stA ((List.range n).map f) i = f i := by
  unfold stA
  rw [List.getD_eq_getElem?_getD, List.getElem?_map, List.getElem?_range h]
  rfl
theorem cellsS : Tryd.prog.cellsOf 50 = 4 := by kernel_rfl
theorem cellsV3 : Tryd.prog.cellsOf 48 = 3 := by kernel_rfl
theorem cellsI : Tryd.prog.cellsOf 2 = 1 := by kernel_rfl
theorem spot_none {w : World} {x : Addr} {v : Value} (h : w.cell? x = some v) : x.spot = none := by
  cases hs : x.spot with
  | none => rfl
  | some k =>
    exfalso
    unfold World.cell? at h
    rw [hs] at h
    revert h
    split <;> simp
set_option maxRecDepth 100000 in
theorem open_stars {H : Type} {enc : TypeId × Value → H} {w : World} {fuel : Nat} {a : Option Addr} {len cap : Nat} {x : DataW H × List MemPlace}
    (h : DataW.trod enc Tryd.prog w 0 (fun _ => true) true fuel 22 [.slice a len cap] = some x) : ∃ L : List St, L.length = len ∧ Stars w a L len ∧ len ≤ maxLen := by
  rcases open_slice Tryd.underlying22 h with ⟨hcs, _⟩ | ⟨a', l, c, m, n, D, Pl, hcs, _, hl, hm, hmm, _, hel⟩
  · simp at hcs
    obtain ⟨rfl, rfl, rfl⟩ := hcs
    exact ⟨[], rfl, .inl rfl, Nat.zero_le _⟩
  · simp at hcs
    obtain ⟨rfl, rfl, rfl⟩ := hcs
    have hlm : len ≤ m := by rw [hmm]; simp; exact hl
    have each : ∀ i, i < len → ∃ s : St, w.cell? (a'.add (i * 4)) = some (.int .i64 s.1) ∧ w.cell? (a'.add (i * 4 + 1)) = some (.int .i64 s.2.1) ∧ w.cell? (a'.add (i * 4 + 2)) = some (.int .i64 s.2.2.1) ∧ w.cell? (a'.add (i * 4 + 3)) = some (.int .i64 s.2.2.2) := by
      intro i hi
      obtain ⟨cs, h1, h2⟩ := hel i (by omega)
      rw [cellsS] at h1
      obtain ⟨_, hlen, hcell⟩ := World.cells?_some h1
      obtain ⟨y0, y1, n1, _, _, g0, g1⟩ := trod_struct2 Tryd.underlying50 h2
      match cs, hlen with
      | [v0, v1, v2, v3], _ =>
        have g0' : DataW.trod enc Tryd.prog w 0 (fun _ => true) true n1 2 (([v0, v1, v2, v3].drop 0).take (Tryd.prog.cellsOf 2)) = some y0 := g0
        have g1' : DataW.trod enc Tryd.prog w 0 (fun _ => true) true n1 48 (([v0, v1, v2, v3].drop 1).take (Tryd.prog.cellsOf 48)) = some y1 := g1
        rw [cellsI] at g0'
        rw [cellsV3] at g1'
        obtain ⟨z0, z1, z2, n2, _, _, k0, k1, k2⟩ := trod_struct3 Tryd.underlying48 g1'
        have k0' : DataW.trod enc Tryd.prog w 0 (fun _ => true) true n2 2 (([v1, v2, v3].drop 0).take (Tryd.prog.cellsOf 2)) = some z0 := k0
        have k1' : DataW.trod enc Tryd.prog w 0 (fun _ => true) true n2 2 (([v1, v2, v3].drop 1).take (Tryd.prog.cellsOf 2)) = some z1 := k1
        have k2' : DataW.trod enc Tryd.prog w 0 (fun _ => true) true n2 2 (([v1, v2, v3].drop 2).take (Tryd.prog.cellsOf 2)) = some z2 := k2
        rw [cellsI] at k0' k1' k2'
        obtain ⟨i0, e0, _, _⟩ := DataW.trod_int Tryd.underlying2 g0'
        obtain ⟨i1, e1, _, _⟩ := DataW.trod_int Tryd.underlying2 k0'
        obtain ⟨i2, e2, _, _⟩ := DataW.trod_int Tryd.underlying2 k1'
        obtain ⟨i3, e3, _, _⟩ := DataW.trod_int Tryd.underlying2 k2'
        simp at e0 e1 e2 e3
        subst e0 e1 e2 e3
        have c0 := hcell 0 (by omega)
        have c1 := hcell 1 (by omega)
        have c2 := hcell 2 (by omega)
        have c3 := hcell 3 (by omega)
        rw [add_add] at c0 c1 c2 c3
        exact ⟨(i0, i1, i2, i3), by simpa using c0, by simpa using c1, by simpa using c2, by simpa using c3⟩
    obtain ⟨f, hf⟩ := choose_lt each
    refine ⟨(List.range len).map f, by simp, ?_, by omega⟩
    rcases Nat.eq_zero_or_pos len with h0 | h0
    · exact .inl h0
    · have hs : (a'.add (0 * 4)).spot = none := spot_none (hf 0 h0).1
      have hb : (a'.add (0 * 4)).block < w.heap.size := World.block_lt_of_cell? w _ (hf 0 h0).1
      obtain ⟨bx, ox, sx⟩ := a'
      have hs' : sx = none := by simpa [Addr.add] using hs
      subst hs'
      have hA : ∀ j, (⟨bx, ox, none⟩ : Addr).add j = ⟨bx, ox + j, none⟩ := fun j => by unfold Addr.add; split <;> simp_all
      refine .inr ⟨bx, ox, rfl, by simpa [Addr.add] using hb, fun i hi => ?_⟩
      obtain ⟨c0, c1, c2, c3⟩ := hf i hi
      rw [hA] at c0 c1 c2 c3
      rw [stA_range len f hi]
      exact ⟨c0, by rw [Nat.add_assoc]; exact c1, by rw [Nat.add_assoc]; exact c2, by rw [Nat.add_assoc]; exact c3⟩
end Go.Proofs.YtjdehbpgdplolaaDoor
