/- Several texts in one: IeU, IeV, TsD, TfM, LkM, ModM. -/
import Derived.Test.YtjdehbpgdplolaaGreatDoorQLookOwn15
import Derived.Test.YtjdehbpgdplolaaGreatDoorQLookOwn8
import Derived.Test.YtjdehbpgdplolaaGreatDoorQLookOwn6
import Derived.Test.YtjdehbpgdplolaaGreatDoorQLookOwn9
import Derived.Test.YtjdehbpgdplolaaGreatDoorQLookOwn10
import Derived.Test.YtjdehbpgdplolaaGreatDoorQLookOwn11
import Derived.Test.YtjdehbpgdplolaaGreatDoorQLookOwn12
import Derived.Test.YtjdehbpgdplolaaGreatDoorQLookOwn1
import Derived.Test.YtjdehbpgdplolaaGreatDoorQLookOwn2
namespace Go.Proofs.YtjdehbpgdplolaaGreatDoor
open Go.RowKit Go.Sort Go.Shelf
set_option linter.unusedVariables false

/-- what is answered, its row beyond B -/
def OutP (w' : World) (B : Nat) (ids : List Int) (cnt code : Int) (e : Ending) : Prop := ∃ v, e = .returned (.agg #[v, .int .i64 cnt, .int .i64 code]) ∧ ((ids = [] ∧ v = .slice none 0 0) ∨ ∃ g, v = .slice (some ⟨g, 0, none⟩) ids.length ids.length ∧ B ≤ g ∧ RowV w' 2 g (ids.length * 1) (numV ids))
theorem res_ident (T : Array Value) (X : World) (b : Nat) (v : Value) (c k : Int) (hT : T.getD 4 undef = .pointer (some ⟨b, 0, none⟩)) (h : IdO X b v c k) : (results Tryz.f79 T).run Tryz.prog X = .ok (.agg #[v, .int .i64 c, .int .i64 k]) X := by
  obtain ⟨h0, h1, h2⟩ := h
  simp only [Array.getD_eq_getD_getElem?] at hT
  simp [results, Tryz.results79, go_sem, hT, h0, h1, h2]
theorem row_farO {W : World} {x g m : Nat} {t : TypeId} {f : Nat → Value} (h : RowV W t g m f) (hne : g ≠ x) (o : Nat) (v : Value) : RowV (W.setCell ⟨x, o, none⟩ v) t g m f := by
  obtain ⟨cur, hc, hr⟩ := h
  exact ⟨cur, by rw [Below.heap_setCell W ⟨x, o, none⟩ v g hne]; exact hc, hr⟩
theorem foldG_le : ∀ (X : List (List Int)) (g : List Int × Nat), (X.foldl stepG g).2 ≤ g.2 + X.length
  | [], g => by simp
  | x :: X, g => by
    have h1 := foldG_le X (stepG g x)
    have h2 : (stepG g x).2 ≤ g.2 + 1 := by
      unfold stepG
      split
      · exact Nat.le_succ _
      · split
        · show 1 ≤ g.2 + 1; omega
        · exact Nat.le_refl _
    rw [List.foldl_cons, List.length_cons]
    omega
theorem greatR_le (L : List St) (S : List D3) (hk : skyB L = true) (hm : S.length ≤ 6) : (greatR L S).2 ≤ 4826809 := by
  have h1 := foldG_le (allN (fitF L S) (L.map (·.1)) S.length []) ([], 0)
  have h2 := allN_len (fitF L S) (L.map (·.1)) (by rw [List.length_map]; exact (sky_ok hk).1) S.length []
  have h3 : 13 ^ S.length ≤ 13 ^ 6 := Nat.pow_le_pow_right (by omega) hm
  have h4 : (13 : Nat) ^ 6 = 4826809 := by decide
  unfold greatR
  rw [h4] at h3
  exact Nat.le_trans h1 (by show 0 + _ ≤ _; omega)
theorem outP_none {w' : World} {B : Nat} {L : List St} {S : List D3} {k : Int} (h : identL L S = [] ∧ identC L S = 0 ∧ identK L S = k) : OutP w' B (identL L S) (identC L S) (identK L S) (.returned (.agg #[.slice none 0 0, .int .i64 0, .int .i64 k])) := by
  rw [h.1, h.2.1, h.2.2]
  exact ⟨_, rfl, .inl ⟨rfl, rfl⟩⟩

set_option maxHeartbeats 4000000 in
set_option maxRecDepth 100000 in
theorem identify_any (L : List St) (S : List D3) (ar br : Option Addr) (cr dr : Nat) (p : Addr) (w : World) (hn : L.length ≤ 1048576) (hm : S.length ≤ 1048576) (hcr : L.length ≤ cr) (hc9 : cr ≤ 9223372036854775807) (hdr : S.length ≤ dr) (hd9 : dr ≤ 9223372036854775807) (hS : Stars w ar L L.length) (hD : Dirs w br S S.length) (hA : ∀ y, ar = some y → y.block < w.heap.size) (hB : ∀ y, br = some y → y.block < w.heap.size) (hE : ErrSky p w) :
    Calls Tryz.prog 79 #[.slice ar L.length cr, .slice br S.length dr] w fun e w' => OutP w' w.heap.size (identL L S) (identC L S) (identK L S) e ∧ Below w.heap.size w w' := by
  have B0 := below1 w (.cells #[.slice none 0 0, .int .i64 0, .int .i64 0] 79)
  by_cases hbig : 400 < L.length ∨ 400 < S.length
  · have HO := hide (ident_big hbig)
    by_cases h4 : 400 < L.length
    · have h4' : (400 : Int) < (L.length : Int) := by omega
      go_enter Tryz.func79, Tryz.ntmps79
      go_wp2
      exact bodyPost_ret (v := .agg #[.slice none 0 0, .int .i64 0, .int .i64 2]) (by simp [results, Tryz.results79, go_sem]) rfl ⟨outP_none (unhide HO), below1 _ _⟩
    · have h4' : ¬ (400 : Int) < (L.length : Int) := by omega
      have h5' : (400 : Int) < (S.length : Int) := by omega
      go_enter Tryz.func79, Tryz.ntmps79
      go_wp2
      exact bodyPost_ret (v := .agg #[.slice none 0 0, .int .i64 0, .int .i64 2]) (by simp [results, Tryz.results79, go_sem]) rfl ⟨outP_none (unhide HO), below1 _ _⟩
  have h4' : ¬ (400 : Int) < (L.length : Int) := by omega
  have h5' : ¬ (400 : Int) < (S.length : Int) := by omega
  have R0 : IdO (w.alloc (.cells #[.slice none 0 0, .int .i64 0, .int .i64 0] 79)) w.heap.size (.slice none 0 0) 0 0 := by refine ⟨?_, ?_, ?_⟩ <;> simp
  have F0 : FreeX (w.alloc (.cells #[.slice none 0 0, .int .i64 0, .int .i64 0] 79)) w.heap.size := fun i => by simp
  have hsz : w.heap.size + 1 ≤ (w.alloc (.cells #[.slice none 0 0, .int .i64 0, .int .i64 0] 79)).heap.size := by simp
  have cS := hide (fun (W : World) h h2 => skyRight_any L ar cr p W hn hcr hc9 h h2)
  have HE := hide (hE.kept B0)
  have cD := hide (fun (W : World) h => spotsRight_any S br dr W hm hdr hd9 h)
  have HB := hide B0
  have HR := hide R0
  have HF := hide F0
  have HS := hide (hS.kept B0)
  have HD := hide (hD.kept B0)
  clear B0 R0 F0 hS hD hE
  go_enter Tryz.func79, Tryz.ntmps79
  go_wp2_with fail
  generalize hW : w.alloc (.cells #[.slice none 0 0, .int .i64 0, .int .i64 0] 79) = W at *
  clear hW
  refine (unhide cS _ (unhide HS) (unhide HE)).mono ?_
  rintro e w1 ⟨rfl, hx⟩
  have B1 := hide (below_call (unhide HB) hx)
  have R1 := hide ((unhide HR).kept hx)
  have F1 := hide ((unhide HF).kept (by omega) hx)
  have S1 := hide ((unhide HS).kept hx)
  have D1 := hide ((unhide HD).kept hx)
  have hsz1 : w.heap.size + 1 ≤ w1.heap.size := Nat.le_trans hsz hx.size
  clear hx HB HR HF HS HD hsz cS
  cases hk : skyB L
  · have HO := hide (ident_no hbig (by unfold idOk; rw [hk]; rfl))
    obtain ⟨r0, r1, r2⟩ := unhide R1
    have f0 := unhide F1 0
    have f1 := unhide F1 1
    have f2 := unhide F1 2
    go_wp2_with fail
    clear r0 r1 r2 f0 f1 f2
    exact bodyPost_ret (v := .agg #[.slice none 0 0, .int .i64 0, .int .i64 1]) (res_ident _ _ w.heap.size _ 0 1 rfl (idO_set (unhide R1) _ _ _)) rfl ⟨outP_none (unhide HO), ((((unhide B1).setCell (Nat.le_refl _) _).setCell (Nat.le_refl _) _).setCell (Nat.le_refl _) _)⟩
  go_wp2_with fail
  refine (unhide cD _ (unhide D1)).mono ?_
  rintro e w2 ⟨rfl, hx⟩
  have B2 := hide (below_call (unhide B1) hx)
  have R2 := hide ((unhide R1).kept hx)
  have F2 := hide ((unhide F1).kept (by omega) hx)
  have S2 := hide ((unhide S1).kept hx)
  have D2 := hide ((unhide D1).kept hx)
  have hsz2 : w.heap.size + 1 ≤ w2.heap.size := Nat.le_trans hsz1 hx.size
  clear hx B1 R1 F1 S1 D1 hsz1 cD
  cases hp : spotsB S
  · have HO := hide (ident_no hbig (by unfold idOk; rw [hp, Bool.and_false]))
    obtain ⟨r0, r1, r2⟩ := unhide R2
    have f0 := unhide F2 0
    have f1 := unhide F2 1
    have f2 := unhide F2 2
    go_wp2_with fail
    clear r0 r1 r2 f0 f1 f2
    exact bodyPost_ret (v := .agg #[.slice none 0 0, .int .i64 0, .int .i64 1]) (res_ident _ _ w.heap.size _ 0 1 rfl (idO_set (unhide R2) _ _ _)) rfl ⟨outP_none (unhide HO), ((((unhide B2).setCell (Nat.le_refl _) _).setCell (Nat.le_refl _) _).setCell (Nat.le_refl _) _)⟩
  have HO := hide (ident_yes hbig (by unfold idOk; rw [hk, hp]; rfl))
  have hs6 : S.length ≤ 6 := (spots_ok hp).1
  have hgb := greatR_le L S hk hs6
  clear hp
  go_wp2_with fail
  refine (namings_any L S ar br cr dr w2).mono ?_
  rintro e w3 ⟨rfl, p1, p2, hx⟩
  have B3 := hide (below_call (unhide B2) hx)
  have R3 := hide ((unhide R2).kept hx)
  have F3 := hide ((unhide F2).kept (by omega) hx)
  have S3 := hide ((unhide S2).kept hx)
  have D3' := hide ((unhide D2).kept hx)
  have hsz3 : w.heap.size + 1 ≤ w3.heap.size := Nat.le_trans hsz2 hx.size
  have cG := hide ((callsIn_wide (n := 0)).1 (greatest_any L S ar br cr dr w2.heap.size (w2.heap.size + 1) w3 hk hs6 p1 p2 (unhide S3) (unhide D3') (fun y e => by have := hA y e; omega) (fun y e => by have := hB y e; omega) 0))
  clear p1 p2 hx B2 R2 F2 S2 D2 hk
  go_wp2_with fail
  refine (unhide cG).mono ?_
  rintro e w4 ⟨⟨v, rfl, hv⟩, hx, hl6⟩
  have B4 := hide (below_call (unhide B3) hx)
  have R4 := hide ((unhide R3).kept hx)
  have F4 := hide ((unhide F3).kept (by omega) hx)
  have hsz4 : w.heap.size + 1 ≤ w4.heap.size := Nat.le_trans hsz3 hx.size
  have HV := hide hv
  clear hx hv B3 R3 F3 S3 D3' cG
  rw [wrap_id (n := ((greatR L S).2 : Int)) (by omega) (by omega)]
  have HG := hide (great_same L S)
  obtain ⟨Gi, hGi⟩ : ∃ G, (greatR L S) = G := ⟨_, rfl⟩
  rw [hGi] at HV HG hgb hl6 ⊢
  clear hGi
  obtain ⟨gi, ga⟩ := Gi
  dsimp only at HV HG hgb hl6 ⊢
  obtain ⟨r0, r1, r2⟩ := unhide R4
  have f0 := unhide F4 0
  have f1 := unhide F4 1
  have f2 := unhide F4 2
  by_cases c0 : ga = 0
  · have c0' : (ga : Int) = 0 := by omega
    go_wp2_with fail
    clear r0 r1 r2 f0 f1 f2
    have h8 : identL L S = [] ∧ identC L S = 0 ∧ identK L S = 6 := ⟨by rw [(unhide HO).1, (unhide HG).1, if_neg (by omega)], by rw [(unhide HO).2.1, (unhide HG).2.1, if_neg (by omega)], by rw [(unhide HO).2.2, (unhide HG).2.2, if_pos c0]⟩
    exact bodyPost_ret (v := .agg #[.slice none 0 0, .int .i64 0, .int .i64 6]) (res_ident _ _ w.heap.size _ 0 6 rfl (idO_set (unhide R4) _ _ _)) rfl ⟨outP_none h8, ((((unhide B4).setCell (Nat.le_refl _) _).setCell (Nat.le_refl _) _).setCell (Nat.le_refl _) _)⟩
  have c0' : ¬ (ga : Int) = 0 := by omega
  by_cases c1 : 1 < ga
  · have c1' : (1 : Int) < (ga : Int) := by omega
    go_wp2_with fail
    clear r0 r1 r2 f0 f1 f2
    have h8 : identL L S = [] ∧ identC L S = 0 ∧ identK L S = 11 := ⟨by rw [(unhide HO).1, (unhide HG).1, if_neg (by omega)], by rw [(unhide HO).2.1, (unhide HG).2.1, if_neg (by omega)], by rw [(unhide HO).2.2, (unhide HG).2.2, if_neg c0, if_pos c1]⟩
    exact bodyPost_ret (v := .agg #[.slice none 0 0, .int .i64 0, .int .i64 11]) (res_ident _ _ w.heap.size _ 0 11 rfl (idO_set (unhide R4) _ _ _)) rfl ⟨outP_none h8, ((((unhide B4).setCell (Nat.le_refl _) _).setCell (Nat.le_refl _) _).setCell (Nat.le_refl _) _)⟩
  have c1' : ¬ (1 : Int) < (ga : Int) := by omega
  have hga : ga = 1 := by omega
  have h8 : identL L S = gi ∧ identC L S = (cntN gi : Int) ∧ identK L S = 0 := ⟨by rw [(unhide HO).1, (unhide HG).1, if_pos hga], by rw [(unhide HO).2.1, (unhide HG).2.1, if_pos hga], by rw [(unhide HO).2.2, (unhide HG).2.2, if_neg c0, if_neg c1]⟩
  obtain ⟨va, vc, rfl, hnm⟩ : ∃ a c, v = .slice a gi.length c ∧ Nums w4 a gi gi.length := by
    rcases unhide HV with ⟨e1, e2⟩ | ⟨g, e, _, hr⟩
    · exact ⟨none, 0, by rw [e1, e2]; rfl, .inl (by rw [e1]; rfl)⟩
    · exact ⟨_, _, e, nums_of hr⟩
  have cN := hide (countNamed_any gi va vc w4 (by omega) hnm)
  clear hnm
  go_wp2_with fail
  refine (unhide cN).mono ?_
  rintro e w5 ⟨rfl, hw5⟩
  subst hw5
  go_wp2_with fail
  clear r0 r1 r2 f0 f1 f2
  rw [h8.1, h8.2.1, h8.2.2]
  refine bodyPost_ret (v := .agg #[.slice va gi.length vc, .int .i64 (cntN gi : Int), .int .i64 0]) (res_ident _ _ w.heap.size _ (cntN gi : Int) 0 rfl (idO_set (unhide R4) _ _ _)) rfl ⟨⟨_, rfl, ?_⟩, ((((unhide B4).setCell (Nat.le_refl _) _).setCell (Nat.le_refl _) _).setCell (Nat.le_refl _) _)⟩
  rcases unhide HV with h | ⟨g, e, hg, hr⟩
  · exact .inl h
  · have hne : g ≠ w.heap.size := by omega
    exact .inr ⟨g, e, by omega, row_farO (row_farO (row_farO hr hne 0 _) hne 1 _) hne 2 _⟩
end Go.Proofs.YtjdehbpgdplolaaGreatDoor

namespace Go.Proofs.YtjdehbpgdplolaaGreatDoor
open Go.RowKit Go.Sort
set_option linter.unusedVariables false

theorem allN_long (F : List Int → Int → Bool) (A : List Int) : ∀ (r : Nat) (ids l : List Int), l ∈ allN F A r ids → l.length = ids.length + r
  | 0, ids, l, h => by
    simp only [allN, List.mem_singleton] at h
    subst h
    omega
  | r + 1, ids, l, h => by
    simp only [allN, List.mem_append, List.mem_flatMap] at h
    rcases h with ⟨a, _, h⟩ | h
    · have := allN_long F A r _ l h
      rw [List.length_append] at this
      simp at this
      omega
    · have := allN_long F A r _ l h
      rw [List.length_append] at this
      simp at this
      omega
theorem foldG_long (m : Nat) : ∀ (X : List (List Int)) (g : List Int × Nat), (∀ l ∈ X, l.length ≤ m) → g.1.length ≤ m → (X.foldl stepG g).1.length ≤ m
  | [], g, _, h => h
  | x :: X, g, hX, h => by
    rw [List.foldl_cons]
    refine foldG_long m X _ (fun l hl => hX l (List.mem_cons_of_mem _ hl)) ?_
    unfold stepG
    split
    · exact h
    · split
      · exact hX x (List.mem_cons_self ..)
      · exact h
theorem identL_len (L : List St) (S : List D3) : (identL L S).length ≤ 6 := by
  by_cases hb : 400 < L.length ∨ 400 < S.length
  · rw [(ident_big hb).1]; simp
  · cases ho : idOk L S
    · rw [(ident_no hb ho).1]; simp
    · rw [(ident_yes hb ho).1, (great_same L S).1]
      have hp : spotsB S = true := by unfold idOk at ho; simp at ho; exact ho.2
      have h6 := (spots_ok hp).1
      split
      · refine Nat.le_trans (foldG_long S.length _ _ (fun l hl => ?_) (by simp)) h6
        have := allN_long _ _ _ _ _ hl
        simp at this
        omega
      · simp
theorem PRow.sliceI {w : World} {t : TypeId} {c lo hi n : Nat} {v : Value} {f : Nat → Value} (h : PRow w t c lo hi n v f) : ∃ a k, v = .slice a n k := by
  rcases h with ⟨rfl, a, k, rfl⟩ | ⟨g, k, rfl, _⟩
  · exact ⟨a, k, rfl⟩
  · exact ⟨_, k, rfl⟩
theorem prow_outI {w' : World} {B : Nat} {ids : List Int} {cnt code : Int} {e : Ending} (h : OutI w' B ids cnt code e) : ∃ a k, e = .returned (.agg #[.slice a ids.length k, .int .i64 cnt, .int .i64 code]) ∧ PRow w' 2 1 B w'.heap.size ids.length (.slice a ids.length k) (valInt64S (fun j => ids.getD j 0) (fun _ => false)) := by
  obtain ⟨v, he, ho⟩ := h
  have hp : PRow w' 2 1 B w'.heap.size ids.length v (valInt64S (fun j => ids.getD j 0) (fun _ => false)) := PRow.of ho (fun j h => by
    have h' : j < ids.length := by omega
    show (ids.map (fun z => Value.int .i64 z))[j]? = some (.int .i64 (ids.getD j 0))
    rw [List.getElem?_map, List.getElem?_eq_getElem h', List.getD_eq_getElem?_getD, List.getElem?_eq_getElem h']
    rfl)
  obtain ⟨a, k, rfl⟩ := hp.sliceI
  exact ⟨a, k, he, hp⟩
theorem prow_outP {w' : World} {B : Nat} {ids : List Int} {cnt code : Int} {e : Ending} (h : OutP w' B ids cnt code e) : ∃ a k, e = .returned (.agg #[.slice a ids.length k, .int .i64 cnt, .int .i64 code]) ∧ PRow w' 2 1 B w'.heap.size ids.length (.slice a ids.length k) (valInt64S (fun j => ids.getD j 0) (fun _ => false)) := by
  obtain ⟨v, he, ho⟩ := h
  rcases ho with ⟨h0, rfl⟩ | ⟨g, rfl, hg, hr⟩
  · exact ⟨none, 0, by rw [he, h0]; rfl, .inl ⟨by rw [h0]; rfl, none, 0, by rw [h0]; rfl⟩⟩
  · exact ⟨_, _, he, .inr ⟨g, _, rfl, hg, hr.lt, hr⟩⟩
end Go.Proofs.YtjdehbpgdplolaaGreatDoor

namespace Go.Proofs.YtjdehbpgdplolaaGreatDoor
open Go.RowKit Go.Sort
set_option linter.unusedVariables false

def tA (L : List T4) (i : Nat) : T4 := L.getD i (0, 0, 0, 0)
theorem flatT_at : ∀ (S : List T4) (k : Nat) (b : T4), S[k]? = some b → ∀ j u, (turn4 b)[j]? = some u → (flatT S)[k * 4 + j]? = some u := by
  intro S
  induction S with
  | nil => intro k b h; simp at h
  | cons x S ih =>
    intro k b h j u hu
    have e : flatT (x :: S) = turn4 x ++ flatT S := by unfold flatT; simp
    have hj : j < 4 := (List.getElem?_eq_some_iff.1 hu).1
    rw [e]
    cases k with
    | zero =>
      simp at h
      subst h
      rw [List.getElem?_append_left (by show _ < 4; omega)]
      simpa using hu
    | succ k =>
      rw [List.getElem?_append_right (by show 4 ≤ _; omega)]
      rw [show (k + 1) * 4 + j - (turn4 x).length = k * 4 + j by show _ - 4 = _; omega]
      exact ih k b (by simpa using h) j u hu
/-- the turns L lie in block g -/
def Turn4s (w : World) (g : Nat) (L : List T4) : Prop := g < w.heap.size ∧ ∀ k, k < L.length → w.cell? ⟨g, k * 4, none⟩ = some (.int .i64 (tA L k).1) ∧ w.cell? ⟨g, k * 4 + 1, none⟩ = some (.int .i64 (tA L k).2.1) ∧ w.cell? ⟨g, k * 4 + 2, none⟩ = some (.int .i64 (tA L k).2.2.1) ∧ w.cell? ⟨g, k * 4 + 3, none⟩ = some (.int .i64 (tA L k).2.2.2)
theorem Turn4s.kept {w w' : World} {g : Nat} {L : List T4} (h : Turn4s w g L) (hB : Below w.heap.size w w') : Turn4s w' g L := by
  refine ⟨Nat.lt_of_lt_of_le h.1 hB.size, fun k hk => ?_⟩
  obtain ⟨h0, h1, h2, h3⟩ := h.2 k hk
  exact ⟨by rw [hB.cell (p := ⟨g, k * 4, none⟩) h.1]; exact h0, by rw [hB.cell (p := ⟨g, k * 4 + 1, none⟩) h.1]; exact h1, by rw [hB.cell (p := ⟨g, k * 4 + 2, none⟩) h.1]; exact h2, by rw [hB.cell (p := ⟨g, k * 4 + 3, none⟩) h.1]; exact h3⟩
theorem turn4s_of {w : World} {B : Nat} {v : Value} {L : List T4} (h : w.ownsRow B 31 4 v L.length (flatT L)) (h0 : 0 < L.length) : ∃ g c, v = .slice (some ⟨g, 0, none⟩) L.length c ∧ B ≤ g ∧ Turn4s w g L := by
  rcases h.2 with ⟨h1, h0'⟩ | ⟨g, cap, cur, hv, hb, hg, hnc, hcm, hcs, htake⟩
  · omega
  · refine ⟨g, cap, hv, hb, (Array.getElem?_eq_some_iff.1 hg).1, fun k hk => ?_⟩
    have hk' : L[k]? = some (tA L k) := by unfold tA; rw [List.getD, List.getElem?_eq_getElem hk]; rfl
    have cl : ∀ j u, (turn4 (tA L k))[j]? = some u → w.cell? ⟨g, k * 4 + j, none⟩ = some u := by
      intro j u hu
      have hj : j < 4 := (List.getElem?_eq_some_iff.1 hu).1
      have e := flatT_at L k _ hk' j u hu
      rw [cell_of_row w g _ cur _ _ hg]
      rw [← htake, List.getElem?_take, if_pos (by omega)] at e
      simpa using e
    exact ⟨cl 0 _ rfl, cl 1 _ rfl, cl 2 _ rfl, cl 3 _ rfl⟩
end Go.Proofs.YtjdehbpgdplolaaGreatDoor

namespace Go.Proofs.YtjdehbpgdplolaaGreatDoor
open Go.RowKit
set_option linter.unusedVariables false

def bringsB (t : T4) (s : Sg) : Bool := sameD s.1 (apD t.1 t.2.1 t.2.2.1 t.2.2.2 s.2.2)
def explB (A : List Sg) (t : T4) : Bool := A.all (bringsB t)
theorem expl_yes {A : List Sg} {t : T4} (h : ∀ i, i < A.length → bringsB t (sgA A i) = true) : explB A t = true := by
  unfold explB
  rw [← all_range_at, List.all_eq_true]
  exact fun i hi => h i (List.mem_range.1 hi)
theorem expl_no {A : List Sg} {t : T4} {i : Nat} (hi : i < A.length) (h : bringsB t (sgA A i) = false) : explB A t = false := by
  unfold explB
  rw [← all_range_at, List.all_eq_false]
  exact ⟨i, List.mem_range.2 hi, by rw [h]; simp⟩
/-- the first of the turns that brings all -/
def firstT (A : List Sg) (T : List T4) : T4 × Int := match T.find? (explB A) with | some t => (t, 0) | none => ((0, 0, 0, 0), 6)
theorem tA_get {T : List T4} {k : Nat} (hk : k < T.length) : T[k]? = some (tA T k) := by unfold tA; rw [List.getD_eq_getElem?_getD, List.getElem?_eq_getElem hk]; rfl
theorem first_at {A : List Sg} {T : List T4} {k : Nat} (hk : k < T.length) (h : ∀ j, j < k → explB A (tA T j) = false) (h1 : explB A (tA T k) = true) : firstT A T = (tA T k, 0) := by
  unfold firstT
  have : T.find? (explB A) = some (tA T k) := by
    rw [List.find?_eq_some_iff_getElem]
    refine ⟨h1, k, hk, ?_, fun j hj => ?_⟩
    · have := tA_get hk
      rw [List.getElem?_eq_getElem hk] at this
      exact Option.some.inj this
    · have e := tA_get (T := T) (k := j) (by omega)
      rw [List.getElem?_eq_getElem (by omega)] at e
      rw [Option.some.inj e, h j hj]
      rfl
  rw [this]
theorem first_none {A : List Sg} {T : List T4} (h : ∀ j, j < T.length → explB A (tA T j) = false) : firstT A T = ((0, 0, 0, 0), 6) := by
  unfold firstT
  have : T.find? (explB A) = none := by
    rw [List.find?_eq_none]
    intro x hx
    obtain ⟨j, hj, rfl⟩ := List.getElem_of_mem hx
    have e := tA_get (T := T) (k := j) hj
    rw [List.getElem?_eq_getElem hj] at e
    rw [Option.some.inj e, h j hj]
    simp
  rw [this]
def forV (L : List St) (S : List D3) (ids : List Int) : T4 × Int :=
  if 400 < L.length ∨ 400 < S.length ∨ 400 < ids.length then ((0, 0, 0, 0), 2)
  else if namedB L S ids = true then (if (sightsTo L S ids ids.length).length < 2 then ((0, 0, 0, 0), 10) else firstT (sightsTo L S ids ids.length) (turnsTo 625))
  else ((0, 0, 0, 0), 1)
theorem for_size {L : List St} {S : List D3} {ids : List Int} (h : 400 < L.length ∨ 400 < S.length ∨ 400 < ids.length) : forV L S ids = ((0, 0, 0, 0), 2) := by unfold forV; rw [if_pos h]
theorem for_form {L : List St} {S : List D3} {ids : List Int} (h : ¬ (400 < L.length ∨ 400 < S.length ∨ 400 < ids.length)) (h1 : namedB L S ids = false) : forV L S ids = ((0, 0, 0, 0), 1) := by unfold forV; rw [if_neg h, h1]; rfl
theorem for_few {L : List St} {S : List D3} {ids : List Int} (h : ¬ (400 < L.length ∨ 400 < S.length ∨ 400 < ids.length)) (h1 : namedB L S ids = true) (h2 : (sightsTo L S ids ids.length).length < 2) : forV L S ids = ((0, 0, 0, 0), 10) := by unfold forV; rw [if_neg h, if_pos h1, if_pos h2]
theorem for_first {L : List St} {S : List D3} {ids : List Int} (h : ¬ (400 < L.length ∨ 400 < S.length ∨ 400 < ids.length)) (h1 : namedB L S ids = true) (h2 : ¬ (sightsTo L S ids ids.length).length < 2) : forV L S ids = firstT (sightsTo L S ids ids.length) (turnsTo 625) := by unfold forV; rw [if_neg h, if_pos h1, if_neg h2]
theorem named_parts {L : List St} {S : List D3} {ids : List Int} (h : namedB L S ids = true) : skyB L = true ∧ spotsB S = true ∧ ids.length = S.length ∧ allFit (sightsTo L S ids ids.length) (sightsTo L S ids ids.length).length = true := by
  unfold namedB at h
  simp only [Bool.and_eq_true, decide_eq_true_eq] at h
  exact ⟨h.1.1.1, h.1.1.2, h.1.2, h.2⟩
/-- each sight of a naming has a star of the sky -/
theorem sight_mem {L : List St} {S : List D3} {ids : List Int} {n i : Nat} (hi : i < (sightsTo L S ids n).length) : ∃ j, j < n ∧ ids.getD j 0 ≠ 0 ∧ sgA (sightsTo L S ids n) i = sgOf L S ids j := by
  have hm : sgA (sightsTo L S ids n) i ∈ sightsTo L S ids n := by
    unfold sgA
    rw [List.getD_eq_getElem?_getD, List.getElem?_eq_getElem hi]
    exact List.getElem_mem hi
  generalize sgA (sightsTo L S ids n) i = s at hm ⊢
  unfold sightsTo at hm
  rw [List.mem_map] at hm
  obtain ⟨j, hj, rfl⟩ := hm
  rw [List.mem_filter] at hj
  exact ⟨j, List.mem_range.1 hj.1, of_decide_eq_true hj.2, rfl⟩
theorem sight_small {L : List St} {S : List D3} {ids : List Int} (h : namedB L S ids = true) {i : Nat} (hi : i < (sightsTo L S ids ids.length).length) : smallB (sgA (sightsTo L S ids ids.length) i).2.2.1 (sgA (sightsTo L S ids ids.length) i).2.2.2.1 (sgA (sightsTo L S ids ids.length) i).2.2.2.2 = true := by
  obtain ⟨h1, h2, h3, h4⟩ := named_parts h
  unfold allFit at h4
  have h5 := List.all_eq_true.1 h4 i (List.mem_range.2 hi)
  rw [Bool.and_eq_true] at h5
  obtain ⟨j, hj, h0, e⟩ := sight_mem hi
  rw [e] at h5 ⊢
  exact at_small h1 (by have h6 := h5.1; rw [Bool.not_eq_true'] at h6; exact h6)
theorem named_each {L : List St} {S : List D3} {ids : List Int} (h : namedB L S ids = true) {j : Nat} (hj : j < ids.length) (h0 : ids.getD j 0 ≠ 0) : smallB (atV L L.length (ids.getD j 0)).1 (atV L L.length (ids.getD j 0)).2.1 (atV L L.length (ids.getD j 0)).2.2 = true ∧ wideD (vA S j) = true := by
  obtain ⟨h1, h2, h3, h4⟩ := named_parts h
  rw [← named_eq] at h4
  unfold namedI at h4
  have h5 := List.all_eq_true.1 h4 j (List.mem_range.2 hj)
  rw [decide_eq_false h0, Bool.false_or, Bool.and_eq_true] at h5
  exact ⟨at_small h1 (by simpa using h5.1), okV_wide ((spots_ok h2).2 j (by omega))⟩
/-- the specification's way: each named one is brought to its spot -/
def turnedI (L : List St) (S : List D3) (ids : List Int) (t : T4) (n : Nat) : Bool := (List.range n).all fun j => decide (ids.getD j 0 = 0) || bringsB t (sgOf L S ids j)
theorem turned_eq (L : List St) (S : List D3) (ids : List Int) (t : T4) (n : Nat) : turnedI L S ids t n = explB (sightsTo L S ids n) t := (sights_all L S ids (bringsB t) n).symm
theorem turnedI_no {L : List St} {S : List D3} {ids : List Int} {t : T4} {n j : Nat} (hj : j < n) (h : (decide (ids.getD j 0 = 0) || bringsB t (sgOf L S ids j)) = false) : turnedI L S ids t n = false := by
  unfold turnedI
  rw [List.all_eq_false]
  exact ⟨j, List.mem_range.2 hj, by rw [h]; simp⟩
theorem turnedI_yes {L : List St} {S : List D3} {ids : List Int} {t : T4} {n : Nat} (h : ∀ j, j < n → (decide (ids.getD j 0 = 0) || bringsB t (sgOf L S ids j)) = true) : turnedI L S ids t n = true := by
  unfold turnedI
  rw [List.all_eq_true]
  exact fun j hj => h j (List.mem_range.1 hj)
theorem sights_count (L : List St) (S : List D3) (ids : List Int) (k : Nat) : (sightsTo L S ids (k + 1)).length = (sightsTo L S ids k).length + if ids.getD k 0 ≠ 0 then 1 else 0 := by
  rw [sights_snoc, List.length_append]
  split <;> rfl
theorem turns_right {m k : Nat} (hk : k < (turnsTo m).length) : rightT (tA (turnsTo m) k).1 (tA (turnsTo m) k).2.1 (tA (turnsTo m) k).2.2.1 (tA (turnsTo m) k).2.2.2 = true := by
  have hm : tA (turnsTo m) k ∈ turnsTo m := by unfold tA; rw [List.getD_eq_getElem?_getD, List.getElem?_eq_getElem hk]; exact List.getElem_mem hk
  generalize tA (turnsTo m) k = t at hm ⊢
  unfold turnsTo at hm
  exact (List.mem_filter.1 hm).2
set_option maxRecDepth 1000000 in
theorem turns_some : 0 < (turnsTo 625).length := by
  have h : (tOf 624).1 = 2 := by decide +kernel
  have hg : goodT (tOf 563) = true := by decide +kernel
  have hm : tOf 563 ∈ turnsTo 625 := by
    unfold turnsTo
    rw [List.mem_filter]
    exact ⟨List.mem_map.2 ⟨563, List.mem_range.2 (by omega), rfl⟩, hg⟩
  exact List.length_pos_of_mem hm
end Go.Proofs.YtjdehbpgdplolaaGreatDoor

namespace Go.Proofs.YtjdehbpgdplolaaGreatDoor
open Go.RowKit Go.Sort
set_option linter.unusedVariables false

/- what is found is a naming -/
theorem fitsI_congr {L : List St} {S : List D3} {ids ids' : List Int} (s : Sg) {n : Nat} (h : ∀ i, i < n → ids.getD i 0 = ids'.getD i 0) : fitsI L S ids s n = fitsI L S ids' s n := by
  unfold fitsI
  apply range_all_congr
  intro i hi
  have e1 := h i hi
  have e2 : sgOf L S ids i = sgOf L S ids' i := by unfold sgOf; rw [e1]
  rw [e1, e2]
  congr 2
  apply range_all_congr
  intro j hj
  have e3 := h j (by omega)
  have e4 : sgOf L S ids j = sgOf L S ids' j := by unfold sgOf; rw [e3]
  rw [e3, e4]
theorem namedI_congr {L : List St} {S : List D3} {ids ids' : List Int} {n : Nat} (h : ∀ i, i < n → ids.getD i 0 = ids'.getD i 0) : namedI L S ids n = namedI L S ids' n := by
  unfold namedI
  apply range_all_congr
  intro i hi
  have e1 := h i hi
  have e2 : sgOf L S ids i = sgOf L S ids' i := by unfold sgOf; rw [e1]
  rw [e1, e2, fitsI_congr _ (fun j hj => h j (by omega))]
theorem snoc_lt (ids : List Int) (a : Int) {i : Nat} (h : i < ids.length) : (ids ++ [a]).getD i 0 = ids.getD i 0 := by rw [List.getD_eq_getElem?_getD, List.getD_eq_getElem?_getD, List.getElem?_append_left h]
theorem snoc_at (ids : List Int) (a : Int) : (ids ++ [a]).getD ids.length 0 = a := by rw [List.getD_eq_getElem?_getD, List.getElem?_append_right (Nat.le_refl _), Nat.sub_self]; rfl
theorem small_nz {x y z : Int} (h : smallB x y z = true) : zeroD (x, y, z) = false := by
  have := (rightB_iff.1 (small_iff h).1).2
  unfold zeroD
  exact decide_eq_false this
theorem star_nz {L : List St} (h : skyB L = true) {a : Int} (ha : a ∈ L.map (·.1)) : zeroD (atV L L.length a) = false := by
  obtain ⟨s, hs, rfl⟩ := List.mem_map.1 ha
  obtain ⟨i, hi, rfl⟩ := List.getElem_of_mem hs
  have e : L[i] = stA L i := by unfold stA; rw [List.getD_eq_getElem?_getD, List.getElem?_eq_getElem hi]; rfl
  rw [e, at_own h hi]
  exact small_nz (ok_small ((sky_ok h).2 i hi))
theorem named_snoc {L : List St} {S : List D3} {ids : List Int} {a : Int} (hk : skyB L = true) (h : namedI L S ids ids.length = true) (h2 : a = 0 ∨ (a ∈ L.map (·.1) ∧ fitF L S ids a = true)) : namedI L S (ids ++ [a]) (ids ++ [a]).length = true := by
  have e0 : (ids ++ [a]).length = ids.length + 1 := by simp
  rw [e0]
  unfold namedI
  rw [range_all_succ]
  have e1 : ((List.range ids.length).all fun i => decide ((ids ++ [a]).getD i 0 = 0) || (!zeroD (atV L L.length ((ids ++ [a]).getD i 0)) && fitsI L S (ids ++ [a]) (sgOf L S (ids ++ [a]) i) i)) = true := by
    have := namedI_congr (L := L) (S := S) (ids := ids ++ [a]) (ids' := ids) (n := ids.length) (fun i hi => snoc_lt ids a hi)
    unfold namedI at this h
    rw [this]
    exact h
  rw [e1, Bool.true_and, snoc_at]
  rcases h2 with rfl | ⟨hm, hf⟩
  · rfl
  · have e2 : sgOf L S (ids ++ [a]) ids.length = (vA S ids.length, (a, atV L L.length a)) := by unfold sgOf; rw [snoc_at]
    rw [e2, star_nz hk hm, fitsI_congr _ (fun i hi => snoc_lt ids a hi)]
    unfold fitF at hf
    rw [hf]
    simp
theorem named_all {L : List St} {S : List D3} (hk : skyB L = true) : ∀ (r : Nat) (ids l : List Int), namedI L S ids ids.length = true → l ∈ allN (fitF L S) (L.map (·.1)) r ids → namedI L S l l.length = true
  | 0, ids, l, h, hl => by
    simp only [allN, List.mem_singleton] at hl
    subst hl
    exact h
  | r + 1, ids, l, h, hl => by
    simp only [allN, List.mem_append, List.mem_flatMap] at hl
    rcases hl with ⟨a, ha, hl⟩ | hl
    · have := List.mem_filter.1 ha
      exact named_all hk r _ l (named_snoc hk h (.inr this)) hl
    · exact named_all hk r _ l (named_snoc hk h (.inl rfl)) hl
theorem foldG_mem : ∀ (X : List (List Int)) (g : List Int × Nat), (g.2 = 0 → cntN g.1 < 3) → (X.foldl stepG g).2 ≠ 0 → (X.foldl stepG g).1 ∈ X ∨ (g.2 ≠ 0 ∧ (X.foldl stepG g).1 = g.1)
  | [], g, _, h => .inr ⟨h, rfl⟩
  | x :: X, g, hg, h => by
    rw [List.foldl_cons] at h ⊢
    by_cases c1 : cntN x < 3 ∨ cntN x < cntN g.1
    · have e : stepG g x = g := by unfold stepG; rw [if_pos c1]
      rw [e] at h ⊢
      rcases foldG_mem X g hg h with h1 | h1
      · exact .inl (List.mem_cons_of_mem _ h1)
      · exact .inr h1
    · by_cases c2 : cntN g.1 < cntN x
      · have e : stepG g x = (x, 1) := by unfold stepG; rw [if_neg c1, if_pos c2]
        rw [e] at h ⊢
        rcases foldG_mem X (x, 1) (fun h => by cases h) h with h1 | ⟨_, h1⟩
        · exact .inl (List.mem_cons_of_mem _ h1)
        · rw [h1]; exact .inl (List.mem_cons_self ..)
      · have e : stepG g x = (g.1, g.2 + 1) := by unfold stepG; rw [if_neg c1, if_neg c2]
        have hne : g.2 ≠ 0 := fun e0 => by have := hg e0; omega
        rw [e] at h ⊢
        rcases foldG_mem X (g.1, g.2 + 1) (fun h => by cases h) h with h1 | ⟨_, h1⟩
        · exact .inl (List.mem_cons_of_mem _ h1)
        · exact .inr ⟨hne, h1⟩
theorem found_named {L : List St} {S : List D3} (hk : skyB L = true) (hp : spotsB S = true) (h0 : idCode L S = 0) : namedB L S (idIds L S) = true := by
  have hg := great_same L S
  have h2 : (greatR L S).2 = 1 := by
    rw [hg.2.2] at h0
    by_cases a : (greatR L S).2 = 0
    · rw [if_pos a] at h0; cases h0
    · rw [if_neg a] at h0
      by_cases b : 1 < (greatR L S).2
      · rw [if_pos b] at h0; cases h0
      · omega
  rw [hg.1, if_pos h2]
  have hm : (greatR L S).1 ∈ allN (fitF L S) (L.map (·.1)) S.length [] := by
    rcases foldG_mem _ ([], 0) (fun _ => by decide) (show (greatR L S).2 ≠ 0 by omega) with h | ⟨h, _⟩
    · exact h
    · exact absurd rfl h
  have hn := named_all hk S.length [] _ rfl hm
  have hl := allN_long _ _ _ _ _ hm
  unfold namedB
  rw [hk, hp, ← named_eq, hn, decide_eq_true (by simpa using hl)]
  rfl
theorem for_found {L : List St} {S : List D3} (hk : skyB L = true) (hp : spotsB S = true) (h0 : idCode L S = 0) : (if (sightsTo L S (idIds L S) (idIds L S).length).length < 2 then ((0, 0, 0, 0), 10) else firstT (sightsTo L S (idIds L S) (idIds L S).length) (turnsTo 625)) = forV L S (idIds L S) := by
  have hn := found_named hk hp h0
  have h12 := (sky_ok hk).1
  have h6 := (spots_ok hp).1
  have hl := (named_parts hn).2.2.1
  unfold forV
  rw [if_neg (show ¬ (400 < L.length ∨ 400 < S.length ∨ 400 < (idIds L S).length) by omega), if_pos hn]

/- no two stars are brought to one spot -/
theorem cross_dot {v1 v2 v3 p1 p2 p3 q1 q2 q3 : Int} (hv : ¬ (v1 = 0 ∧ v2 = 0 ∧ v3 = 0)) (a1 : v2 * p3 - v3 * p2 = 0) (a2 : v3 * p1 - v1 * p3 = 0) (a3 : v1 * p2 - v2 * p1 = 0) (b1 : v2 * q3 - v3 * q2 = 0) (b2 : v3 * q1 - v1 * q3 = 0) (b3 : v1 * q2 - v2 * q1 = 0)
    (hp : 0 < dot v1 v2 v3 p1 p2 p3) (hq : 0 < dot v1 v2 v3 q1 q2 q3) : (p2 * q3 - p3 * q2 = 0 ∧ p3 * q1 - p1 * q3 = 0 ∧ p1 * q2 - p2 * q1 = 0) ∧ 0 < dot p1 p2 p3 q1 q2 q3 := by
  have hvv := sq_pos hv
  obtain ⟨V, hV⟩ : ∃ V, dot v1 v2 v3 v1 v2 v3 = V := ⟨_, rfl⟩
  obtain ⟨P, hP⟩ : ∃ P, dot v1 v2 v3 p1 p2 p3 = P := ⟨_, rfl⟩
  obtain ⟨Q, hQ⟩ : ∃ Q, dot v1 v2 v3 q1 q2 q3 = Q := ⟨_, rfl⟩
  have x1 : V * p1 = P * v1 := by rw [← hV, ← hP]; unfold dot; grind
  have x2 : V * p2 = P * v2 := by rw [← hV, ← hP]; unfold dot; grind
  have x3 : V * p3 = P * v3 := by rw [← hV, ← hP]; unfold dot; grind
  have y1 : V * q1 = Q * v1 := by rw [← hV, ← hQ]; unfold dot; grind
  have y2 : V * q2 = Q * v2 := by rw [← hV, ← hQ]; unfold dot; grind
  have y3 : V * q3 = Q * v3 := by rw [← hV, ← hQ]; unfold dot; grind
  rw [hV] at hvv
  rw [hP] at hp
  rw [hQ] at hq
  have hVV := Int.mul_pos hvv hvv
  have z : ∀ x : Int, V * V * x = 0 → x = 0 := fun x h => by
    rcases Int.mul_eq_zero.1 h with e | e
    · omega
    · exact e
  refine ⟨⟨z _ (by grind), z _ (by grind), z _ (by grind)⟩, ?_⟩
  have e : V * V * dot p1 p2 p3 q1 q2 q3 = P * Q * V := by
    rw [← hV] at *
    unfold dot at *
    grind
  have hpos := Int.mul_pos (Int.mul_pos hp hq) hvv
  rw [← e] at hpos
  rcases Int.lt_or_le 0 (dot p1 p2 p3 q1 q2 q3) with h | h
  · exact h
  · have := Int.mul_le_mul_of_nonneg_left h (Int.le_of_lt hVV)
    simp at this
    omega
theorem same_parts {a1 a2 a3 b1 b2 b3 : Int} (h : sameB a1 a2 a3 b1 b2 b3 = true) : rightB a1 a2 a3 = true ∧ rightB b1 b2 b3 = true ∧ (a2 * b3 - a3 * b2 = 0 ∧ a3 * b1 - a1 * b3 = 0 ∧ a1 * b2 - a2 * b1 = 0) ∧ 0 < dot a1 a2 a3 b1 b2 b3 := by
  unfold sameB at h
  simp only [Bool.and_eq_true, decide_eq_true_eq] at h
  obtain ⟨⟨⟨ra, rb⟩, hz⟩, hd⟩ := h
  have a := (rightB_iff.1 ra).1
  have b := (rightB_iff.1 rb).1
  rw [dotW_eq (A := 1000000) (B := 1000000) (withinB_iff.2 a) (withinB_iff.2 b) (by omega)] at hd
  rw [(crW_eq a.2.1 a.2.2 b.2.1 b.2.2 (by omega)).1, (crW_eq a.2.2 a.1 b.2.2 b.1 (by omega)).1, (crW_eq a.1 a.2.1 b.1 b.2.1 (by omega)).1] at hz
  unfold zeroB at hz
  exact ⟨ra, rb, of_decide_eq_true hz, hd⟩
theorem same_mk {a1 a2 a3 b1 b2 b3 : Int} (ra : rightB a1 a2 a3 = true) (rb : rightB b1 b2 b3 = true) (hc : a2 * b3 - a3 * b2 = 0 ∧ a3 * b1 - a1 * b3 = 0 ∧ a1 * b2 - a2 * b1 = 0) (hd : 0 < dot a1 a2 a3 b1 b2 b3) : sameB a1 a2 a3 b1 b2 b3 = true := by
  have a := (rightB_iff.1 ra).1
  have b := (rightB_iff.1 rb).1
  unfold sameB
  rw [ra, rb, (crW_eq a.2.1 a.2.2 b.2.1 b.2.2 (by omega)).1, (crW_eq a.2.2 a.1 b.2.2 b.1 (by omega)).1, (crW_eq a.1 a.2.1 b.1 b.2.1 (by omega)).1, dotW_eq (A := 1000000) (B := 1000000) (withinB_iff.2 a) (withinB_iff.2 b) (by omega), hc.1, hc.2.1, hc.2.2]
  simp [zeroB, hd]
theorem sq_zero3 {x y z : Int} (h : x * x + y * y + z * z = 0) : x = 0 ∧ y = 0 ∧ z = 0 := by
  have h1 := sqn x
  have h2 := sqn y
  have h3 := sqn z
  have e1 : x * x = 0 := by omega
  have e2 : y * y = 0 := by omega
  have e3 : z * z = 0 := by omega
  refine ⟨?_, ?_, ?_⟩
  · rcases Int.mul_eq_zero.1 e1 with e | e <;> exact e
  · rcases Int.mul_eq_zero.1 e2 with e | e <;> exact e
  · rcases Int.mul_eq_zero.1 e3 with e | e <;> exact e
/-- two directions that a turn brings to the same way are of the same way -/
theorem ap_same {a b c d s1 s2 s3 t1 t2 t3 : Int} (ht : rightT a b c d = true) (hs : rightB s1 s2 s3 = true) (hu : rightB t1 t2 t3 = true)
    (h : (apY a b c d s1 s2 s3 * apZ a b c d t1 t2 t3 - apZ a b c d s1 s2 s3 * apY a b c d t1 t2 t3 = 0 ∧ apZ a b c d s1 s2 s3 * apX a b c d t1 t2 t3 - apX a b c d s1 s2 s3 * apZ a b c d t1 t2 t3 = 0 ∧ apX a b c d s1 s2 s3 * apY a b c d t1 t2 t3 - apY a b c d s1 s2 s3 * apX a b c d t1 t2 t3 = 0) ∧ 0 < dot (apX a b c d s1 s2 s3) (apY a b c d s1 s2 s3) (apZ a b c d s1 s2 s3) (apX a b c d t1 t2 t3) (apY a b c d t1 t2 t3) (apZ a b c d t1 t2 t3)) : sameB s1 s2 s3 t1 t2 t3 = true := by
  have hp := nT_pos (rightT_ne ht)
  obtain ⟨⟨h1, h2, h3⟩, h4⟩ := h
  have d1 := ap_dot a b c d s1 s2 s3 t1 t2 t3
  have d2 := ap_dot a b c d s1 s2 s3 s1 s2 s3
  have d3 := ap_dot a b c d t1 t2 t3 t1 t2 t3
  generalize apX a b c d s1 s2 s3 = p1 at *
  generalize apY a b c d s1 s2 s3 = p2 at *
  generalize apZ a b c d s1 s2 s3 = p3 at *
  generalize apX a b c d t1 t2 t3 = q1 at *
  generalize apY a b c d t1 t2 t3 = q2 at *
  generalize apZ a b c d t1 t2 t3 = q3 at *
  generalize nT a b c d = N at *
  have hNN := Int.mul_pos hp hp
  have hN4 := Int.mul_pos hNN hNN
  have lag : dot p1 p2 p3 p1 p2 p3 * dot q1 q2 q3 q1 q2 q3 = dot p1 p2 p3 q1 q2 q3 * dot p1 p2 p3 q1 q2 q3 := by
    have e : dot p1 p2 p3 p1 p2 p3 * dot q1 q2 q3 q1 q2 q3 - dot p1 p2 p3 q1 q2 q3 * dot p1 p2 p3 q1 q2 q3 = (p2 * q3 - p3 * q2) * (p2 * q3 - p3 * q2) + (p3 * q1 - p1 * q3) * (p3 * q1 - p1 * q3) + (p1 * q2 - p2 * q1) * (p1 * q2 - p2 * q1) := by unfold dot; grind
    rw [h1, h2, h3] at e
    omega
  rw [d1, d2, d3] at lag
  have e0 : N * N * (N * N) * (dot s1 s2 s3 s1 s2 s3 * dot t1 t2 t3 t1 t2 t3 - dot s1 s2 s3 t1 t2 t3 * dot s1 s2 s3 t1 t2 t3) = 0 := by
    generalize dot s1 s2 s3 s1 s2 s3 = x at *
    generalize dot t1 t2 t3 t1 t2 t3 = y at *
    generalize dot s1 s2 s3 t1 t2 t3 = z at *
    grind
  have e1 : dot s1 s2 s3 s1 s2 s3 * dot t1 t2 t3 t1 t2 t3 - dot s1 s2 s3 t1 t2 t3 * dot s1 s2 s3 t1 t2 t3 = 0 := by
    rcases Int.mul_eq_zero.1 e0 with e | e
    · omega
    · exact e
  have e2 : (s2 * t3 - s3 * t2) * (s2 * t3 - s3 * t2) + (s3 * t1 - s1 * t3) * (s3 * t1 - s1 * t3) + (s1 * t2 - s2 * t1) * (s1 * t2 - s2 * t1) = 0 := by
    rw [← e1]; unfold dot; grind
  refine same_mk hs hu (sq_zero3 e2) ?_
  rw [d1] at h4
  rcases Int.lt_or_le 0 (dot s1 s2 s3 t1 t2 t3) with h | h
  · exact h
  · have := Int.mul_le_mul_of_nonneg_left h (Int.le_of_lt hNN)
    simp at this
    omega
theorem sky_apart {L : List St} (h : skyB L = true) {i j : Nat} (hi : i < L.length) (hj : j < i) : sameS (stA L i) (stA L j) = false := by
  have := (sky_ok h).2 i hi
  unfold okAt at this
  simp only [Bool.and_eq_true] at this
  have h2 : takenB L (stA L i) i = false := by simpa using this.2
  unfold takenB at h2
  rw [List.any_eq_false] at h2
  have := h2 j (List.mem_range.2 hj)
  simpa using this
theorem hit_one {L : List St} {a b c d : Int} {v : D3} (hk : skyB L = true) (ht : rightT a b c d = true) {i j : Nat} (hi : i < L.length) (hj : j < i) (h1 : sameD v (apD a b c d (stA L i).2) = true) : sameD v (apD a b c d (stA L j).2) = false := by
  cases h2 : sameD v (apD a b c d (stA L j).2)
  · rfl
  · exfalso
    unfold sameD apD at h1 h2
    obtain ⟨rv, _, ⟨b1, b2, b3⟩, b4⟩ := same_parts h1
    obtain ⟨_, _, ⟨c1, c2, c3⟩, c4⟩ := same_parts h2
    have := cross_dot (rightB_iff.1 rv).2 b1 b2 b3 c1 c2 c3 b4 c4
    have e := ap_same ht (small_iff (ok_small ((sky_ok hk).2 i hi))).1 (small_iff (ok_small ((sky_ok hk).2 j (by omega)))).1 this
    have := sky_apart hk hi hj
    unfold sameS at this
    rw [this] at e
    cases e
theorem hits_none {L : List St} {a b c d : Int} {v : D3} : ∀ k, (∀ j, j < k → sameD v (apD a b c d (stA L j).2) = false) → hitsTo L a b c d v k = 0
  | 0, _ => rfl
  | k + 1, h => by
    unfold hitsTo
    rw [hits_none k (fun j hj => h j (by omega)), h k (by omega)]
    rfl
theorem id_pos {L : List St} (h : skyB L = true) {i : Nat} (hi : i < L.length) : (stA L i).1 ≠ 0 := by
  have := (sky_ok h).2 i hi
  unfold okAt idB at this
  simp only [Bool.and_eq_true, decide_eq_true_eq] at this
  omega
theorem hits_id {L : List St} {a b c d : Int} {v : D3} (hk : skyB L = true) (ht : rightT a b c d = true) : ∀ k, k ≤ L.length → hitsTo L a b c d v k = if idTo L a b c d v k ≠ 0 then 1 else 0
  | 0, _ => rfl
  | k + 1, h => by
    unfold hitsTo idTo
    cases hs : sameD v (apD a b c d (stA L k).2)
    · rw [hits_id hk ht k (by omega)]
      simp
    · rw [hits_none k (fun j hj => hit_one hk ht (show k < L.length by omega) hj hs)]
      simp [id_pos hk (show k < L.length by omega)]
theorem hits_cnt {L : List St} {a b c d : Int} {S : List D3} (hk : skyB L = true) (ht : rightT a b c d = true) (hp : spotsB S = true) : hitsOf L a b c d S L.length S.length = cntN (matchL L a b c d S) := by
  rw [match_yes hk ht hp]
  have : ∀ i, i ≤ S.length → hitsOf L a b c d S L.length i = cntN ((S.map (fun v => idTo L a b c d v L.length)).take i) := by
    intro i
    induction i with
    | zero => intro _; rfl
    | succ i ih =>
      intro hi
      have hi' : i < (S.map (fun v => idTo L a b c d v L.length)).length := by rw [List.length_map]; omega
      rw [cntN_take _ hi', ← ih (by omega)]
      show hitsOf L a b c d S L.length i + hitsTo L a b c d (vA S i) L.length = _
      rw [hits_id hk ht _ (Nat.le_refl _)]
      have e : (S.map (fun v => idTo L a b c d v L.length)).getD i 0 = idTo L a b c d (vA S i) L.length := by
        unfold vA
        rw [List.getD_eq_getElem?_getD, List.getElem?_map, List.getElem?_eq_getElem (show i < S.length by omega), List.getD_eq_getElem?_getD, List.getElem?_eq_getElem (show i < S.length by omega)]
        rfl
      rw [e]
  have h := this S.length (Nat.le_refl _)
  rw [h, List.take_of_length_le (by rw [List.length_map]; exact Nat.le_refl _)]
end Go.Proofs.YtjdehbpgdplolaaGreatDoor

namespace Go.Proofs.YtjdehbpgdplolaaGreatDoor
set_option linter.unusedVariables false

structure Tk where
  L : List St
  lim : Int
  mode : Int
  A : Int
  B : Int
  C : Int
  D : Int
  coast : Int
  fr : Int
def spanB (lo hi x : Int) : Bool := decide (lo ≤ x) && decide (x ≤ hi)
def modeB (t : Tk) : Bool :=
  if t.mode = 0 then eqT t.A t.B t.C t.D 0 0 0 0 && decide (t.coast = 0)
  else if t.mode = 1 then rightT t.A t.B t.C t.D && decide (t.coast = 0)
  else if t.mode = 2 then rightT t.A t.B t.C t.D && spanB 1 t.lim t.coast
  else false
def headB (t : Tk) : Bool := skyB t.L && spanB 1 5 t.lim && spanB 0 1000000 t.fr
def trackB (t : Tk) : Bool := headB t && modeB t
theorem span_yes {lo hi x : Int} (h1 : lo ≤ x) (h2 : x ≤ hi) : spanB lo hi x = true := by unfold spanB; rw [decide_eq_true h1, decide_eq_true h2]; rfl
theorem span_low {lo hi x : Int} (h : ¬ lo ≤ x) : spanB lo hi x = false := by unfold spanB; rw [decide_eq_false h]; rfl
theorem span_high {lo hi x : Int} (h : ¬ x ≤ hi) : spanB lo hi x = false := by unfold spanB; rw [decide_eq_false h]; simp
theorem span_iff {lo hi x : Int} : spanB lo hi x = true ↔ lo ≤ x ∧ x ≤ hi := by unfold spanB; simp
theorem track_no1 {t : Tk} (h : skyB t.L = false) : trackB t = false := by unfold trackB headB; rw [h]; rfl
theorem track_no2 {t : Tk} (h : spanB 1 5 t.lim = false) : trackB t = false := by unfold trackB headB; rw [h]; simp
theorem track_no3 {t : Tk} (h : spanB 0 1000000 t.fr = false) : trackB t = false := by unfold trackB headB; rw [h]; simp
theorem track_head {t : Tk} (h1 : skyB t.L = true) (h2 : spanB 1 5 t.lim = true) (h3 : spanB 0 1000000 t.fr = true) : trackB t = modeB t := by unfold trackB headB; rw [h1, h2, h3]; rfl
theorem mode_0 {t : Tk} (h : t.mode = 0) : modeB t = (eqT t.A t.B t.C t.D 0 0 0 0 && decide (t.coast = 0)) := by unfold modeB; rw [if_pos h]
theorem mode_1 {t : Tk} (h : t.mode = 1) : modeB t = (rightT t.A t.B t.C t.D && decide (t.coast = 0)) := by unfold modeB; rw [if_neg (by omega), if_pos h]
theorem mode_2 {t : Tk} (h : t.mode = 2) : modeB t = (rightT t.A t.B t.C t.D && spanB 1 t.lim t.coast) := by unfold modeB; rw [if_neg (by omega), if_neg (by omega), if_pos h]
theorem mode_n {t : Tk} (h0 : t.mode ≠ 0) (h1 : t.mode ≠ 1) (h2 : t.mode ≠ 2) : modeB t = false := by unfold modeB; rw [if_neg h0, if_neg h1, if_neg h2]
theorem track_sky {t : Tk} (h : trackB t = true) : skyB t.L = true := by
  cases hq : skyB t.L
  · rw [track_no1 hq] at h; cases h
  · rfl
theorem track_lim {t : Tk} (h : trackB t = true) : 1 ≤ t.lim ∧ t.lim ≤ 5 := by
  cases hq : spanB 1 5 t.lim
  · rw [track_no2 hq] at h; cases h
  · exact span_iff.1 hq
theorem track_fr {t : Tk} (h : trackB t = true) : 0 ≤ t.fr ∧ t.fr ≤ 1000000 := by
  cases hq : spanB 0 1000000 t.fr
  · rw [track_no3 hq] at h; cases h
  · exact span_iff.1 hq
theorem track_mode {t : Tk} (h : trackB t = true) : modeB t = true := by unfold trackB at h; rw [Bool.and_eq_true] at h; exact h.2
/-- who is not lost has a right turn -/
theorem track_turn {t : Tk} (h : trackB t = true) (h0 : t.mode ≠ 0) : rightT t.A t.B t.C t.D = true := by
  have hm := track_mode h
  by_cases h1 : t.mode = 1
  · rw [mode_1 h1, Bool.and_eq_true] at hm; exact hm.1
  · by_cases h2 : t.mode = 2
    · rw [mode_2 h2, Bool.and_eq_true] at hm; exact hm.1
    · rw [mode_n h0 h1 h2] at hm; cases hm
/-- a tracker that is lost -/
def lostT (t : Tk) : Tk := { t with mode := 0, A := 0, B := 0, C := 0, D := 0, coast := 0 }
def zeroK : Tk := ⟨[], 0, 0, 0, 0, 0, 0, 0, 0⟩
end Go.Proofs.YtjdehbpgdplolaaGreatDoor
