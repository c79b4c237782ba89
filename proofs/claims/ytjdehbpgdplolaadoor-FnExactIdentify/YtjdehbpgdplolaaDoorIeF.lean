/- Identify: the specification's. -/
import Derived.Test.YtjdehbpgdplolaaDoorIeE
namespace Go.Proofs.YtjdehbpgdplolaaDoor
open Go.RowKit Go.Sort
set_option linter.unusedVariables false

def idOk (L : List St) (S : List D3) : Bool := skyB L && spotsB S
def identL (L : List St) (S : List D3) : List Int := if 400 < L.length ∨ 400 < S.length then [] else if idOk L S = true then idIds L S else []
def identC (L : List St) (S : List D3) : Int := if 400 < L.length ∨ 400 < S.length then 0 else if idOk L S = true then idCnt L S else 0
def identK (L : List St) (S : List D3) : Int := if 400 < L.length ∨ 400 < S.length then 2 else if idOk L S = true then idCode L S else 1
theorem ident_big {L : List St} {S : List D3} (h : 400 < L.length ∨ 400 < S.length) : identL L S = [] ∧ identC L S = 0 ∧ identK L S = 2 := by unfold identL identC identK; rw [if_pos h, if_pos h, if_pos h]; exact ⟨rfl, rfl, rfl⟩
theorem ident_no {L : List St} {S : List D3} (h : ¬ (400 < L.length ∨ 400 < S.length)) (h1 : idOk L S = false) : identL L S = [] ∧ identC L S = 0 ∧ identK L S = 1 := by unfold identL identC identK; rw [if_neg h, if_neg h, if_neg h, h1]; exact ⟨rfl, rfl, rfl⟩
theorem ident_yes {L : List St} {S : List D3} (h : ¬ (400 < L.length ∨ 400 < S.length)) (h1 : idOk L S = true) : identL L S = idIds L S ∧ identC L S = idCnt L S ∧ identK L S = idCode L S := by unfold identL identC identK; rw [if_neg h, if_neg h, if_neg h, if_pos h1, if_pos h1, if_pos h1]; exact ⟨rfl, rfl, rfl⟩
theorem res_sident (T : Array Value) (X : World) (b : Nat) (v : Value) (c k : Int) (hT : T.getD 4 undef = .pointer (some ⟨b, 0, none⟩)) (h : IdO X b v c k) : (results Tryd.f6 T).run Tryd.prog X = .ok (.agg #[v, .int .i64 c, .int .i64 k]) X := by
  obtain ⟨h0, h1, h2⟩ := h
  simp only [Array.getD_eq_getD_getElem?] at hT
  simp [results, Tryd.results6, go_sem, hT, h0, h1, h2]
theorem outI_none {w' : World} {B : Nat} {L : List St} {S : List D3} {k : Int} (h : identL L S = [] ∧ identC L S = 0 ∧ identK L S = k) : OutI w' B (identL L S) (identC L S) (identK L S) (.returned (.agg #[.slice none 0 0, .int .i64 0, .int .i64 k])) := by
  rw [h.1, h.2.1, h.2.2]
  exact ⟨_, rfl, World.ownsRow_nil _ _ _ _⟩

set_option maxHeartbeats 4000000 in
set_option maxRecDepth 100000 in
theorem specIdentify_any (L : List St) (S : List D3) (ar br : Option Addr) (cr dr : Nat) (w : World) (hn : L.length ≤ 1048576) (hm : S.length ≤ 1048576) (hdr : S.length ≤ dr) (hd9 : dr ≤ 9223372036854775807) (hS : Stars w ar L L.length) (hD : Dirs w br S S.length) (hA : ∀ y, ar = some y → y.block < w.heap.size) (hB : ∀ y, br = some y → y.block < w.heap.size) :
    Calls Tryd.prog 6 #[.slice ar L.length cr, .slice br S.length dr] w fun e w' => OutI w' w.heap.size (identL L S) (identC L S) (identK L S) e ∧ Below w.heap.size w w' := by
  have B0 := below1 w (.cells #[.slice none 0 0, .int .i64 0, .int .i64 0] 28)
  by_cases hbig : 400 < L.length ∨ 400 < S.length
  · have HO := hide (ident_big hbig)
    by_cases h4 : 400 < L.length
    · have h4' : (400 : Int) < (L.length : Int) := by omega
      go_enter Tryd.func6, Tryd.ntmps6
      go_wp2
      exact bodyPost_ret (v := .agg #[.slice none 0 0, .int .i64 0, .int .i64 2]) (by simp [results, Tryd.results6, go_sem]) rfl ⟨outI_none (unhide HO), below1 _ _⟩
    · have h4' : ¬ (400 : Int) < (L.length : Int) := by omega
      have h5' : (400 : Int) < (S.length : Int) := by omega
      go_enter Tryd.func6, Tryd.ntmps6
      go_wp2
      exact bodyPost_ret (v := .agg #[.slice none 0 0, .int .i64 0, .int .i64 2]) (by simp [results, Tryd.results6, go_sem]) rfl ⟨outI_none (unhide HO), below1 _ _⟩
  have h4' : ¬ (400 : Int) < (L.length : Int) := by omega
  have h5' : ¬ (400 : Int) < (S.length : Int) := by omega
  have R0 : IdO (w.alloc (.cells #[.slice none 0 0, .int .i64 0, .int .i64 0] 28)) w.heap.size (.slice none 0 0) 0 0 := by refine ⟨?_, ?_, ?_⟩ <;> simp
  have F0 : FreeX (w.alloc (.cells #[.slice none 0 0, .int .i64 0, .int .i64 0] 28)) w.heap.size := fun i => by simp
  have hsz : w.heap.size + 1 ≤ (w.alloc (.cells #[.slice none 0 0, .int .i64 0, .int .i64 0] 28)).heap.size := by simp
  have cS := hide (fun (W : World) h => specSky_any L ar cr W hn h)
  have cD := hide (fun (W : World) h => specSpotsRight_any S br dr W hm h)
  have HB := hide B0
  have HR := hide R0
  have HF := hide F0
  have HS := hide (hS.kept B0)
  have HD := hide (hD.kept B0)
  clear B0 R0 F0 hS hD
  go_enter Tryd.func6, Tryd.ntmps6
  go_wp2_with fail
  generalize hW : w.alloc (.cells #[.slice none 0 0, .int .i64 0, .int .i64 0] 28) = W at *
  clear hW
  refine (unhide cS _ (unhide HS)).mono ?_
  rintro e w1 ⟨rfl, hx⟩
  have B1 := hide (below_call (unhide HB) hx)
  have R1 := hide ((unhide HR).kept hx)
  have F1 := hide ((unhide HF).kept (by omega) hx)
  have S1 := hide ((unhide HS).kept hx)
  have D1 := hide ((unhide HD).kept hx)
  have hsz1 : w.heap.size + 1 ≤ w1.heap.size := Nat.le_trans hsz hx.size
  clear hx HB HR HF HS HD hsz cS
  cases hk : skyB L
  · have HO := hide (ident_no hbig (by unfold idOk; rw [hk]; rfl))
    obtain ⟨r0, r1, r2⟩ := unhide R1
    have f0 := unhide F1 0
    have f1 := unhide F1 1
    have f2 := unhide F1 2
    go_wp2_with fail
    clear r0 r1 r2 f0 f1 f2
    exact bodyPost_ret (v := .agg #[.slice none 0 0, .int .i64 0, .int .i64 1]) (res_sident _ _ w.heap.size _ 0 1 rfl (idO_set (unhide R1) _ _ _)) rfl ⟨outI_none (unhide HO), ((((unhide B1).setCell (Nat.le_refl _) _).setCell (Nat.le_refl _) _).setCell (Nat.le_refl _) _)⟩
  go_wp2_with fail
  refine (unhide cD _ (unhide D1)).mono ?_
  rintro e w2 ⟨rfl, hx⟩
  have B2 := hide (below_call (unhide B1) hx)
  have R2 := hide ((unhide R1).kept hx)
  have F2 := hide ((unhide F1).kept (by omega) hx)
  have S2 := hide ((unhide S1).kept hx)
  have D2 := hide ((unhide D1).kept hx)
  have hsz2 : w.heap.size + 1 ≤ w2.heap.size := Nat.le_trans hsz1 hx.size
  clear hx B1 R1 F1 S1 D1 hsz1 cD
  cases hp : spotsB S
  · have HO := hide (ident_no hbig (by unfold idOk; rw [hp, Bool.and_false]))
    obtain ⟨r0, r1, r2⟩ := unhide R2
    have f0 := unhide F2 0
    have f1 := unhide F2 1
    have f2 := unhide F2 2
    go_wp2_with fail
    clear r0 r1 r2 f0 f1 f2
    exact bodyPost_ret (v := .agg #[.slice none 0 0, .int .i64 0, .int .i64 1]) (res_sident _ _ w.heap.size _ 0 1 rfl (idO_set (unhide R2) _ _ _)) rfl ⟨outI_none (unhide HO), ((((unhide B2).setCell (Nat.le_refl _) _).setCell (Nat.le_refl _) _).setCell (Nat.le_refl _) _)⟩
  have HO := hide (ident_yes hbig (by unfold idOk; rw [hk, hp]; rfl))
  have cI := hide (l06Identify_any L S ar br cr dr w2 hk hp hdr hd9 (unhide S2) (unhide D2) (fun y e => by have := hA y e; omega) (fun y e => by have := hB y e; omega))
  clear hk hp
  go_wp2_with fail
  refine (unhide cI).mono ?_
  rintro e w3 ⟨⟨v, rfl, ho⟩, hx⟩
  obtain ⟨av, cv, rfl⟩ := own_form ho
  have B3 := hide (below_call (unhide B2) hx)
  have R3 := hide ((unhide R2).kept hx)
  have F3 := hide ((unhide F2).kept (by omega) hx)
  have O3 := hide ho
  clear hx ho B2 R2 F2 S2 D2 cI
  rw [← (unhide HO).1] at O3
  rw [← (unhide HO).1, ← (unhide HO).2.1, ← (unhide HO).2.2]
  obtain ⟨r0, r1, r2⟩ := unhide R3
  have f0 := unhide F3 0
  have f1 := unhide F3 1
  have f2 := unhide F3 2
  go_wp2_with fail
  clear r0 r1 r2 f0 f1 f2
  refine bodyPost_ret (v := .agg #[.slice av (identL L S).length cv, .int .i64 (identC L S), .int .i64 (identK L S)]) (res_sident _ _ w.heap.size _ (identC L S) (identK L S) rfl (idO_set (unhide R3) _ _ _)) rfl ⟨⟨_, rfl, ?_⟩, ((((unhide B3).setCell (Nat.le_refl _) _).setCell (Nat.le_refl _) _).setCell (Nat.le_refl _) _)⟩
  exact oLower (ownFarI (ownFarI (ownFarI (unhide O3) (by omega) _ _) (by omega) _ _) (by omega) _ _) (by omega)
end Go.Proofs.YtjdehbpgdplolaaDoor
