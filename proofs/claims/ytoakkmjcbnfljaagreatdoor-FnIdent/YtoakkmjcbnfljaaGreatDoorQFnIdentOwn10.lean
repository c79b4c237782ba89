/- Several texts in one: IeU. -/
import Derived.Test.YtoakkmjcbnfljaaGreatDoorQFnIdentOwn9
namespace Go.Proofs.YtoakkmjcbnfljaaGreatDoor
set_option linter.unusedVariables false
set_option linter.unusedSimpArgs false
set_option maxRecDepth 100000
set_option maxHeartbeats 8000000
section
open Go.RowKit Go.Sort Go.Shelf
def OutP (w' : World) (B : Nat) (ids : List Int) (cnt code : Int) (e : Ending) : Prop := ∃ v, e = .returned (.agg #[v, .int .i64 cnt, .int .i64 code]) ∧ ((ids = [] ∧ v = .slice none 0 0) ∨ ∃ g, v = .slice (some ⟨g, 0, none⟩) ids.length ids.length ∧ B ≤ g ∧ cq w' 2 g (ids.length * 1) (li ids))
theorem ft (T : Array Value) (X : World) (b : Nat) (v : Value) (c k : Int) (hT : T.getD 4 undef = .pointer (some ⟨b, 0, none⟩)) (h : IdO X b v c k) : (results Tryz.f5 T).run Tryz.prog X = .ok (.agg #[v, .int .i64 c, .int .i64 k]) X := by
 obtain ⟨h0, h1, h2⟩ := h
 simp only [Array.getD_eq_getD_getElem?] at hT
 simp [results, Tryz.results5, go_sem, hT, h0, h1, h2]
theorem lq {W : World} {x g m : Nat} {t : TypeId} {f : Nat → Value} (h : cq W t g m f) (hne : g ≠ x) (o : Nat) (v : Value) : cq (W.setCell ⟨x, o, none⟩ v) t g m f := by
 obtain ⟨cur, hc, hr⟩ := h
 exact ⟨cur, by rw [Below.heap_setCell W ⟨x, o, none⟩ v g hne]; exact hc, hr⟩
theorem ou : ∀ (X : List (List Int)) (g : List Int × Nat), (X.foldl aR g).2 ≤ g.2 + X.length
 | [], g => by simp
 | x :: X, g => by
  have h1 := ou X (aR g x)
  have h2 : (aR g x).2 ≤ g.2 + 1 := by
   unfold aR
   split
   ·exact Nat.le_succ _
   ·split
    ·show 1 ≤ g.2 + 1; omega
    ·exact Nat.le_refl _
  rw [List.foldl_cons, List.length_cons]
  omega
theorem rf (L : List St) (S : List D3) (hk : aL L = true) (hm : S.length ≤ 6) : (aW L S).2 ≤ 4826809 := by
 have h1 := ou (cg (bs L S) (L.map (·.1)) S.length []) ([], 0)
 have h2 := iG (bs L S) (L.map (·.1)) (by rw [List.length_map]; exact (bm hk).1) S.length []
 have h3 : 13 ^ S.length ≤ 13 ^ 6 := Nat.pow_le_pow_right (by omega) hm
 have h4 : (13 : Nat) ^ 6 = 4826809 := by decide
 unfold aW
 rw [h4] at h3
 exact Nat.le_trans h1 (by show 0 + _ ≤ _; omega)
theorem eI {w' : World} {B : Nat} {L : List St} {S : List D3} {k : Int} (h : bl L S = [] ∧ bT L S = 0 ∧ bH L S = k) : OutP w' B (bl L S) (bT L S) (bH L S) (.returned (.agg #[.slice none 0 0, .int .i64 0, .int .i64 k])) := by
 rw [h.1, h.2.1, h.2.2]
 exact ⟨_, rfl, .inl ⟨rfl, rfl⟩⟩
theorem np (L : List St) (S : List D3) (ar br : Option Addr) (cr dr : Nat) (p : Addr) (w : World) (hn : L.length ≤ 1048576) (hm : S.length ≤ 1048576) (hcr : L.length ≤ cr) (hc9 : cr ≤ 9223372036854775807) (hdr : S.length ≤ dr) (hd9 : dr ≤ 9223372036854775807) (hS : aJ w ar L L.length) (hD : bi w br S S.length) (hA : ∀ y, ar = some y → y.block < w.heap.size) (hB : ∀ y, br = some y → y.block < w.heap.size) (hE : bg p w) :
  Calls Tryz.prog 5 #[.slice ar L.length cr, .slice br S.length dr] w fun e w' => OutP w' w.heap.size (bl L S) (bT L S) (bH L S) e ∧ Below w.heap.size w w' := by
 have B0 := ak w (.cells #[.slice none 0 0, .int .i64 0, .int .i64 0] 29)
 by_cases hbig : 400 < L.length ∨ 400 < S.length
 ·have HO := yz (gC hbig)
  by_cases h4 : 400 < L.length
  ·have h4' : (400 : Int) < (L.length : Int) := by omega
   go_enter Tryz.func5, Tryz.ntmps5
   go_wp2
   exact bodyPost_ret (v := .agg #[.slice none 0 0, .int .i64 0, .int .i64 2]) (by simp [results, Tryz.results5, go_sem]) rfl ⟨eI (yy HO), ak _ _⟩
  ·have h4' : ¬ (400 : Int) < (L.length : Int) := by omega
   have h5' : (400 : Int) < (S.length : Int) := by omega
   go_enter Tryz.func5, Tryz.ntmps5
   go_wp2
   exact bodyPost_ret (v := .agg #[.slice none 0 0, .int .i64 0, .int .i64 2]) (by simp [results, Tryz.results5, go_sem]) rfl ⟨eI (yy HO), ak _ _⟩
 have h4' : ¬ (400 : Int) < (L.length : Int) := by omega
 have h5' : ¬ (400 : Int) < (S.length : Int) := by omega
 have R0 : IdO (w.alloc (.cells #[.slice none 0 0, .int .i64 0, .int .i64 0] 29)) w.heap.size (.slice none 0 0) 0 0 := by refine ⟨?_, ?_, ?_⟩ <;> simp
 have F0 : et (w.alloc (.cells #[.slice none 0 0, .int .i64 0, .int .i64 0] 29)) w.heap.size := fun i => by simp
 have hsz : w.heap.size + 1 ≤ (w.alloc (.cells #[.slice none 0 0, .int .i64 0, .int .i64 0] 29)).heap.size := by simp
 have cS := yz (fun (W : World) h h2 => eD L ar cr p W hn hcr hc9 h h2)
 have HE := yz (hE.kept B0)
 have cD := yz (fun (W : World) h => dS S br dr W hm hdr hd9 h)
 have HB := yz B0
 have HR := yz R0
 have HF := yz F0
 have HS := yz (hS.kept B0)
 have HD := yz (hD.kept B0)
 clear B0 R0 F0 hS hD hE
 go_enter Tryz.func5, Tryz.ntmps5
 go_wp2_with fail
 generalize hW : w.alloc (.cells #[.slice none 0 0, .int .i64 0, .int .i64 0] 29) = W at *
 clear hW
 refine (yy cS _ (yy HS) (yy HE)).mono ?_
 rintro e w1 ⟨rfl, hx⟩
 have B1 := yz (aj (yy HB) hx)
 have R1 := yz ((yy HR).kept hx)
 have F1 := yz ((yy HF).kept (by omega) hx)
 have S1 := yz ((yy HS).kept hx)
 have D1 := yz ((yy HD).kept hx)
 have hsz1 : w.heap.size + 1 ≤ w1.heap.size := Nat.le_trans hsz hx.size
 clear hx HB HR HF HS HD hsz cS
 cases hk : aL L
 ·have HO := yz (fo hbig (by unfold gW; rw [hk]; rfl))
  obtain ⟨r0, r1, r2⟩ := yy R1
  have f0 := yy F1 0
  have f1 := yy F1 1
  have f2 := yy F1 2
  go_wp2_with fail
  clear r0 r1 r2 f0 f1 f2
  exact bodyPost_ret (v := .agg #[.slice none 0 0, .int .i64 0, .int .i64 1]) (ft _ _ w.heap.size _ 0 1 rfl (dO (yy R1) _ _ _)) rfl ⟨eI (yy HO), ((((yy B1).setCell (Nat.le_refl _) _).setCell (Nat.le_refl _) _).setCell (Nat.le_refl _) _)⟩
 go_wp2_with fail
 refine (yy cD _ (yy D1)).mono ?_
 rintro e w2 ⟨rfl, hx⟩
 have B2 := yz (aj (yy B1) hx)
 have R2 := yz ((yy R1).kept hx)
 have F2 := yz ((yy F1).kept (by omega) hx)
 have S2 := yz ((yy S1).kept hx)
 have D2 := yz ((yy D1).kept hx)
 have hsz2 : w.heap.size + 1 ≤ w2.heap.size := Nat.le_trans hsz1 hx.size
 clear hx B1 R1 F1 S1 D1 hsz1 cD
 cases hp : aM S
 ·have HO := yz (fo hbig (by unfold gW; rw [hp, Bool.and_false]))
  obtain ⟨r0, r1, r2⟩ := yy R2
  have f0 := yy F2 0
  have f1 := yy F2 1
  have f2 := yy F2 2
  go_wp2_with fail
  clear r0 r1 r2 f0 f1 f2
  exact bodyPost_ret (v := .agg #[.slice none 0 0, .int .i64 0, .int .i64 1]) (ft _ _ w.heap.size _ 0 1 rfl (dO (yy R2) _ _ _)) rfl ⟨eI (yy HO), ((((yy B2).setCell (Nat.le_refl _) _).setCell (Nat.le_refl _) _).setCell (Nat.le_refl _) _)⟩
 have HO := yz (fp hbig (by unfold gW; rw [hk, hp]; rfl))
 have hs6 : S.length ≤ 6 := (bc hp).1
 have hgb := rf L S hk hs6
 clear hp
 go_wp2_with fail
 refine (oN L S ar br cr dr w2).mono ?_
 rintro e w3 ⟨rfl, p1, p2, hx⟩
 have B3 := yz (aj (yy B2) hx)
 have R3 := yz ((yy R2).kept hx)
 have F3 := yz ((yy F2).kept (by omega) hx)
 have S3 := yz ((yy S2).kept hx)
 have D3' := yz ((yy D2).kept hx)
 have hsz3 : w.heap.size + 1 ≤ w3.heap.size := Nat.le_trans hsz2 hx.size
 have cG := yz ((callsIn_wide (n := 0)).1 (ni L S ar br cr dr w2.heap.size (w2.heap.size + 1) w3 hk hs6 p1 p2 (yy S3) (yy D3') (fun y e => by have := hA y e; omega) (fun y e => by have := hB y e; omega) 0))
 clear p1 p2 hx B2 R2 F2 S2 D2 hk
 go_wp2_with fail
 refine (yy cG).mono ?_
 rintro e w4 ⟨⟨v, rfl, hv⟩, hx, hl6⟩
 have B4 := yz (aj (yy B3) hx)
 have R4 := yz ((yy R3).kept hx)
 have F4 := yz ((yy F3).kept (by omega) hx)
 have hsz4 : w.heap.size + 1 ≤ w4.heap.size := Nat.le_trans hsz3 hx.size
 have HV := yz hv
 clear hx hv B3 R3 F3 S3 D3' cG
 rw [ay (n := ((aW L S).2 : Int)) (by omega) (by omega)]
 have HG := yz (eO L S)
 obtain ⟨Gi, hGi⟩ : ∃ G, (aW L S) = G := ⟨_, rfl⟩
 rw [hGi] at HV HG hgb hl6 ⊢
 clear hGi
 obtain ⟨gi, ga⟩ := Gi
 dsimp only at HV HG hgb hl6 ⊢
 obtain ⟨r0, r1, r2⟩ := yy R4
 have f0 := yy F4 0
 have f1 := yy F4 1
 have f2 := yy F4 2
 by_cases c0 : ga = 0
 ·have c0' : (ga : Int) = 0 := by omega
  go_wp2_with fail
  clear r0 r1 r2 f0 f1 f2
  have h8 : bl L S = [] ∧ bT L S = 0 ∧ bH L S = 6 := ⟨by rw [(yy HO).1, (yy HG).1, if_neg (by omega)], by rw [(yy HO).2.1, (yy HG).2.1, if_neg (by omega)], by rw [(yy HO).2.2, (yy HG).2.2, if_pos c0]⟩
  exact bodyPost_ret (v := .agg #[.slice none 0 0, .int .i64 0, .int .i64 6]) (ft _ _ w.heap.size _ 0 6 rfl (dO (yy R4) _ _ _)) rfl ⟨eI h8, ((((yy B4).setCell (Nat.le_refl _) _).setCell (Nat.le_refl _) _).setCell (Nat.le_refl _) _)⟩
 have c0' : ¬ (ga : Int) = 0 := by omega
 by_cases c1 : 1 < ga
 ·have c1' : (1 : Int) < (ga : Int) := by omega
  go_wp2_with fail
  clear r0 r1 r2 f0 f1 f2
  have h8 : bl L S = [] ∧ bT L S = 0 ∧ bH L S = 11 := ⟨by rw [(yy HO).1, (yy HG).1, if_neg (by omega)], by rw [(yy HO).2.1, (yy HG).2.1, if_neg (by omega)], by rw [(yy HO).2.2, (yy HG).2.2, if_neg c0, if_pos c1]⟩
  exact bodyPost_ret (v := .agg #[.slice none 0 0, .int .i64 0, .int .i64 11]) (ft _ _ w.heap.size _ 0 11 rfl (dO (yy R4) _ _ _)) rfl ⟨eI h8, ((((yy B4).setCell (Nat.le_refl _) _).setCell (Nat.le_refl _) _).setCell (Nat.le_refl _) _)⟩
 have c1' : ¬ (1 : Int) < (ga : Int) := by omega
 have hga : ga = 1 := by omega
 have h8 : bl L S = gi ∧ bT L S = (aD gi : Int) ∧ bH L S = 0 := ⟨by rw [(yy HO).1, (yy HG).1, if_pos hga], by rw [(yy HO).2.1, (yy HG).2.1, if_pos hga], by rw [(yy HO).2.2, (yy HG).2.2, if_neg c0, if_neg c1]⟩
 obtain ⟨va, vc, rfl, hnm⟩ : ∃ a c, v = .slice a gi.length c ∧ bF w4 a gi gi.length := by
  rcases yy HV with ⟨e1, e2⟩ | ⟨g, e, _, hr⟩
  ·exact ⟨none, 0, by rw [e1, e2]; rfl, .inl (by rw [e1]; rfl)⟩
  ·exact ⟨_, _, e, iN hr⟩
 have cN := yz (eL gi va vc w4 (by omega) hnm)
 clear hnm
 go_wp2_with fail
 refine (yy cN).mono ?_
 rintro e w5 ⟨rfl, hw5⟩
 subst hw5
 go_wp2_with fail
 clear r0 r1 r2 f0 f1 f2
 rw [h8.1, h8.2.1, h8.2.2]
 refine bodyPost_ret (v := .agg #[.slice va gi.length vc, .int .i64 (aD gi : Int), .int .i64 0]) (ft _ _ w.heap.size _ (aD gi : Int) 0 rfl (dO (yy R4) _ _ _)) rfl ⟨⟨_, rfl, ?_⟩, ((((yy B4).setCell (Nat.le_refl _) _).setCell (Nat.le_refl _) _).setCell (Nat.le_refl _) _)⟩
 rcases yy HV with h | ⟨g, e, hg, hr⟩
 ·exact .inl h
 ·have hne : g ≠ w.heap.size := by omega
  exact .inr ⟨g, e, by omega, lq (lq (lq hr hne 0 _) hne 1 _) hne 2 _⟩
end
end Go.Proofs.YtoakkmjcbnfljaaGreatDoor
