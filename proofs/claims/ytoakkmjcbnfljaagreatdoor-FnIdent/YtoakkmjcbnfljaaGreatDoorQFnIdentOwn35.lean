/- Several texts in one: TsD, TsB, LwT, SkyW. -/
import Derived.Test.YtoakkmjcbnfljaaGreatDoorRows
import Derived.Deep.Slices
import Derived.Deep.Strs
import Derived.Stop.LaidErr
import Derived.LaidHandle
import Derived.LaidMore
import Derived.ProofKit
import Derived.Test.YtoakkmjcbnfljaaGreatDoorQFnIdentOwn6
import Derived.Test.YtoakkmjcbnfljaaGreatDoorQFnIdentOwn27
import Derived.Test.YtoakkmjcbnfljaaGreatDoorQFnIdentOwn2
namespace Go.Proofs.YtoakkmjcbnfljaaGreatDoor
set_option linter.unusedVariables false
set_option linter.unusedSimpArgs false
set_option maxRecDepth 100000
set_option maxHeartbeats 8000000
section
open Go.RowKit Go.Sort
def tA (L : List T4) (i : Nat) : T4 := L.getD i (0, 0, 0, 0)
theorem sd : ∀ (S : List T4) (k : Nat) (b : T4), S[k]? = some b → ∀ j u, (mP b)[j]? = some u → (cd S)[k * 4 + j]? = some u := by
 intro S
 induction S with
 | nil => intro k b h; simp at h
 | cons x S ih =>
  intro k b h j u hu
  have e : cd (x :: S) = mP x ++ cd S := by unfold cd; simp
  have hj : j < 4 := (List.getElem?_eq_some_iff.1 hu).1
  rw [e]
  cases k with
  | zero =>
   simp at h
   subst h
   rw [List.getElem?_append_left (by show _ < 4; omega)]
   simpa using hu
  | succ k =>
   rw [List.getElem?_append_right (by show 4 ≤ _; omega)]
   rw [show (k + 1) * 4 + j - (mP x).length = k * 4 + j by show _ - 4 = _; omega]
   exact ih k b (by simpa using h) j u hu
def fU (w : World) (g : Nat) (L : List T4) : Prop := g < w.heap.size ∧ ∀ k, k < L.length → w.cell? ⟨g, k * 4, none⟩ = some (.int .i64 (tA L k).1) ∧ w.cell? ⟨g, k * 4 + 1, none⟩ = some (.int .i64 (tA L k).2.1) ∧ w.cell? ⟨g, k * 4 + 2, none⟩ = some (.int .i64 (tA L k).2.2.1) ∧ w.cell? ⟨g, k * 4 + 3, none⟩ = some (.int .i64 (tA L k).2.2.2)
theorem fU.kept {w w' : World} {g : Nat} {L : List T4} (h : fU w g L) (hB : Below w.heap.size w w') : fU w' g L := by
 refine ⟨Nat.lt_of_lt_of_le h.1 hB.size, fun k hk => ?_⟩
 obtain ⟨h0, h1, h2, h3⟩ := h.2 k hk
 exact ⟨by rw [hB.cell (p := ⟨g, k * 4, none⟩) h.1]; exact h0, by rw [hB.cell (p := ⟨g, k * 4 + 1, none⟩) h.1]; exact h1, by rw [hB.cell (p := ⟨g, k * 4 + 2, none⟩) h.1]; exact h2, by rw [hB.cell (p := ⟨g, k * 4 + 3, none⟩) h.1]; exact h3⟩
theorem mQ {w : World} {B : Nat} {v : Value} {L : List T4} (h : w.ownsRow B 34 4 v L.length (cd L)) (h0 : 0 < L.length) : ∃ g c, v = .slice (some ⟨g, 0, none⟩) L.length c ∧ B ≤ g ∧ fU w g L := by
 rcases h.2 with ⟨h1, h0'⟩ | ⟨g, cap, cur, hv, hb, hg, hnc, hcm, hcs, htake⟩
 ·omega
 ·refine ⟨g, cap, hv, hb, (Array.getElem?_eq_some_iff.1 hg).1, fun k hk => ?_⟩
  have hk' : L[k]? = some (tA L k) := by unfold tA; rw [List.getD, List.getElem?_eq_getElem hk]; rfl
  have cl : ∀ j u, (mP (tA L k))[j]? = some u → w.cell? ⟨g, k * 4 + j, none⟩ = some u := by
   intro j u hu
   have hj : j < 4 := (List.getElem?_eq_some_iff.1 hu).1
   have e := sd L k _ hk' j u hu
   rw [cell_of_row w g _ cur _ _ hg]
   rw [← htake, List.getElem?_take, if_pos (by omega)] at e
   simpa using e
  exact ⟨cl 0 _ rfl, cl 1 _ rfl, cl 2 _ rfl, cl 3 _ rfl⟩
theorem lY (w : World) :
  Calls Tryz.prog 77 #[] w fun e w' => (∃ v, e = .returned v ∧ w'.ownsRow w.heap.size 34 4 v (ax 625).length (cd (ax 625))) ∧ Below w.heap.size w w' := by
 obtain ⟨i0, hinf, hz0, hz1, hz2⟩ := info_parts mC
 have hm8 : 1000 ≤ maxLen := by decide +kernel
 have HO0 := yz (ru w w.heap.size (Nat.le_refl _))
 have HB0 := yz (ak w (.cells #[] 34))
 go_enter Tryz.func77, Tryz.ntmps77
 go_wp2_with fail
 generalize w.alloc (.cells #[] 34) = W0 at HO0 HB0 ⊢
 go_loopw [1, 2] (fun v kk wr => ∃ i : Nat, i ≤ 5 ∧ kk = .int .i64 ((i : Int) - 2) ∧ Hid (wr.ownsRow w.heap.size 34 4 v (ax (i * 125)).length (cd (ax (i * 125)))) ∧ Hid (Below w.heap.size w wr)) (fun _ kk _ => (3 - intOf kk).toNat)
 case atStart => exact ⟨0, by omega, rfl, HO0, HB0⟩
 case round =>
  clear HO0 HB0
  obtain ⟨i, hi, rfl, HO1, HB1⟩ := hrel
  by_cases hi5 : i < 5
  ·have hi2 : (i : Int) - 2 ≤ 2 := by omega
   go_wp2_with fail
   go_loopw [1, 3] (fun v kk wr => ∃ j : Nat, j ≤ 5 ∧ kk = .int .i64 ((j : Int) - 2) ∧ Hid (wr.ownsRow w.heap.size 34 4 v (ax (i * 125 + j * 25)).length (cd (ax (i * 125 + j * 25)))) ∧ Hid (Below w.heap.size w wr)) (fun _ kk _ => (3 - intOf kk).toNat)
   case atStart => exact ⟨0, by omega, rfl, yz (by have h := yy HO1; simpa using h), HB1⟩
   case round =>
    clear HO1 HB1
    obtain ⟨j, hj, rfl, HO2, HB2⟩ := hrel
    by_cases hj5 : j < 5
    ·have hj2 : (j : Int) - 2 ≤ 2 := by omega
     go_wp2_with fail
     go_loopw [1, 4] (fun v kk wr => ∃ l : Nat, l ≤ 5 ∧ kk = .int .i64 ((l : Int) - 2) ∧ Hid (wr.ownsRow w.heap.size 34 4 v (ax (i * 125 + j * 25 + l * 5)).length (cd (ax (i * 125 + j * 25 + l * 5)))) ∧ Hid (Below w.heap.size w wr)) (fun _ kk _ => (3 - intOf kk).toNat)
     case atStart => exact ⟨0, by omega, rfl, yz (by have h := yy HO2; simpa using h), HB2⟩
     case round =>
      clear HO2 HB2
      obtain ⟨l, hl, rfl, HO3, HB3⟩ := hrel
      by_cases hl5 : l < 5
      ·have hl2 : (l : Int) - 2 ≤ 2 := by omega
       go_wp2_with fail
       go_loopw [1, 5] (fun v kk wr => ∃ m : Nat, m ≤ 5 ∧ kk = .int .i64 ((m : Int) - 2) ∧ Hid (wr.ownsRow w.heap.size 34 4 v (ax (i * 125 + j * 25 + l * 5 + m)).length (cd (ax (i * 125 + j * 25 + l * 5 + m)))) ∧ Hid (Below w.heap.size w wr)) (fun _ kk _ => (3 - intOf kk).toNat)
       case atStart => exact ⟨0, by omega, rfl, yz (by have h := yy HO3; simpa using h), HB3⟩
       case round =>
        clear HO3 HB3
        obtain ⟨m, hm, rfl, HO4, HB4⟩ := hrel
        by_cases hm5 : m < 5
        ·have hm2 : (m : Int) - 2 ≤ 2 := by omega
         have hta := ur i j l m hj5 hl5 hm5
         have hpl := gR (i * 125 + j * 25 + l * 5 + m)
         have HSN := yz (lN (i * 125 + j * 25 + l * 5 + m))
         rw [hta] at HSN
         clear hta
         generalize hke : i * 125 + j * 25 + l * 5 + m = k at *
         have hkb : k < 625 := by omega
         have HKE : Hid (i * 125 + j * 25 + l * 5 + (m + 1) = k + 1) := yz (by omega)
         clear hke
         have Z := ak wr (.cells #[.int .i64 ((i : Int) - 2), .int .i64 ((j : Int) - 2), .int .i64 ((l : Int) - 2), .int .i64 ((m : Int) - 2)] 34)
         have HBa := yz (aj (yy HB4) Z)
         have HOa := yz (fc (yy HO4) Z)
         have TA1 := aT wr ((i : Int) - 2) ((j : Int) - 2) ((l : Int) - 2) ((m : Int) - 2) 34
         clear Z HO4 HB4
         go_wp2_with fail
         obtain ⟨p, hp⟩ : ∃ p, p = (i : Int) - 2 := ⟨_, rfl⟩
         obtain ⟨q, hq⟩ : ∃ p, p = (j : Int) - 2 := ⟨_, rfl⟩
         obtain ⟨r, hr⟩ : ∃ p, p = (l : Int) - 2 := ⟨_, rfl⟩
         obtain ⟨s, hs⟩ : ∃ p, p = (m : Int) - 2 := ⟨_, rfl⟩
         generalize wr.alloc (.cells #[.int .i64 ((i : Int) - 2), .int .i64 ((j : Int) - 2), .int .i64 ((l : Int) - 2), .int .i64 ((m : Int) - 2)] 34) = W1 at HBa HOa TA1 ⊢
         refine (bn _ _ _ _ _).mono ?_
         rintro e W2 ⟨rfl, hx⟩
         have TA2 := TA1.kept TA1.lt hx
         have HBb := yz (aj (yy HBa) hx)
         have HOb := yz (fc (yy HOa) hx)
         clear hx TA1 HBa HOa
         rw [← hp, ← hq, ← hr, ← hs] at HSN
         rw [← hp, ← hq, ← hr, ← hs] at TA2
         have HG : Hid (jJ (p, q, r, s) = aC ((i : Int) - 2) ((j : Int) - 2) ((l : Int) - 2) ((m : Int) - 2)) := yz (by rw [← hp, ← hq, ← hr, ← hs]; rfl)
         generalize wr.heap.size = tb at *
         cases hrt : aC ((i : Int) - 2) ((j : Int) - 2) ((l : Int) - 2) ((m : Int) - 2)
         ·rw [hrt] at HG
          rw [yy HG, if_neg (by simp), List.append_nil] at HSN
          have HO3 : Hid (W2.ownsRow w.heap.size 34 4 u1 (ax (i * 125 + j * 25 + l * 5 + (m + 1))).length (cd (ax (i * 125 + j * 25 + l * 5 + (m + 1))))) := yz (by rw [yy HKE, yy HSN]; exact yy HOb)
          clear hp hq hr hs
          go_wp2_with fail
          go_roundw
          case rel => exact ⟨m + 1, by omega, by go_num, HO3, HBb⟩
          case measure => simp [intOf] <;> omega
         ·rw [hrt] at HG
          rw [yy HG, if_pos rfl] at HSN
          obtain ⟨e0, e1, e2, e3⟩ := TA2
          have Z1 := ak W2 (.cells #[.int .i64 p, .int .i64 q, .int .i64 r, .int .i64 s] 34)
          have hown := fc (yy HOb) Z1
          have B3 := aj (yy HBb) Z1
          have hsz := (yy HBb).size
          have HP := yz hp
          have HQ := yz hq
          have HR := yz hr
          have HS := yz hs
          clear Z1 HOb HBb hp hq hr hs
          generalize ax k = Pk at *
          go_wp2_with (at_builtin; refine wpList_append_own _ rfl _ _ 77 rfl w.heap.size 34 i0 (.agg #[.int .i64 0, .int .i64 0, .int .i64 0, .int .i64 0]) 4 32 Tryz.underlying77 hinf hz0 hz1 hz2 rfl (by decide) _ _ _ rfl hown ⟨W2.heap.size, 0, none⟩ 1 1 (cd [(p, q, r, s)]) rfl rfl ?d2 (fun u hu => kR hu) ?d3 ?d4 ?d5 ?_)
          case d2 => first | exact fun j u h => h | exact fs _ _ _
          case d3 => omega
          case d4 => omega
          case d5 => first | omega | (simp; omega)
          intro v7 V7 hown7 hgrow7 _
          have HB8 := yz (sA B3 hown hgrow7 (by simp; omega))
          have HO8 : Hid (V7.ownsRow w.heap.size 34 4 v7 (ax (i * 125 + j * 25 + l * 5 + (m + 1))).length (cd (ax (i * 125 + j * 25 + l * 5 + (m + 1))))) := yz (by rw [yy HKE, yy HSN, mt, List.length_append]; exact hown7)
          clear hown7 hgrow7 hown B3 e0 e1 e2 e3
          go_wp2_with fail
          go_roundw
          case rel => exact ⟨m + 1, by omega, by go_num, HO8, HB8⟩
          case measure => simp [intOf] <;> omega
        ·have hm2 : ¬ (m : Int) - 2 ≤ 2 := by omega
         have hm5' : m = 5 := by omega
         subst hm5'
         have HOx : Hid (wr.ownsRow w.heap.size 34 4 u1 (ax (i * 125 + j * 25 + (l + 1) * 5)).length (cd (ax (i * 125 + j * 25 + (l + 1) * 5)))) := yz (by rw [show i * 125 + j * 25 + (l + 1) * 5 = i * 125 + j * 25 + l * 5 + 5 by omega]; exact yy HO4)
         go_wp2_with fail
         go_roundw
         case rel => exact ⟨l + 1, by omega, by go_num, HOx, HB4⟩
         case measure => simp [intOf] <;> omega
      ·have hl2 : ¬ (l : Int) - 2 ≤ 2 := by omega
       have hl5' : l = 5 := by omega
       subst hl5'
       have HOx : Hid (wr.ownsRow w.heap.size 34 4 u1 (ax (i * 125 + (j + 1) * 25)).length (cd (ax (i * 125 + (j + 1) * 25)))) := yz (by rw [show i * 125 + (j + 1) * 25 = i * 125 + j * 25 + 5 * 5 by omega]; exact yy HO3)
       go_wp2_with fail
       go_roundw
       case rel => exact ⟨j + 1, by omega, by go_num, HOx, HB3⟩
       case measure => simp [intOf] <;> omega
    ·have hj2 : ¬ (j : Int) - 2 ≤ 2 := by omega
     have hj5' : j = 5 := by omega
     subst hj5'
     have HOx : Hid (wr.ownsRow w.heap.size 34 4 u1 (ax ((i + 1) * 125)).length (cd (ax ((i + 1) * 125)))) := yz (by rw [show (i + 1) * 125 = i * 125 + 5 * 25 by omega]; exact yy HO2)
     go_wp2_with fail
     go_roundw
     case rel => exact ⟨i + 1, by omega, by go_num, HOx, HB2⟩
     case measure => simp [intOf] <;> omega
  ·have hi2 : ¬ (i : Int) - 2 ≤ 2 := by omega
   have hi5' : i = 5 := by omega
   subst hi5'
   go_wp2_with fail
   go_ret
   exact ⟨⟨_, rfl, yy HO1⟩, yy HB1⟩
end
section
open Go.RowKit
end
section
open Go.RowKit Go.Deep Go.ChangeShapes
def gE : List (String × DataW Unit) := [("loop.example/g00577/impl.errNoSky", Rows.laid_loop_example_g00577_impl_errNoSky)]
theorem pi : "*" ++ "errors.errorString" = "*errors.errorString" := by decide
theorem rowE (u : TypeId) (h : Tryz.prog.typeName? 3 u = some "*errors.errorString") : u = 149 :=
 typeName_ptr_named (nm := "errors.errorString") (by rw [pi]; kernel_rfl) (by kernel_rfl) (by decide) u (by rw [pi]; exact h)
theorem iK : Tryz.prog.globalNamed "loop.example/g00577/impl.errNoSky" = some 0 := by kernel_rfl
theorem qo : (Tryz.prog.globals[0]?).map (·.type) = some 95 := by kernel_rfl
theorem kJ {W : World} (h : laidMetH Tryz.prog gE W) : ∃ p, W.var? Tryz.prog "loop.example/g00577/impl.errNoSky" = some #[.iface 149 (.pointer (some p))] := by
 have h' : laidMet Tryz.prog gE W := h
 obtain ⟨a, s, hv, _⟩ := laid_sentinel h' iK qo Tryz.underlying95 rowE Tryz.underlying149 Tryz.underlying175 rfl rfl Tryz.underlying9 (by kernel_rfl) (by kernel_rfl)
 exact ⟨a, hv⟩
theorem ig {W : World} {p : Addr} (hv : W.var? Tryz.prog "loop.example/g00577/impl.errNoSky" = some #[.iface 149 (.pointer (some p))]) : bg p W := by
 unfold bg
 rw [World.var?_cell iK hv 0]
 rfl
theorem oo {H : Type} (enc : TypeId × Value → H) {W : World} {p : Addr} (hv : W.var? Tryz.prog "loop.example/g00577/impl.errNoSky" = some #[.iface 149 (.pointer (some p))]) (sp : Nat → Bool) :
  DataW.TrodVars enc Tryz.prog W sp ["loop.example/g00577/impl.errNoSky"] [tok enc (.iface 149 (.pointer (some p)))] [.cell 0 0] :=
 vars_read1 enc iK qo Tryz.underlying95 hv trivial sp
theorem rU (os : Os) (args : Array Value) : laidMetH Tryz.prog gE ((World.doorLaid Tryz.prog 400 os).forCall (fun _ _ => 0) ⟨#[], args, []⟩).memory :=
 laidMet_of_run' 8 (by kernel_rfl) (by kernel_rfl)
end
end Go.Proofs.YtoakkmjcbnfljaaGreatDoor
