/- What the law on turns draws: DrawTurnRead. -/
import Derived.Test.YtijpnnooenpjoaaDoorDrawT5
import Derived.Test.YtijpnnooenpjoaaDoorReadMath
namespace Go.Proofs.YtijpnnooenpjoaaDoor
open Go.RowKit
set_option linter.unusedVariables false
set_option linter.unusedSimpArgs false

theorem SrcAt.belowS {b : Nat} {w w' : World} (h : SrcAt b w) (hB : Below w.heap.size w w') : SrcAt b w' := h.kept (row := none) ⟨hB.os, hB.tape, hB.output, hB.size, fun i hi _ => hB.block i hi⟩ (fun _ e => by cases e)

theorem litRead (w : World) (T : TypeId) (k : Nat) (hk : k < 8) : ∃ r : ByteArray, (w.alloc (.cells #[.string ⟨#[]⟩, .string ⟨#[49, 44, 48, 44, 48]⟩, .string ⟨#[48, 44, 48, 44, 48, 44, 48]⟩, .string ⟨#[45, 49, 44, 48, 44, 48, 44, 48]⟩, .string ⟨#[50, 44, 48, 44, 48, 44, 48]⟩, .string ⟨#[49, 44, 48, 44, 48, 44, 54]⟩, .string ⟨#[49, 44, 48, 44, 48, 44, 45, 48]⟩, .string ⟨#[49, 44, 48, 44, 48, 44, 48, 53]⟩] T)).cell? ⟨w.heap.size, k, none⟩ = some (.string r) ∧ r.size ≤ 200 := by
  match k, hk with
  | 0, _ => exact ⟨⟨#[]⟩, by simp, by decide⟩
  | 1, _ => exact ⟨⟨#[49, 44, 48, 44, 48]⟩, by simp, by decide⟩
  | 2, _ => exact ⟨⟨#[48, 44, 48, 44, 48, 44, 48]⟩, by simp, by decide⟩
  | 3, _ => exact ⟨⟨#[45, 49, 44, 48, 44, 48, 44, 48]⟩, by simp, by decide⟩
  | 4, _ => exact ⟨⟨#[50, 44, 48, 44, 48, 44, 48]⟩, by simp, by decide⟩
  | 5, _ => exact ⟨⟨#[49, 44, 48, 44, 48, 44, 54]⟩, by simp, by decide⟩
  | 6, _ => exact ⟨⟨#[49, 44, 48, 44, 48, 44, 45, 48]⟩, by simp, by decide⟩
  | 7, _ => exact ⟨⟨#[49, 44, 48, 44, 48, 44, 48, 53]⟩, by simp, by decide⟩

set_option maxHeartbeats 1000000 in
set_option maxRecDepth 100000 in
theorem drawRead_any (a : Option Addr) (len cap : Nat) (w : World) (hl : len ≤ 1048576) (hR : Row w a len w.heap.size) :
    Calls Tryd.prog 20 #[.slice a len cap] w fun e w' => ∃ r : ByteArray, e = .returned (.string r) ∧ r.size ≤ 200 ∧ Below w.heap.size w w' := by
  have HR := hide hR
  clear hR
  go_enter Tryd.func20, Tryd.ntmps20
  go_wp2_with fail
  refine (source_any a len cap _ hl (unhide HR)).mono ?_
  rintro e w1 ⟨rfl, hS1, hB⟩
  have HS1 := hide hS1
  clear hS1
  go_wp2_with fail
  refine (l03Turn_any w.heap.size _ (unhide HS1)).mono ?_
  rintro e w2 ⟨p, q, r, s, rfl, hS2, hg2⟩
  have hb2 := hS2.lt
  replace hB := below_grownB hB hg2 (Nat.le_refl _)
  have HS2 := hide hS2
  clear hS2 hg2 HS1
  go_wp2_with fail
  refine (specText_any p q r s _).mono ?_
  rintro e w3 ⟨rfl, hB3⟩
  have hS3 := (unhide HS2).belowS hB3
  have hB' := below_call hB hB3
  have ht := text_size (a := p) (b := q) (c := r) (d := s)
  generalize textB p q r s = t at ht ⊢
  have HS3 := hide hS3
  have HB := hide hB'
  clear hS3 hB' hB hB3 HS2
  go_wp2_with fail
  have hb3 := (unhide HS3).lt
  refine (n_any w.heap.size 4 _ (unhide HS3) (by omega)).mono ?_
  rintro e w4 ⟨z, rfl, z0, z1, _, hS4, hg4⟩
  have HS4 := hide hS4
  have HB4 := hide (below_grownB (unhide HB) hg4 (Nat.le_refl _))
  clear z1 HS3 HB hS4 hg4
  by_cases h0 : z = 0
  · subst h0
    go_wp2_with fail
    refine (spoil_any w.heap.size t _ (unhide HS4) (by omega)).mono ?_
    rintro e w5 ⟨r5, rfl, hr5, hS5, hg5⟩
    have HB5 := hide (below_grownB (unhide HB4) hg5 (Nat.le_refl _))
    clear hS5 hg5 HS4
    go_wp2_with fail
    go_ret
    exact ⟨_, rfl, hr5, unhide HB5⟩
  · by_cases h1 : z = 1
    · subst h1
      go_wp2_with fail
      refine (pick_any w.heap.size w4.heap.size 8 8 _ ((unhide HS4).allocs _) (by omega) (by omega) (by have := (unhide HS4).lt; omega) (fun k hk => litRead w4 9 k hk)).mono ?_
      rintro e w5 ⟨r5, rfl, hr5, hS5, hg5⟩
      have HB5 := hide (below_grownB ((unhide HB4).alloc (Nat.le_of_lt (unhide HS4).lt) _) hg5 (Nat.le_refl _))
      clear hS5 hg5 HS4
      go_wp2_with fail
      go_ret
      exact ⟨_, rfl, hr5, unhide HB5⟩
    · go_wp2_with fail
      go_ret
      exact ⟨_, rfl, by omega, unhide HB4⟩
end Go.Proofs.YtijpnnooenpjoaaDoor
