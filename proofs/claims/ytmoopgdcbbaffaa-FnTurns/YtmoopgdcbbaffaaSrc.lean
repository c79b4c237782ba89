/- The drawing of the specification's own numbers: whatever is drawn lies within its bounds; nothing that was there turns but the source itself. -/
import Derived.Test.YtmoopgdcbbaffaaRows
import Derived.Test.YtmoopgdcbbaffaaPlain
import Derived.WalkKit
import Derived.WalkSpells
import Derived.WalkLawsBesides
import Derived.RegionTactic
import Derived.BigRegion
import Derived.Deep.QuietTactic
import Derived.BigQuiet
import Derived.OpenShut
namespace Go.Proofs.Ytmoopgdcbbaffaa
open Go.RowKit
set_option linter.unusedVariables false

/-- a row of bytes, by its address and length -/
def Row (w : World) (a : Option Addr) (len : Nat) (B : Nat) : Prop :=
  len = 0 ∨ ∃ bx ox, a = some ⟨bx, ox, none⟩ ∧ bx < B ∧ ∀ i, i < len → ∃ z : Int, w.cell? ⟨bx, ox + i, none⟩ = some (.int .u8 z) ∧ 0 ≤ z ∧ z ≤ 255
theorem Row.kept {w w' : World} {a : Option Addr} {len B : Nat} (h : Row w a len B) (hk : ∀ k, k < B → w'.heap[k]? = w.heap[k]?) : Row w' a len B := by
  rcases h with h | ⟨bx, ox, ha, hb, hc⟩
  · exact .inl h
  · refine .inr ⟨bx, ox, ha, hb, fun i hi => ?_⟩
    obtain ⟨z, hz, h0, h1⟩ := hc i hi
    exact ⟨z, by rw [World.cell?_of_block (w := w) (hk bx hb)]; exact hz, h0, h1⟩

/-- a source at block b: its bytes lie in an older block -/
def SrcAt (b : Nat) (w : World) : Prop := ∃ (a : Option Addr) (len cap : Nat) (at_ mix size : Int),
  w.cell? ⟨b, 0, none⟩ = some (.slice a len cap) ∧ w.cell? ⟨b, 1, none⟩ = some (.int .i64 at_) ∧ w.cell? ⟨b, 2, none⟩ = some (.int .u64 mix) ∧ w.cell? ⟨b, 3, none⟩ = some (.int .i64 size) ∧
  w.frozen? ⟨b, 0, none⟩ = false ∧ w.frozen? ⟨b, 1, none⟩ = false ∧ w.frozen? ⟨b, 2, none⟩ = false ∧ w.frozen? ⟨b, 3, none⟩ = false ∧
  0 ≤ at_ ∧ at_ ≤ len ∧ len ≤ 1048576 ∧ 0 ≤ mix ∧ mix ≤ 18446744073709551615 ∧ 0 ≤ size ∧ size ≤ 12 ∧ Row w a len b

theorem xor64_range (a b : Int) : 0 ≤ bits .xor .u64 a b ∧ bits .xor .u64 a b ≤ 18446744073709551615 := by
  have h := wf_bits .xor .u64 a b
  simpa [Lit.wf, IntKind.min, IntKind.max, IntKind.signed, IntKind.bits] using h

theorem set_set (w : World) (b o : Nat) (v v' : Value) : (w.setCell ⟨b, o, none⟩ v).setCell ⟨b, o, none⟩ v' = w.setCell ⟨b, o, none⟩ v' := by
  unfold World.setCell
  congr 1
  apply Array.ext
  · simp
  · intro i h1 h2
    simp only [Array.getElem_modify]
    by_cases e : b = i
    · simp only [e, if_true]
      split <;> rename_i h <;> revert h <;> split <;> intro h <;> simp_all
      obtain ⟨rfl, rfl, rfl⟩ := h
      simp
    · simp [e]

/-- the number that is drawn, out of the byte and what was mixed -/
def drawn (v m most : Int) : Int := (v + m / 1048576) % most
theorem drawn_range (v m most : Int) (h : 1 < most) : 0 ≤ drawn v m most ∧ drawn v m most < most := by
  unfold drawn
  exact ⟨Int.emod_nonneg _ (by omega), Int.emod_lt_of_pos _ (by omega)⟩

theorem cell_heap {w w' : World} (h : w'.heap = w.heap) (a : Addr) : w'.cell? a = w.cell? a := World.cell?_of_block (by rw [h])
theorem frozen_heap {w w' : World} (h : w'.heap = w.heap) (a : Addr) : w'.frozen? a = w.frozen? a := World.frozen?_of_block (by rw [h])

theorem SrcAt.kept {b : Nat} {w w' : World} {row : Option Nat} (h : SrcAt b w) (hg : w.grownBy w' row) (hr : ∀ k, row = some k → b < k) : SrcAt b w' := by
  obtain ⟨a, len, cap, at_, mix, size, c0, c1, c2, c3, f0, f1, f2, f3, a0, a1, hl, m0, m1, s0, s1, hR⟩ := h
  have hlt : b < w.heap.size := World.block_lt_of_cell? w ⟨b, 0, none⟩ c0
  have hk : ∀ k, k ≤ b → w'.heap[k]? = w.heap[k]? := fun k hk => hg.block k (by omega) (fun e => by have := hr k e.symm; omega)
  have hc : ∀ o, w'.cell? ⟨b, o, none⟩ = w.cell? ⟨b, o, none⟩ := fun o => World.cell?_of_block (hk b (Nat.le_refl _))
  have hf : ∀ o, w'.frozen? ⟨b, o, none⟩ = w.frozen? ⟨b, o, none⟩ := fun o => World.frozen?_of_block (hk b (Nat.le_refl _))
  exact ⟨a, len, cap, at_, mix, size, by rw [hc]; exact c0, by rw [hc]; exact c1, by rw [hc]; exact c2, by rw [hc]; exact c3, by rw [hf]; exact f0, by rw [hf]; exact f1, by rw [hf]; exact f2, by rw [hf]; exact f3, a0, a1, hl, m0, m1, s0, s1, hR.kept (fun k h => hk k (by omega))⟩
theorem grown_refl (w : World) (row : Option Nat) : w.grownBy w row := ⟨rfl, rfl, rfl, Nat.le_refl _, fun _ _ _ => rfl⟩
theorem grown_trans {a b c : World} {row : Option Nat} (h : a.grownBy b row) (k : b.grownBy c row) : a.grownBy c row :=
  ⟨k.os.trans h.os, k.tape.trans h.tape, k.output.trans h.output, Nat.le_trans h.size k.size, fun i hi hn => (k.block i (Nat.lt_of_lt_of_le hi h.size) hn).trans (h.block i hi hn)⟩
theorem SrcAt.lt {b : Nat} {w : World} (h : SrcAt b w) : b < w.heap.size := by
  obtain ⟨a, len, cap, at_, mix, size, c0, _⟩ := h
  exact World.block_lt_of_cell? w ⟨b, 0, none⟩ c0

end Go.Proofs.Ytmoopgdcbbaffaa
