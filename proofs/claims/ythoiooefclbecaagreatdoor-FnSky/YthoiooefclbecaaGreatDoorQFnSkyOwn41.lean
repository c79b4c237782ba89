/- Several texts in one: InD. -/
import Derived.Test.YthoiooefclbecaaGreatDoorQFnSkyOwn40
namespace Go.Proofs.YthoiooefclbecaaGreatDoor
set_option linter.unusedVariables false
set_option linter.unusedSimpArgs false
set_option maxRecDepth 100000
set_option maxHeartbeats 8000000
section
open Go.RowKit Go.Sort
theorem bC {w : World} {B b m n : Nat} {t : TypeId} {v : Value} {xs : List Value} (h : w.ownsRow B t m v n xs) (hb : b < B) : v.ownBlock = none ∨ v.ownBlock ≠ some b := by
 cases e : v.ownBlock with
 | none => exact .inl rfl
 | some g => exact .inr (fun e2 => by have h1 := (h.lt g e).1; have h2 := Option.some.inj e2; omega)
structure gj (w : World) (b B : Nat) (wr : World) (L : List St) (sa : Option Addr) (sc : Nat) (S : List D3) (pa : Option Addr) (pc : Nat) (I : List Int) (ia : Option Addr) (ic : Nat) : Prop where
 src : aI b wr
 sky : ap wr B L sa sc
 spt : wr.ownsRow B 33 3 (.slice pa S.length pc) S.length (flL S)
 ids : wr.ownsRow B 2 1 (.slice ia I.length ic) I.length (fg I)
 bel : Below w.heap.size w wr
 lb : w.heap.size ≤ b
 bB : b < B
 wB : w.heap.size ≤ B
theorem gj.call {w : World} {b B : Nat} {wr : World} {L : List St} {sa : Option Addr} {sc : Nat} {S : List D3} {pa : Option Addr} {pc : Nat} {I : List Int} {ia : Option Addr} {ic : Nat} {w2 : World} (h : gj w b B wr L sa sc S pa pc I ia ic) (hS : aI b w2) (hg : wr.grownBy w2 (some b)) : gj w b B w2 L sa sc S pa pc I ia ic :=
 ⟨hS, World.ownsRow.kept h.sky hg (bC h.sky h.bB), World.ownsRow.kept h.spt hg (bC h.spt h.bB), World.ownsRow.kept h.ids hg (bC h.ids h.bB), aK h.bel hg h.bel.size (fun g e => by have := Option.some.inj e; have := h.lb; omega), h.lb, h.bB, h.wB⟩
theorem gj.below {w : World} {b B : Nat} {wr : World} {L : List St} {sa : Option Addr} {sc : Nat} {S : List D3} {pa : Option Addr} {pc : Nat} {I : List Int} {ia : Option Addr} {ic : Nat} {w2 : World} (h : gj w b B wr L sa sc S pa pc I ia ic) (hx : Below wr.heap.size wr w2) : gj w b B w2 L sa sc S pa pc I ia ic :=
 ⟨h.src.below hx, dk h.sky hx, dk h.spt hx, dk h.ids hx, ak h.bel hx, h.lb, h.bB, h.wB⟩
theorem gj.mv {w : World} {b B : Nat} {wr : World} {L : List St} {sa : Option Addr} {sc : Nat} {S : List D3} {pa : Option Addr} {pc : Nat} {I : List Int} {ia : Option Addr} {ic : Nat} {w2 : World} {I2 : List Int} {i2 : Option Addr} {c2 : Nat} (h : gj w b B wr L sa sc S pa pc I ia ic) (hg : wr.grownBy w2 (Value.slice ia I.length ic).ownBlock) (hr : w2.ownsRow B 2 1 (.slice i2 I2.length c2) I2.length (fg I2)) : gj w b B w2 L sa sc S pa pc I2 i2 c2 :=
 ⟨h.src.kept hg (fun g e => by have := (h.ids.lt g e).1; have := h.bB; omega), World.ownsRow.kept h.sky hg (jE h.sky h.ids (by decide)), World.ownsRow.kept h.spt hg (jE h.spt h.ids (by decide)), hr, aK h.bel hg h.bel.size (fun g e => by have := (h.ids.lt g e).1; have := h.wB; omega), h.lb, h.bB, h.wB⟩
theorem gj.put {w : World} {b B : Nat} {wr : World} {L : List St} {sa : Option Addr} {sc : Nat} {S : List D3} {pa : Option Addr} {pc : Nat} {I : List Int} {g : Nat} {ic : Nat} (h : gj w b B wr L sa sc S pa pc I (some ⟨g, 0, none⟩) ic) (k : Nat) (z : Int) : gj w b B (wr.setCell ⟨g, k, none⟩ (.int .i64 z)) L sa sc S pa pc (I.set k z) (some ⟨g, 0, none⟩) ic := by
 have hs := World.ownsRow.stored h.ids k (.int .i64 z)
 refine h.mv hs.2 ?_
 have h1 := hs.1
 rw [show (fg I).set k (.int .i64 z) = fg (I.set k z) by unfold fg; rw [List.map_set]] at h1
 rw [List.length_set]
 exact h1
theorem gj.add {w : World} {b B : Nat} {wr : World} {L : List St} {sa : Option Addr} {sc : Nat} {S : List D3} {pa : Option Addr} {pc : Nat} {I : List Int} {ia : Option Addr} {ic : Nat} {w2 : World} {x : Int} {v2 : Value} (h : gj w b B wr L sa sc S pa pc I ia ic) (hg : wr.grownBy w2 (Value.slice ia I.length ic).ownBlock) (hr : w2.ownsRow B 2 1 v2 (I.length + 1) (fg I ++ [.int .i64 x])) : ∃ i2 c2, v2 = .slice i2 (I.length + 1) c2 ∧ gj w b B w2 L sa sc S pa pc (I ++ [x]) i2 c2 := by
 obtain ⟨i2, c2, rfl, _⟩ := em hr
 refine ⟨i2, c2, rfl, h.mv hg ?_⟩
 rw [show (I ++ [x]).length = I.length + 1 by simp, show fg (I ++ [x]) = fg I ++ [.int .i64 x] by simp [fg]]
 exact hr
end
end Go.Proofs.YthoiooefclbecaaGreatDoor
