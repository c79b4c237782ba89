/- Several texts in one: ReadD. -/
import Derived.Test.YthoiooefclbecaaGreatDoorQFnSkyOwn27
import Derived.Test.YthoiooefclbecaaGreatDoorQFnSkyOwn14
namespace Go.Proofs.YthoiooefclbecaaGreatDoor
set_option linter.unusedVariables false
set_option linter.unusedSimpArgs false
set_option maxRecDepth 100000
set_option maxHeartbeats 8000000
section
open Go.RowKit
def unC (s : ByteArray) : Int := if 8000 < s.size then 2 else if s.size < 4 then 4 else if aL (s.extract 0 (s.size - 4)) = s then 0 else 5
def unT (s : ByteArray) : ByteArray := if unC s = 0 then s.extract 0 (s.size - 4) else ⟨#[]⟩
theorem oj {s : ByteArray} (h : unC s = 0) : s.size ≤ 8000 ∧ 4 ≤ s.size ∧ aL (s.extract 0 (s.size - 4)) = s := by
 unfold unC at h
 split at h
 ·cases h
 ·split at h
  ·cases h
  ·split at h
   ·rename_i h1 h2 h3
    exact ⟨by omega, by omega, h3⟩
   ·cases h
def eo (s : ByteArray) : Except Int (List St) := if unC s = 0 then (match bE (unT s) with | none => .error 3 | some L => .ok L) else .error (unC s)
def mo (B : Nat) (r : Except Int (List St)) (e : Ending) (w' : World) : Prop := match r with
 | .error c => e = .returned (.agg #[.slice none 0 0, .int .i64 c])
 | .ok L => ∃ v, e = .returned (.agg #[v, .int .i64 0]) ∧ w'.ownsRow B 62 4 v L.length (aE L)
theorem pm (s : ByteArray) (w : World) (hs : s.size ≤ 1048576) :
  Calls Tryz.prog 40 #[.string s] w fun e w' => e = .returned (.agg #[.string (unT s), .int .i64 0, .int .i64 (unC s)]) ∧ Below w.heap.size w w' := by
 by_cases h1 : 8000 < s.size
 ·have e : unC s = 2 := by unfold unC; rw [if_pos h1]
  have e2 : unT s = ⟨#[]⟩ := by unfold unT; rw [e]; rfl
  rw [e, e2]; exact kV s w hs h1
 ·by_cases h2 : s.size < 4
  ·have e : unC s = 4 := by unfold unC; rw [if_neg h1, if_pos h2]
   have e2 : unT s = ⟨#[]⟩ := by unfold unT; rw [e]; rfl
   rw [e, e2]; exact iy s w h2
  ·by_cases h3 : aL (s.extract 0 (s.size - 4)) = s
   ·have e : unC s = 0 := by unfold unC; rw [if_neg h1, if_neg h2, if_pos h3]
    have e2 : unT s = s.extract 0 (s.size - 4) := by unfold unT; rw [if_pos e]
    rw [e, e2]; exact kU s w (by omega) (by omega) h3
   ·have e : unC s = 5 := by unfold unC; rw [if_neg h1, if_neg h2, if_neg h3]
    have e2 : unT s = ⟨#[]⟩ := by unfold unT; rw [e]; rfl
    rw [e, e2]; exact kg s w (by omega) (by omega) h3
theorem fz (s : ByteArray) (w : World) (hs : s.size ≤ 1048576) :
  Calls Tryz.prog 38 #[.string s] w fun e w' => e = .returned (.agg #[.string (unT s), .int .i64 0, .int .i64 (unC s)]) ∧ Below w.heap.size w w' := by
 by_cases h1 : 8000 < s.size
 ·have e : unC s = 2 := by unfold unC; rw [if_pos h1]
  have e2 : unT s = ⟨#[]⟩ := by unfold unT; rw [e]; rfl
  rw [e, e2]; exact le s w hs h1
 ·by_cases h2 : s.size < 4
  ·have e : unC s = 4 := by unfold unC; rw [if_neg h1, if_pos h2]
   have e2 : unT s = ⟨#[]⟩ := by unfold unT; rw [e]; rfl
   rw [e, e2]; exact iL s w h2
  ·by_cases h3 : aL (s.extract 0 (s.size - 4)) = s
   ·have e : unC s = 0 := by unfold unC; rw [if_neg h1, if_neg h2, if_pos h3]
    have e2 : unT s = s.extract 0 (s.size - 4) := by unfold unT; rw [if_pos e]
    rw [e, e2]; exact ld s w (by omega) (by omega) ((nR s (by omega) (by omega)).1 h3)
   ·have e : unC s = 5 := by unfold unC; rw [if_neg h1, if_neg h2, if_neg h3]
    have e2 : unT s = ⟨#[]⟩ := by unfold unT; rw [e]; rfl
    rw [e, e2]; exact kE s w (by omega) (by omega) (fun h => h3 ((nR s (by omega) (by omega)).2 h))
theorem kL {s : ByteArray} (h : unC s = 0) : (unT s).size ≤ 8000 ∧ (unT s).size + 4 = s.size := by
 have := oj h
 unfold unT
 rw [if_pos h]
 simp
 omega
def fh (w : World) (b : Nat) (v : Value) (c : Int) : Prop := w.cell? ⟨b, 0, none⟩ = some v ∧ w.cell? ⟨b, 1, none⟩ = some (.int .i64 c)
theorem fh.kept {w w' : World} {b : Nat} {v : Value} {c : Int} (h : fh w b v c) (hB : Below w.heap.size w w') : fh w' b v c := by
 have hb := World.block_lt_of_cell? w _ h.1
 exact ⟨by rw [hB.cell (p := ⟨b, 0, none⟩) hb]; exact h.1, by rw [hB.cell (p := ⟨b, 1, none⟩) hb]; exact h.2⟩
theorem km (w : World) (v : Value) (c : Int) (t : TypeId) : fh (w.alloc (.cells #[v, .int .i64 c] t)) w.heap.size v c := by
 constructor <;> simp
def iO (w : World) (b : Nat) : Prop := w.frozen? ⟨b, 0, none⟩ = false ∧ w.frozen? ⟨b, 1, none⟩ = false
theorem iO.kept {w w' : World} {b : Nat} (h : iO w b) (hb : b < w.heap.size) (hB : Below w.heap.size w w') : iO w' b :=
 ⟨by rw [hB.frozen (p := ⟨b, 0, none⟩) hb]; exact h.1, by rw [hB.frozen (p := ⟨b, 1, none⟩) hb]; exact h.2⟩
theorem ls (w : World) (v : Value) (c : Int) (t : TypeId) : iO (w.alloc (.cells #[v, .int .i64 c] t)) w.heap.size := by
 constructor <;> simp
theorem eI {w : World} {B B' : Nat} {t : TypeId} {v : Value} {n m : Nat} {xs : List Value} (h : w.ownsRow B t m v n xs) (hb : B' ≤ B) : w.ownsRow B' t m v n xs := by
 obtain ⟨h1, h2⟩ := h
 refine ⟨h1, ?_⟩
 rcases h2 with h2 | ⟨g, cap, cur, e, hg, r⟩
 ·exact .inl h2
 ·exact .inr ⟨g, cap, cur, e, by omega, r⟩
theorem mq {w : World} {B b i : Nat} {t : TypeId} {v x : Value} {n m : Nat} {xs : List Value} (h : w.ownsRow B t m v n xs) (hb : b < B) : (w.setCell ⟨b, i, none⟩ x).ownsRow B t m v n xs := by
 obtain ⟨h1, h2⟩ := h
 refine ⟨h1, ?_⟩
 rcases h2 with h2 | ⟨g, cap, cur, e, hg, hh, r⟩
 ·exact .inl h2
 ·exact .inr ⟨g, cap, cur, e, hg, by rw [Below.heap_setCell _ _ _ _ (show g ≠ b by omega)]; exact hh, r⟩
theorem nS (s : ByteArray) (p : Addr) (w : World) (hs : s.size ≤ 1048576) (hE : aU p w) :
  Calls Tryz.prog 7 #[.string s] w fun e w' => mo (w.heap.size + 1) (eo s) e w' ∧ Below w.heap.size w w' := by
 have HE := yz hE
 clear hE
 have B0 := yz (am w (.cells #[.slice none 0 0, .int .i64 0] 28))
 have R0 := yz (km w (.slice none 0 0) 0 28)
 have F0 := yz (ls w (.slice none 0 0) 0 28)
 have HRL : Hid (eo s = if unC s = 0 then (match bE (unT s) with | none => .error 3 | some L => .ok L) else .error (unC s)) := yz rfl
 have HZ : Hid (unC s = 0 → (unT s).size ≤ 8000 ∧ (unT s).size + 4 = s.size) := yz kL
 have cU := yz (fun W => pm s W hs)
 generalize unC s = uc at *
 generalize unT s = ut at *
 go_enter Tryz.func7, Tryz.ntmps7
 go_wp2_with fail
 refine (yy cU _).mono ?_
 rintro e w1 ⟨rfl, hx⟩
 have B1 := yz ((ak (yy B0) hx).alloc (ak (yy B0) hx).size (.cells #[.string ut, .int .i64 0, .int .i64 uc] 68))
 have R1 := yz (((yy R0).kept hx).kept (am w1 (.cells #[.string ut, .int .i64 0, .int .i64 uc] 68)))
 have F1 := yz (((yy F0).kept (by simp) hx).kept (World.block_lt_of_cell? _ _ ((yy R0).kept hx).1) (am w1 (.cells #[.string ut, .int .i64 0, .int .i64 uc] 68)))
 clear hx B0 R0 F0 cU
 obtain ⟨r0, r1⟩ := yy R1
 obtain ⟨f0, f1⟩ := yy F1
 by_cases hu : uc = 0
 ·subst hu
  have hz := yy HZ rfl
  rw [if_pos rfl] at HRL
  clear r0 r1 f0 f1
  go_wp2_with fail
  generalize w1.alloc (.cells #[.string ut, .int .i64 0, .int .i64 0] 68) = W1 at B1 R1 F1 ⊢
  refine (nJ ut _ hz.1).mono ?_
  rintro e w2 ⟨hres, hx⟩
  have B2 := yz (ak (yy B1) hx)
  have hlt : w.heap.size < W1.heap.size := World.block_lt_of_cell? _ _ (yy R1).1
  have R2 := yz ((yy R1).kept hx)
  have F2 := yz ((yy F1).kept hlt hx)
  have E2 := yz ((yy HE).kept (yy B2))
  clear hx B1 R1 F1
  have ev : w2.cell? ⟨0, 0, none⟩ = some (.iface 153 (.pointer (some p))) := yy E2
  cases hg : bE ut with
  | none =>
   rw [hg] at hres HRL
   obtain ⟨v, why, rfl⟩ := hres
   clear hg
   unfold aY
   go_wp2_with fail
   refine (nu why p _ (yy E2)).mono ?_
   rintro e w3 ⟨rfl, hx⟩
   have B3 := yz (ak (yy B2) hx)
   obtain ⟨r0, r1⟩ := (yy R2).kept hx
   obtain ⟨f0, f1⟩ := (yy F2).kept (World.block_lt_of_cell? _ _ (yy R2).1) hx
   clear hx ev
   go_wp2_with fail
   exact bodyPost_ret (v := .agg #[.slice none 0 0, .int .i64 3]) (by simp [results, Tryz.results7, go_sem, r0, r1]) rfl ⟨by rw [yy HRL]; exact rfl, ((yy B3).setCell (Nat.le_refl _) _).setCell (Nat.le_refl _) _⟩
  | some L =>
   rw [hg] at hres HRL
   obtain ⟨v, rfl, ho⟩ := hres
   clear hg
   obtain ⟨ar, cap, hv, _⟩ := eP ho
   have HO := yz (eI (B' := w.heap.size + 1) ho (by omega))
   rw [hv] at HO ⊢
   clear ho hv
   go_wp2_with fail
   refine (rt p _).mono ?_
   rintro e w3 ⟨rfl, hw⟩
   rw [hw]
   clear hw w3
   obtain ⟨r0, r1⟩ := yy R2
   obtain ⟨f0, f1⟩ := yy F2
   clear ev
   go_wp2_with fail
   exact bodyPost_ret (v := .agg #[.slice ar L.length cap, .int .i64 0]) (by simp [results, Tryz.results7, go_sem, r0, r1]) rfl ⟨by rw [yy HRL]; exact ⟨_, rfl, mq (mq (yy HO) (by omega)) (by omega)⟩, ((yy B2).setCell (Nat.le_refl _) _).setCell (Nat.le_refl _) _⟩
 ·have hu' : (uc == 0) = false := by simp [hu]
  rw [if_neg hu] at HRL
  go_wp2_with fail
  exact bodyPost_ret (v := .agg #[.slice none 0 0, .int .i64 uc]) (by simp [results, Tryz.results7, go_sem, r0, r1]) rfl ⟨by rw [yy HRL]; exact rfl, ((yy B1).setCell (Nat.le_refl _) _).setCell (Nat.le_refl _) _⟩
end
end Go.Proofs.YthoiooefclbecaaGreatDoor
