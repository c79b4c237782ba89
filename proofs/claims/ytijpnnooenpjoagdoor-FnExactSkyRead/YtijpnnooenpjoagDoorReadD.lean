/- SkyRead: the program's. -/
import Derived.Test.YtijpnnooenpjoagDoorReadC
import Derived.Test.YtijpnnooenpjoagDoorUnsealWalks
namespace Go.Proofs.YtijpnnooenpjoagDoor
open Go.RowKit
set_option linter.unusedVariables false

def unC (s : ByteArray) : Int := if 8000 < s.size then 2 else if s.size < 4 then 4 else if sealOf (s.extract 0 (s.size - 4)) = s then 0 else 5
def unT (s : ByteArray) : ByteArray := if unC s = 0 then s.extract 0 (s.size - 4) else ⟨#[]⟩
theorem unC_zero {s : ByteArray} (h : unC s = 0) : s.size ≤ 8000 ∧ 4 ≤ s.size ∧ sealOf (s.extract 0 (s.size - 4)) = s := by
  unfold unC at h
  split at h
  · cases h
  · split at h
    · cases h
    · split at h
      · rename_i h1 h2 h3
        exact ⟨by omega, by omega, h3⟩
      · cases h
def readL (s : ByteArray) : Except Int (List St) := if unC s = 0 then (match goodL (unT s) with | none => .error 3 | some L => .ok L) else .error (unC s)
def outRes (B : Nat) (r : Except Int (List St)) (e : Ending) (w' : World) : Prop := match r with
  | .error c => e = .returned (.agg #[.slice none 0 0, .int .i64 c])
  | .ok L => ∃ v, e = .returned (.agg #[v, .int .i64 0]) ∧ w'.ownsRow B 60 4 v L.length (flatS L)
theorem unseal_any (s : ByteArray) (w : World) (hs : s.size ≤ 1048576) :
    Calls Tryd.prog 59 #[.string s] w fun e w' => e = .returned (.agg #[.string (unT s), .int .i64 0, .int .i64 (unC s)]) ∧ Below w.heap.size w w' := by
  by_cases h1 : 8000 < s.size
  · have e : unC s = 2 := by unfold unC; rw [if_pos h1]
    have e2 : unT s = ⟨#[]⟩ := by unfold unT; rw [e]; rfl
    rw [e, e2]; exact implUnseal_sz s w hs h1
  · by_cases h2 : s.size < 4
    · have e : unC s = 4 := by unfold unC; rw [if_neg h1, if_pos h2]
      have e2 : unT s = ⟨#[]⟩ := by unfold unT; rw [e]; rfl
      rw [e, e2]; exact implUnseal_short s w h2
    · by_cases h3 : sealOf (s.extract 0 (s.size - 4)) = s
      · have e : unC s = 0 := by unfold unC; rw [if_neg h1, if_neg h2, if_pos h3]
        have e2 : unT s = s.extract 0 (s.size - 4) := by unfold unT; rw [if_pos e]
        rw [e, e2]; exact implUnseal_ok s w (by omega) (by omega) h3
      · have e : unC s = 5 := by unfold unC; rw [if_neg h1, if_neg h2, if_neg h3]
        have e2 : unT s = ⟨#[]⟩ := by unfold unT; rw [e]; rfl
        rw [e, e2]; exact implUnseal_bad s w (by omega) (by omega) h3
theorem specUnseal_any (s : ByteArray) (w : World) (hs : s.size ≤ 1048576) :
    Calls Tryd.prog 55 #[.string s] w fun e w' => e = .returned (.agg #[.string (unT s), .int .i64 0, .int .i64 (unC s)]) ∧ Below w.heap.size w w' := by
  by_cases h1 : 8000 < s.size
  · have e : unC s = 2 := by unfold unC; rw [if_pos h1]
    have e2 : unT s = ⟨#[]⟩ := by unfold unT; rw [e]; rfl
    rw [e, e2]; exact specUnseal_sz s w hs h1
  · by_cases h2 : s.size < 4
    · have e : unC s = 4 := by unfold unC; rw [if_neg h1, if_pos h2]
      have e2 : unT s = ⟨#[]⟩ := by unfold unT; rw [e]; rfl
      rw [e, e2]; exact specUnseal_short s w h2
    · by_cases h3 : sealOf (s.extract 0 (s.size - 4)) = s
      · have e : unC s = 0 := by unfold unC; rw [if_neg h1, if_neg h2, if_pos h3]
        have e2 : unT s = s.extract 0 (s.size - 4) := by unfold unT; rw [if_pos e]
        rw [e, e2]; exact specUnseal_ok s w (by omega) (by omega) ((seal_iff s (by omega) (by omega)).1 h3)
      · have e : unC s = 5 := by unfold unC; rw [if_neg h1, if_neg h2, if_neg h3]
        have e2 : unT s = ⟨#[]⟩ := by unfold unT; rw [e]; rfl
        rw [e, e2]; exact specUnseal_bad s w (by omega) (by omega) (fun h => h3 ((seal_iff s (by omega) (by omega)).2 h))
theorem unT_size {s : ByteArray} (h : unC s = 0) : (unT s).size ≤ 8000 ∧ (unT s).size + 4 = s.size := by
  have := unC_zero h
  unfold unT
  rw [if_pos h]
  simp
  omega

def OutAt2 (w : World) (b : Nat) (v : Value) (c : Int) : Prop := w.cell? ⟨b, 0, none⟩ = some v ∧ w.cell? ⟨b, 1, none⟩ = some (.int .i64 c)
theorem OutAt2.kept {w w' : World} {b : Nat} {v : Value} {c : Int} (h : OutAt2 w b v c) (hB : Below w.heap.size w w') : OutAt2 w' b v c := by
  have hb := World.block_lt_of_cell? w _ h.1
  exact ⟨by rw [hB.cell (p := ⟨b, 0, none⟩) hb]; exact h.1, by rw [hB.cell (p := ⟨b, 1, none⟩) hb]; exact h.2⟩
theorem outAt2_new (w : World) (v : Value) (c : Int) (t : TypeId) : OutAt2 (w.alloc (.cells #[v, .int .i64 c] t)) w.heap.size v c := by
  constructor <;> simp
def Free2 (w : World) (b : Nat) : Prop := w.frozen? ⟨b, 0, none⟩ = false ∧ w.frozen? ⟨b, 1, none⟩ = false
theorem Free2.kept {w w' : World} {b : Nat} (h : Free2 w b) (hb : b < w.heap.size) (hB : Below w.heap.size w w') : Free2 w' b :=
  ⟨by rw [hB.frozen (p := ⟨b, 0, none⟩) hb]; exact h.1, by rw [hB.frozen (p := ⟨b, 1, none⟩) hb]; exact h.2⟩
theorem free2_new (w : World) (v : Value) (c : Int) (t : TypeId) : Free2 (w.alloc (.cells #[v, .int .i64 c] t)) w.heap.size := by
  constructor <;> simp
theorem ownsRow_less' {w : World} {B B' : Nat} {t : TypeId} {v : Value} {n m : Nat} {xs : List Value} (h : w.ownsRow B t m v n xs) (hb : B' ≤ B) : w.ownsRow B' t m v n xs := by
  obtain ⟨h1, h2⟩ := h
  refine ⟨h1, ?_⟩
  rcases h2 with h2 | ⟨g, cap, cur, e, hg, r⟩
  · exact .inl h2
  · exact .inr ⟨g, cap, cur, e, by omega, r⟩
/-- what is owned from B on stays so behind a store below B -/
theorem ownSet {w : World} {B b i : Nat} {t : TypeId} {v x : Value} {n m : Nat} {xs : List Value} (h : w.ownsRow B t m v n xs) (hb : b < B) : (w.setCell ⟨b, i, none⟩ x).ownsRow B t m v n xs := by
  obtain ⟨h1, h2⟩ := h
  refine ⟨h1, ?_⟩
  rcases h2 with h2 | ⟨g, cap, cur, e, hg, hh, r⟩
  · exact .inl h2
  · exact .inr ⟨g, cap, cur, e, hg, by rw [Below.heap_setCell _ _ _ _ (show g ≠ b by omega)]; exact hh, r⟩

set_option maxHeartbeats 2000000 in
set_option maxRecDepth 100000 in
theorem skyRead_any (s : ByteArray) (p : Addr) (w : World) (hs : s.size ≤ 1048576) (hE : ErrSky p w) :
    Calls Tryd.prog 20 #[.string s] w fun e w' => outRes (w.heap.size + 1) (readL s) e w' ∧ Below w.heap.size w w' := by
  have HE := hide hE
  clear hE
  have B0 := hide (below1 w (.cells #[.slice none 0 0, .int .i64 0] 38))
  have R0 := hide (outAt2_new w (.slice none 0 0) 0 38)
  have F0 := hide (free2_new w (.slice none 0 0) 0 38)
  have HRL : Hid (readL s = if unC s = 0 then (match goodL (unT s) with | none => .error 3 | some L => .ok L) else .error (unC s)) := hide rfl
  have HZ : Hid (unC s = 0 → (unT s).size ≤ 8000 ∧ (unT s).size + 4 = s.size) := hide unT_size
  have cU := hide (fun W => unseal_any s W hs)
  generalize unC s = uc at *
  generalize unT s = ut at *
  go_enter Tryd.func20, Tryd.ntmps20
  go_wp2_with fail
  refine (unhide cU _).mono ?_
  rintro e w1 ⟨rfl, hx⟩
  have B1 := hide ((below_call (unhide B0) hx).alloc (below_call (unhide B0) hx).size (.cells #[.string ut, .int .i64 0, .int .i64 uc] 79))
  have R1 := hide (((unhide R0).kept hx).kept (below1 w1 (.cells #[.string ut, .int .i64 0, .int .i64 uc] 79)))
  have F1 := hide (((unhide F0).kept (by simp) hx).kept (World.block_lt_of_cell? _ _ ((unhide R0).kept hx).1) (below1 w1 (.cells #[.string ut, .int .i64 0, .int .i64 uc] 79)))
  clear hx B0 R0 F0 cU
  obtain ⟨r0, r1⟩ := unhide R1
  obtain ⟨f0, f1⟩ := unhide F1
  by_cases hu : uc = 0
  · subst hu
    have hz := unhide HZ rfl
    rw [if_pos rfl] at HRL
    clear r0 r1 f0 f1
    go_wp2_with fail
    generalize w1.alloc (.cells #[.string ut, .int .i64 0, .int .i64 0] 79) = W1 at B1 R1 F1 ⊢
    refine (readSky_any ut _ hz.1).mono ?_
    rintro e w2 ⟨hres, hx⟩
    have B2 := hide (below_call (unhide B1) hx)
    have hlt : w.heap.size < W1.heap.size := World.block_lt_of_cell? _ _ (unhide R1).1
    have R2 := hide ((unhide R1).kept hx)
    have F2 := hide ((unhide F1).kept hlt hx)
    have E2 := hide ((unhide HE).kept (unhide B2))
    clear hx B1 R1 F1
    have ev : w2.cell? ⟨0, 0, none⟩ = some (.iface 184 (.pointer (some p))) := unhide E2
    cases hg : goodL ut with
    | none =>
      rw [hg] at hres HRL
      obtain ⟨v, why, rfl⟩ := hres
      clear hg
      unfold faultA
      go_wp2_with fail
      refine (is_fault why p _ (unhide E2)).mono ?_
      rintro e w3 ⟨rfl, hx⟩
      have B3 := hide (below_call (unhide B2) hx)
      obtain ⟨r0, r1⟩ := (unhide R2).kept hx
      obtain ⟨f0, f1⟩ := (unhide F2).kept (World.block_lt_of_cell? _ _ (unhide R2).1) hx
      clear hx ev
      go_wp2_with fail
      exact bodyPost_ret (v := .agg #[.slice none 0 0, .int .i64 3]) (by simp [results, Tryd.results20, go_sem, r0, r1]) rfl ⟨by rw [unhide HRL]; exact rfl, ((unhide B3).setCell (Nat.le_refl _) _).setCell (Nat.le_refl _) _⟩
    | some L =>
      rw [hg] at hres HRL
      obtain ⟨v, rfl, ho⟩ := hres
      clear hg
      obtain ⟨ar, cap, hv, _⟩ := own_stars ho
      have HO := hide (ownsRow_less' (B' := w.heap.size + 1) ho (by omega))
      rw [hv] at HO ⊢
      clear ho hv
      go_wp2_with fail
      refine (is_nil p _).mono ?_
      rintro e w3 ⟨rfl, hw⟩
      rw [hw]
      clear hw w3
      obtain ⟨r0, r1⟩ := unhide R2
      obtain ⟨f0, f1⟩ := unhide F2
      clear ev
      go_wp2_with fail
      exact bodyPost_ret (v := .agg #[.slice ar L.length cap, .int .i64 0]) (by simp [results, Tryd.results20, go_sem, r0, r1]) rfl ⟨by rw [unhide HRL]; exact ⟨_, rfl, ownSet (ownSet (unhide HO) (by omega)) (by omega)⟩, ((unhide B2).setCell (Nat.le_refl _) _).setCell (Nat.le_refl _) _⟩
  · have hu' : (uc == 0) = false := by simp [hu]
    rw [if_neg hu] at HRL
    go_wp2_with fail
    exact bodyPost_ret (v := .agg #[.slice none 0 0, .int .i64 uc]) (by simp [results, Tryd.results20, go_sem, r0, r1]) rfl ⟨by rw [unhide HRL]; exact rfl, ((unhide B1).setCell (Nat.le_refl _) _).setCell (Nat.le_refl _) _⟩
end Go.Proofs.YtijpnnooenpjoagDoor
