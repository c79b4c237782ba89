/- The specification's reader: a number read, or the first thing that is wrong. -/
import Derived.Test.YtijpnnooenpjoagDoorReadA
import Derived.Test.YtijpnnooenpjoagDoorGetNum
import Derived.Test.YtijpnnooenpjoagDoorPlace
import Derived.Test.YtijpnnooenpjoagDoorRowF
namespace Go.Proofs.YtijpnnooenpjoagDoor
open Go.RowKit Go.Sort
set_option linter.unusedVariables false

theorem scan_err {s : ByteArray} {p : Nat} : ∀ (k i u : Nat) {c : Int}, scan s p k i u = .error c → c = 3 ∨ c = 4
  | 0, i, u, c, h => by simp [scan] at h; exact .inl h.symm
  | k + 1, i, u, c, h => by
    rw [scan] at h
    split at h
    · exact .inr (Except.error.inj h).symm
    · split at h
      · exact .inl (Except.error.inj h).symm
      · split at h
        · split at h
          · exact .inl (Except.error.inj h).symm
          · cases h
        · exact scan_err k (i + 1) _ h
/-- what GetNum answers, by its three numbers -/
theorem get_form {s : ByteArray} {q : Nat} (hs : s.size ≤ 8000) : ∃ x y z : Int, getRes s (q : Int) = .agg #[.int .i64 x, .int .i64 y, .int .i64 z] ∧
    ((scanN s q = none ∧ z ≠ 0) ∨ ∃ n q', scanN s q = some (n, q') ∧ x = n ∧ y = (q' : Int) ∧ z = 0) := by
  have e : readRes s (q : Int) = scan s q 10 0 0 := by unfold readRes; rw [if_neg (by omega)]; rfl
  unfold getRes scanN
  rw [if_neg (by omega), e]
  cases h : scan s q 10 0 0 with
  | error c => exact ⟨0, 0, c, rfl, .inl ⟨rfl, by have := scan_err 10 0 0 h; omega⟩⟩
  | ok x => exact ⟨_, _, 0, rfl, .inr ⟨_, _, rfl, rfl, rfl, rfl⟩⟩

def RdAt (w : World) (b : Nat) (t : ByteArray) (q : Nat) (bad : Bool) : Prop := w.cell? ⟨b, 0, none⟩ = some (.string t) ∧ w.cell? ⟨b, 1, none⟩ = some (.int .i64 (q : Int)) ∧ w.cell? ⟨b, 2, none⟩ = some (.bool bad) ∧ w.frozen? ⟨b, 1, none⟩ = false ∧ w.frozen? ⟨b, 2, none⟩ = false
theorem RdAt.lt {w : World} {b : Nat} {t : ByteArray} {q : Nat} {bad : Bool} (h : RdAt w b t q bad) : b < w.heap.size := World.block_lt_of_cell? w _ h.1
theorem RdAt.kept {w w' : World} {b : Nat} {t : ByteArray} {q : Nat} {bad : Bool} (h : RdAt w b t q bad) (hB : Below w.heap.size w w') : RdAt w' b t q bad := by
  have hb := h.lt
  obtain ⟨h0, h1, h2, f1, f2⟩ := h
  exact ⟨by rw [hB.cell (p := ⟨b, 0, none⟩) hb]; exact h0, by rw [hB.cell (p := ⟨b, 1, none⟩) hb]; exact h1, by rw [hB.cell (p := ⟨b, 2, none⟩) hb]; exact h2, by rw [hB.frozen (p := ⟨b, 1, none⟩) hb]; exact f1, by rw [hB.frozen (p := ⟨b, 2, none⟩) hb]; exact f2⟩
theorem RdAt.grown {w w' : World} {b : Nat} {t : ByteArray} {q : Nat} {bad : Bool} {row : Option Nat} (h : RdAt w b t q bad) (hg : w.grownBy w' row) (hne : some b ≠ row) : RdAt w' b t q bad := by
  have hb := h.lt
  obtain ⟨h0, h1, h2, f1, f2⟩ := h
  have e := hg.block b hb hne
  exact ⟨hg.cell h0 hne, hg.cell h1 hne, hg.cell h2 hne, by rw [World.frozen?_of_block (w := w) e]; exact f1, by rw [World.frozen?_of_block (w := w) e]; exact f2⟩
theorem RdAt.bad {w : World} {b : Nat} {t : ByteArray} {q : Nat} {bad : Bool} (h : RdAt w b t q bad) (y : Bool) : RdAt (w.setCell ⟨b, 2, none⟩ (.bool y)) b t q y := by
  obtain ⟨h0, h1, h2, f1, f2⟩ := h
  refine ⟨?_, ?_, ?_, ?_, ?_⟩
  · go_simp
  · go_simp
  · go_simp
  · simp only [World.frozen?_setCell]; exact f1
  · simp only [World.frozen?_setCell]; exact f2
theorem RdAt.at {w : World} {b : Nat} {t : ByteArray} {q : Nat} {bad : Bool} (h : RdAt w b t q bad) (q' : Nat) : RdAt (w.setCell ⟨b, 1, none⟩ (.int .i64 (q' : Int))) b t q' bad := by
  obtain ⟨h0, h1, h2, f1, f2⟩ := h
  refine ⟨?_, ?_, ?_, ?_, ?_⟩
  · go_simp
  · go_simp
  · go_simp
  · simp only [World.frozen?_setCell]; exact f1
  · simp only [World.frozen?_setCell]; exact f2
theorem grownB {w w1 : World} {b : Nat} (h : Below w.heap.size w w1) : w.grownBy w1 (some b) := ⟨h.os, h.tape, h.output, h.size, fun k hk _ => h.block k hk⟩
theorem grownTr {a b c : World} {row : Option Nat} (h : a.grownBy b row) (k : b.grownBy c row) : a.grownBy c row :=
  ⟨k.os.trans h.os, k.tape.trans h.tape, k.output.trans h.output, Nat.le_trans h.size k.size, fun i hi hn => (k.block i (Nat.lt_of_lt_of_le hi h.size) hn).trans (h.block i hi hn)⟩
def numV (t : ByteArray) (q : Nat) (bad : Bool) : Int × Nat × Bool := if bad = true then (0, q, true) else match scanN t q with | none => (0, q, true) | some (n, q') => (n, q', false)
theorem holdR {wr wx : World} {b : Nat} {t : ByteArray} {q : Nat} {bad : Bool} (hr : RdAt wr b t q bad) (h : Below wr.heap.size wr wx) :
    (wx.cell? ⟨b, 0, none⟩ = some (.string t) ∧ wx.cell? ⟨b, 1, none⟩ = some (.int .i64 (q : Int))) ∧ Below wr.heap.size wr wx := ⟨⟨(hr.kept h).1, (hr.kept h).2.1⟩, h⟩

set_option maxHeartbeats 2000000 in
set_option maxRecDepth 100000 in
theorem num_any (b : Nat) (t : ByteArray) (q : Nat) (bad : Bool) (w : World) (ht : t.size ≤ 8000) (hq : q ≤ 8000) (hR : RdAt w b t q bad) :
    Calls Tryd.prog 57 #[.pointer (some ⟨b, 0, none⟩)] w fun e w' => e = .returned (.int .i64 (numV t q bad).1) ∧ RdAt w' b t (numV t q bad).2.1 (numV t q bad).2.2 ∧ w.grownBy w' (some b) := by
  have HR := hide hR
  clear hR
  obtain ⟨x, y, z, hg, hz⟩ := get_form (q := q) ht
  have HZ := hide hz
  have cG : Hid (∀ W : World, Calls Tryd.prog 88 #[.string t, .int .i64 (q : Int)] W fun e w' => e = .returned (.agg #[.int .i64 x, .int .i64 y, .int .i64 z]) ∧ Below W.heap.size W w') := hide (fun W => (specGetNum_any t (q : Int) W (by omega) (by omega)).mono fun e w' h => ⟨by rw [h.1, hg], h.2⟩)
  clear hg hz
  go_enter Tryd.func57, Tryd.ntmps57
  go_wp2_with fail
  go_cut [3] (fun s wx => ∃ bb, s = .pointer (some ⟨bb, 0, none⟩) ∧ VecAt wx bb x y z ∧ Below w.heap.size w wx)
  case first =>
    go_region_held (fun w' => (w'.cell? ⟨b, 0, none⟩ = some (.string t) ∧ w'.cell? ⟨b, 1, none⟩ = some (.int .i64 (q : Int))) ∧ Below w.heap.size w w') (first | exact holdR (unhide HR) (Below.refl _ _).drew | exact holdR (unhide HR) (stepAlloc (by assumption) _) | exact holdR (unhide HR) (by assumption) | exact holdR (unhide HR) (stepAlloc2 (by assumption) _) | exact holdR (unhide HR) (stepSet3 (by assumption) (by first | exact Nat.le_refl _ | exact Below.size (by assumption)) _ _ _)) ((go_at_call 88; refine (unhide cG _).mono ?_; rintro e wn ⟨rfl, hx⟩; have hw := stepCall (w1 := w) hx (by assumption); first | (have hr : Resv wn w.heap.size := newVecD hx; have hr2 := hr; obtain ⟨⟨r0, r1, r2⟩, f0, f1, f2⟩ := hr2) | (have hr := newVec hx; have hr2 := hr; obtain ⟨⟨r0, r1, r2⟩, f0, f1, f2⟩ := hr2) | (have hr := keptVec (by assumption) hx; have hr2 := hr; obtain ⟨⟨r0, r1, r2⟩, f0, f1, f2⟩ := hr2) | skip))
    all_goals (go_wp2_with fail; go_meet; refine ⟨_, rfl, ?_, ?_⟩)
    all_goals first | (with_reducible exact vecAt_new _ _ _ _ _) | (with_reducible exact stepAlloc2 (by assumption) _) | (with_reducible exact vecAt_set3 (by assumption) _ _ _) | (with_reducible exact below_set3' (by assumption) (by first | exact Nat.le_refl _ | exact Below.size (by assumption)) _ _ _) | trace_state
  case rest =>
    obtain ⟨bb, rfl, v5, hx⟩ := hcut
    have R2 := hide ((unhide HR).kept hx)
    have G2 := hide (grownB (b := b) hx)
    obtain ⟨v0, v1, v2⟩ := v5
    obtain ⟨c0, c1, c2, f1, f2⟩ := unhide R2
    clear hx cG
    cases bad
    · rcases unhide HZ with ⟨hn, hz⟩ | ⟨n, q', hn, rfl, rfl, rfl⟩
      · have HV : Hid (numV t q false = (0, q, true)) := hide (by unfold numV; rw [hn]; rfl)
        have hz' : (z == 0) = false := by simp [hz]
        have hz2 : (z != 0) = true := by simp [hz]
        clear hn
        go_wp2_with fail
        go_ret
        exact ⟨by rw [unhide HV]; rfl, by rw [unhide HV]; exact (unhide R2).bad true, grownSet (unhide G2) _ _⟩
      · have HV : Hid (numV t q false = (x, q', false)) := hide (by unfold numV; rw [hn]; rfl)
        clear hn
        go_wp2_with fail
        go_ret
        exact ⟨by rw [unhide HV]; rfl, by rw [unhide HV]; exact (unhide R2).at q', grownSet (unhide G2) _ _⟩
    · have HV : Hid (numV t q true = (0, q, true)) := hide rfl
      go_wp2_with fail
      go_ret
      exact ⟨by rw [unhide HV]; rfl, by rw [unhide HV]; exact (unhide R2).bad true, grownSet (unhide G2) _ _⟩
end Go.Proofs.YtijpnnooenpjoagDoor
