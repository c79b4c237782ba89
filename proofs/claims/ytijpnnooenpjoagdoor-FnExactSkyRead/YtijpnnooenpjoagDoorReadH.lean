/- What the law FnExactSkyRead does with what was answered: compared, written over, found again. -/
import Derived.Test.YtijpnnooenpjoagDoorReadG
import Derived.Test.YtijpnnooenpjoagDoorReadM
import Derived.Test.YtijpnnooenpjoagDoorMarkS
namespace Go.Proofs.YtijpnnooenpjoagDoor
open Go.RowKit Go.Sort
set_option linter.unusedVariables false

def resL (r : Except Int (List St)) : List St := match r with | .error _ => [] | .ok L => L
def resC (r : Except Int (List St)) : Int := match r with | .error c => c | .ok _ => 0
theorem resL_len (s : ByteArray) : (resL (readL s)).length ≤ 12 := by
  unfold readL
  split
  · unfold goodL
    split
    · rename_i h
      split at h
      · exact Nat.zero_le _
      · split at h
        · cases h
        · exact Nat.zero_le _
    · rename_i L h
      split at h
      · cases h
      · split at h
        · rename_i h2
          obtain rfl := Option.some.inj h
          exact (sky_ok h2.2).1
        · cases h
  · exact Nat.zero_le _
def OwnR (w : World) (a : Option Addr) (n : Nat) (row : Option Nat) : Prop := (n = 0 ∧ row = none) ∨ ∃ g f, a = some ⟨g, 0, none⟩ ∧ row = some g ∧ RowAt w 60 g (n * 4) f
def Mkd (w : World) (a : Option Addr) (n : Nat) (row : Option Nat) : Prop := (n = 0 ∧ row = none) ∨ ∃ g, a = some ⟨g, 0, none⟩ ∧ row = some g ∧ RowAt w 60 g (n * 4) (fun j => 1 + (j : Int))
theorem OwnR.kept {w w' : World} {a : Option Addr} {n : Nat} {row : Option Nat} (h : OwnR w a n row) (hB : Below w.heap.size w w') : OwnR w' a n row := by
  rcases h with h | ⟨g, f, h1, h2, h3⟩
  · exact .inl h
  · exact .inr ⟨g, f, h1, h2, h3.kept hB⟩
theorem Mkd.kept {w w' : World} {a : Option Addr} {n : Nat} {row : Option Nat} (h : Mkd w a n row) (hB : Below w.heap.size w w') : Mkd w' a n row := by
  rcases h with h | ⟨g, h1, h2, h3⟩
  · exact .inl h
  · exact .inr ⟨g, h1, h2, h3.kept hB⟩
theorem OwnR.lt {w : World} {a : Option Addr} {n : Nat} {row : Option Nat} (h : OwnR w a n row) {g : Nat} (e : row = some g) : g < w.heap.size := by
  rcases h with ⟨_, h⟩ | ⟨g', f, h1, h2, h3⟩
  · rw [h] at e; cases e
  · rw [h2] at e; obtain rfl := Option.some.inj e; exact h3.lt
def OutR (B : Nat) (L : List St) (code : Int) (e : Ending) (w' : World) : Prop :=
  ∃ a cap row, e = .returned (.agg #[.slice a L.length cap, .int .i64 code]) ∧ Stars w' a L L.length ∧ OwnR w' a L.length row ∧ ∀ g, row = some g → B ≤ g
theorem flatS_int (L : List St) (j : Nat) (hj : j < L.length * 4) : ∃ z, (flatS L)[j]? = some (.int .i64 z) := by
  obtain ⟨e0, e1, e2, e3⟩ := flatS_at L (j / 4) (by omega)
  have h : j = j / 4 * 4 ∨ j = j / 4 * 4 + 1 ∨ j = j / 4 * 4 + 2 ∨ j = j / 4 * 4 + 3 := by omega
  rcases h with h | h | h | h
  · rw [h]; exact ⟨_, e0⟩
  · rw [h]; exact ⟨_, e1⟩
  · rw [h]; exact ⟨_, e2⟩
  · rw [h]; exact ⟨_, e3⟩
theorem own_row {w : World} {B : Nat} {v : Value} {L : List St} {a : Option Addr} {cap : Nat} (h : w.ownsRow B 60 4 v L.length (flatS L)) (hv : v = .slice a L.length cap) : ∃ row, OwnR w a L.length row ∧ ∀ g, row = some g → B ≤ g := by
  rcases h.2 with ⟨h1, h0⟩ | ⟨g, cap', cur, hv', hb, hg, hnc, hcm, hcs, htake⟩
  · exact ⟨none, .inl ⟨h0, rfl⟩, fun g e => by cases e⟩
  · rw [hv] at hv'
    injection hv' with e1 e2 e3
    refine ⟨some g, .inr ⟨g, fun j => if h : j < L.length * 4 then Classical.choose (flatS_int L j h) else 0, e1, rfl, cur, hg, fun j hj => ?_⟩, fun g' e => by obtain rfl := Option.some.inj e; exact hb⟩
    have e4 : cur[j]? = (flatS L)[j]? := by
      rw [← htake, List.getElem?_take, if_pos hj]
      simp
    rw [e4]
    simp only [hj, dif_pos]
    exact Classical.choose_spec (flatS_int L j hj)
theorem out_form {B : Nat} {r : Except Int (List St)} {e : Ending} {w' : World} (h : outRes B r e w') : OutR B (resL r) (resC r) e w' := by
  cases r with
  | error c => exact ⟨none, 0, none, h, .inl rfl, .inl ⟨rfl, rfl⟩, fun g e => by cases e⟩
  | ok L =>
    obtain ⟨v, he, ho⟩ := h
    obtain ⟨a, cap, hv, hlc, hcm, hst⟩ := own_stars ho
    obtain ⟨row, hr, hg⟩ := own_row ho hv
    exact ⟨a, cap, row, by rw [he, hv]; rfl, hst, hr, hg⟩

set_option maxHeartbeats 1000000 in
set_option maxRecDepth 100000 in
theorem eqSkyOut_same (L : List St) (a a' : Option Addr) (c c' : Nat) (code : Int) (w : World) (hn : L.length ≤ 12) (hS : Stars w a L L.length) (hS' : Stars w a' L L.length) :
    Calls Tryd.prog 21 #[.agg #[.slice a L.length c, .int .i64 code], .agg #[.slice a' L.length c', .int .i64 code]] w fun e w' => e = .returned (.bool true) ∧ Below w.heap.size w w' := by
  have HS := hide hS
  have HS' := hide hS'
  clear hS hS'
  have B1 := hide (below2 w (.cells #[.slice a L.length c, .int .i64 code] 38) (.cells #[.slice a' L.length c', .int .i64 code] 38))
  have O1 : Hid (OutAt2 ((w.alloc (.cells #[.slice a L.length c, .int .i64 code] 38)).alloc (.cells #[.slice a' L.length c', .int .i64 code] 38)) w.heap.size (.slice a L.length c) code) := hide ((outAt2_new w _ _ _).kept (below1 _ _))
  have O2 : Hid (OutAt2 ((w.alloc (.cells #[.slice a L.length c, .int .i64 code] 38)).alloc (.cells #[.slice a' L.length c', .int .i64 code] 38)) (w.heap.size + 1) (.slice a' L.length c') code) := hide (by simpa using outAt2_new (w.alloc (.cells #[.slice a L.length c, .int .i64 code] 38)) (.slice a' L.length c') code 38)
  have cE := hide (fun W h1 h2 => eqStarS_same L L.length a a' c c' W (by omega) h1 h2)
  go_enter Tryd.func21, Tryd.ntmps21
  go_wp2_with fail
  refine (unhide cE _ ((unhide HS).kept (unhide B1)) ((unhide HS').kept (unhide B1))).mono ?_
  rintro e w1 ⟨rfl, hx⟩
  obtain ⟨p0, p1⟩ := (unhide O1).kept hx
  obtain ⟨q0, q1⟩ := (unhide O2).kept hx
  have B2 := hide (below_call (unhide B1) hx)
  clear hx B1 O1 O2 cE
  go_wp2_with fail
  go_ret
  exact ⟨rfl, unhide B2⟩
set_option maxHeartbeats 1000000 in
set_option maxRecDepth 100000 in
theorem markSkyOut_any (n : Nat) (a : Option Addr) (c : Nat) (code : Int) (row : Option Nat) (w : World) (hn : n ≤ 12) (hO : OwnR w a n row) :
    Calls Tryd.prog 22 #[.agg #[.slice a n c, .int .i64 code], .int .i64 1] w fun e w' => e = .returned (.int .i64 (1 + (n : Int) * 4)) ∧ Mkd w' a n row ∧ w.grownBy w' row := by
  have B1 := below1 w (.cells #[.slice a n c, .int .i64 code] 38)
  have HB := hide B1
  rcases hO with ⟨rfl, rfl⟩ | ⟨g, f, rfl, rfl, hR⟩
  · clear B1
    go_enter Tryd.func22, Tryd.ntmps22
    go_wp2_with fail
    refine (markStarS_none a c _).mono ?_
    rintro e w1 ⟨rfl, hw⟩
    rw [hw]
    clear hw w1
    go_wp2_with fail
    go_ret
    exact ⟨rfl, .inl ⟨rfl, rfl⟩, ⟨(unhide HB).os, (unhide HB).tape, (unhide HB).output, (unhide HB).size, fun k hk _ => (unhide HB).block k hk⟩⟩
  · have HR := hide (hR.kept B1)
    clear B1 hR
    have cM := hide (fun W h => markStarS_any n c g f W (by omega) h)
    go_enter Tryd.func22, Tryd.ntmps22
    go_wp2_with fail
    refine (unhide cM _ (unhide HR)).mono ?_
    rintro e w1 ⟨rfl, hr, hg⟩
    have HG := hide (grownTr (grownB (unhide HB)) hg)
    have HR2 := hide hr
    clear hr hg cM
    go_wp2_with fail
    go_ret
    exact ⟨rfl, .inr ⟨g, rfl, rfl, unhide HR2⟩, unhide HG⟩
set_option maxHeartbeats 1000000 in
set_option maxRecDepth 100000 in
theorem heldSkyOut_any (n : Nat) (a : Option Addr) (c : Nat) (code : Int) (row : Option Nat) (w : World) (hn : n ≤ 12) (hO : Mkd w a n row) :
    Calls Tryd.prog 23 #[.agg #[.slice a n c, .int .i64 code], .int .i64 1] w fun e w' => e = .returned (.int .i64 (1 + (n : Int) * 4)) ∧ Below w.heap.size w w' := by
  have B1 := below1 w (.cells #[.slice a n c, .int .i64 code] 38)
  have HB := hide B1
  rcases hO with ⟨rfl, rfl⟩ | ⟨g, rfl, rfl, hR⟩
  · clear B1
    go_enter Tryd.func23, Tryd.ntmps23
    go_wp2_with fail
    refine (heldStarS_none a c _).mono ?_
    rintro e w1 ⟨rfl, hw⟩
    rw [hw]
    clear hw w1
    go_wp2_with fail
    go_ret
    exact ⟨rfl, unhide HB⟩
  · have HR := hide (hR.kept B1)
    clear B1 hR
    have cM := hide (fun W h => heldStarS_any n c g W (by omega) h)
    have hk : decide (1 + (n : Int) * 4 < 0) = false := by simp; omega
    go_enter Tryd.func23, Tryd.ntmps23
    go_wp2_with fail
    refine (unhide cM _ (unhide HR)).mono ?_
    rintro e w1 ⟨rfl, hw⟩
    rw [hw]
    clear hw w1
    go_wp2_with fail
    go_ret
    exact ⟨rfl, unhide HB⟩
end Go.Proofs.YtijpnnooenpjoagDoor
