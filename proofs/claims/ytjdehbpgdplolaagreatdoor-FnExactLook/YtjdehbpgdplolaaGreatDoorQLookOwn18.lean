/- Several texts in one: ModE, ModG, ModH, ModB, ModJ. -/
import Derived.Test.YtjdehbpgdplolaaGreatDoorQLookOwn17
namespace Go.Proofs.YtjdehbpgdplolaaGreatDoor
open Go.RowKit Go.Sort
set_option linter.unusedVariables false

def TkO (w : World) (b : Nat) (v : Value) (lim mode A B C D coast fr code : Int) : Prop := TkAt w b v lim mode A B C D coast fr ∧ w.cell? ⟨b, 9, none⟩ = some (.int .i64 code)
theorem TkO.kept {w w' : World} {b : Nat} {v : Value} {lim mode A B C D coast fr code : Int} (h : TkO w b v lim mode A B C D coast fr code) (hB : Below w.heap.size w w') : TkO w' b v lim mode A B C D coast fr code := ⟨h.1.kept hB, cellK h.2 hB⟩
theorem tkO_new (w : World) (v : Value) (lim mode A B C D coast fr code : Int) (t : TypeId) : TkO (w.alloc (.cells #[v, .int .i64 lim, .int .i64 mode, .int .i64 A, .int .i64 B, .int .i64 C, .int .i64 D, .int .i64 coast, .int .i64 fr, .int .i64 code] t)) w.heap.size v lim mode A B C D coast fr code := by
  refine ⟨⟨?_, ?_, ?_, ?_, ?_, ?_, ?_, ?_, ?_⟩, ?_⟩ <;> simp
theorem cellG {w w' : World} {a : Addr} {v : Value} {row : Option Nat} (h : w.cell? a = some v) (hg : w.grownBy w' row) (hne : some a.block ≠ row) : w'.cell? a = some v := (World.cell?_of_block (hg.block a.block (World.block_lt_of_cell? w a h) hne)).trans h
theorem TkAt.grown {w w' : World} {b : Nat} {v : Value} {lim mode A B C D coast fr : Int} {row : Option Nat} (h : TkAt w b v lim mode A B C D coast fr) (hg : w.grownBy w' row) (hne : some b ≠ row) : TkAt w' b v lim mode A B C D coast fr := by
  obtain ⟨h0, h1, h2, h3, h4, h5, h6, h7, h8⟩ := h
  exact ⟨cellG h0 hg hne, cellG h1 hg hne, cellG h2 hg hne, cellG h3 hg hne, cellG h4 hg hne, cellG h5 hg hne, cellG h6 hg hne, cellG h7 hg hne, cellG h8 hg hne⟩
theorem TkO.grown {w w' : World} {b : Nat} {v : Value} {lim mode A B C D coast fr code : Int} {row : Option Nat} (h : TkO w b v lim mode A B C D coast fr code) (hg : w.grownBy w' row) (hne : some b ≠ row) : TkO w' b v lim mode A B C D coast fr code := ⟨h.1.grown hg hne, cellG h.2 hg hne⟩

set_option maxHeartbeats 2000000 in
set_option maxRecDepth 100000 in
theorem eqTrackerOut_same (L : List St) (n : Nat) (lim mode A B C D coast fr code : Int) (a a' : Option Addr) (c c' : Nat) (w : World) (hn : n ≤ 1048576) (hS : Stars w a L n) (hS' : Stars w a' L n) :
    Calls Tryz.prog 10 #[.agg #[.slice a n c, .int .i64 lim, .int .i64 mode, .int .i64 A, .int .i64 B, .int .i64 C, .int .i64 D, .int .i64 coast, .int .i64 fr, .int .i64 code], .agg #[.slice a' n c', .int .i64 lim, .int .i64 mode, .int .i64 A, .int .i64 B, .int .i64 C, .int .i64 D, .int .i64 coast, .int .i64 fr, .int .i64 code]] w fun e w' => e = .returned (.bool true) ∧ Below w.heap.size w w' := by
  have B1 := hide (below2 w (.cells #[.slice a n c, .int .i64 lim, .int .i64 mode, .int .i64 A, .int .i64 B, .int .i64 C, .int .i64 D, .int .i64 coast, .int .i64 fr, .int .i64 code] 35) (.cells #[.slice a' n c', .int .i64 lim, .int .i64 mode, .int .i64 A, .int .i64 B, .int .i64 C, .int .i64 D, .int .i64 coast, .int .i64 fr, .int .i64 code] 35))
  have O1 : Hid (TkO ((w.alloc (.cells #[.slice a n c, .int .i64 lim, .int .i64 mode, .int .i64 A, .int .i64 B, .int .i64 C, .int .i64 D, .int .i64 coast, .int .i64 fr, .int .i64 code] 35)).alloc (.cells #[.slice a' n c', .int .i64 lim, .int .i64 mode, .int .i64 A, .int .i64 B, .int .i64 C, .int .i64 D, .int .i64 coast, .int .i64 fr, .int .i64 code] 35)) w.heap.size (.slice a n c) lim mode A B C D coast fr code) := hide ((tkO_new w _ _ _ _ _ _ _ _ _ _ _).kept (below1 _ _))
  have O2 : Hid (TkO ((w.alloc (.cells #[.slice a n c, .int .i64 lim, .int .i64 mode, .int .i64 A, .int .i64 B, .int .i64 C, .int .i64 D, .int .i64 coast, .int .i64 fr, .int .i64 code] 35)).alloc (.cells #[.slice a' n c', .int .i64 lim, .int .i64 mode, .int .i64 A, .int .i64 B, .int .i64 C, .int .i64 D, .int .i64 coast, .int .i64 fr, .int .i64 code] 35)) (w.heap.size + 1) (.slice a' n c') lim mode A B C D coast fr code) := hide (by simpa using tkO_new (w.alloc (.cells #[.slice a n c, .int .i64 lim, .int .i64 mode, .int .i64 A, .int .i64 B, .int .i64 C, .int .i64 D, .int .i64 coast, .int .i64 fr, .int .i64 code] 35)) (.slice a' n c') lim mode A B C D coast fr code 35)
  have cE := hide (eqTracker_same L n lim mode A B C D coast fr a a' c c' _ hn (hS.kept (unhide B1)) (hS'.kept (unhide B1)))
  clear hS hS'
  go_enter Tryz.func10, Tryz.ntmps10
  go_wp2_with fail
  refine (unhide cE).mono ?_
  rintro e w1 ⟨rfl, hx⟩
  obtain ⟨⟨p0, p1, p2, p3, p4, p5, p6, p7, p8⟩, p9⟩ := (unhide O1).kept hx
  obtain ⟨⟨q0, q1, q2, q3, q4, q5, q6, q7, q8⟩, q9⟩ := (unhide O2).kept hx
  have B2 := hide (below_call (unhide B1) hx)
  clear hx B1 O1 O2 cE
  go_wp2_with fail
  go_ret
  exact ⟨rfl, unhide B2⟩
set_option maxHeartbeats 1000000 in
set_option maxRecDepth 100000 in
theorem markTracker_any (n : Nat) (lim mode A B C D coast fr : Int) (a : Option Addr) (c : Nat) (row : Option Nat) (w : World) (hn : n ≤ 1048576) (hO : OwnR w a n row) :
    Calls Tryz.prog 13 #[.agg #[.slice a n c, .int .i64 lim, .int .i64 mode, .int .i64 A, .int .i64 B, .int .i64 C, .int .i64 D, .int .i64 coast, .int .i64 fr], .int .i64 1] w fun e w' => e = .returned (.int .i64 (1 + (n : Int) * 4)) ∧ Mkd w' a n row ∧ w.grownBy w' row := by
  have B1 := below1 w (.cells #[.slice a n c, .int .i64 lim, .int .i64 mode, .int .i64 A, .int .i64 B, .int .i64 C, .int .i64 D, .int .i64 coast, .int .i64 fr] 33)
  have HB := hide B1
  rcases hO with ⟨rfl, rfl⟩ | ⟨g, f, rfl, rfl, hR⟩
  · clear B1
    go_enter Tryz.func13, Tryz.ntmps13
    go_wp2_with fail
    refine (markStarS_none a c _).mono ?_
    rintro e w1 ⟨rfl, hw⟩
    rw [hw]
    clear hw w1
    go_wp2_with fail
    go_ret
    exact ⟨rfl, .inl ⟨rfl, rfl⟩, ⟨(unhide HB).os, (unhide HB).tape, (unhide HB).output, (unhide HB).size, fun k hk _ => (unhide HB).block k hk⟩⟩
  · have HR := hide (hR.kept B1)
    clear B1 hR
    have cM := hide (fun W h => markStarS_any n c g f W hn h)
    go_enter Tryz.func13, Tryz.ntmps13
    go_wp2_with fail
    refine (unhide cM _ (unhide HR)).mono ?_
    rintro e w1 ⟨rfl, hr, hg⟩
    have HG := hide (grownTr (grownB (unhide HB)) hg)
    have HR2 := hide hr
    clear hr hg cM
    go_wp2_with fail
    go_ret
    exact ⟨rfl, .inr ⟨g, rfl, rfl, unhide HR2⟩, unhide HG⟩
set_option maxHeartbeats 1000000 in
set_option maxRecDepth 100000 in
theorem markTrackerOut_any (n : Nat) (lim mode A B C D coast fr code : Int) (a : Option Addr) (c : Nat) (row : Option Nat) (w : World) (hn : n ≤ 1048576) (hO : OwnR w a n row) :
    Calls Tryz.prog 15 #[.agg #[.slice a n c, .int .i64 lim, .int .i64 mode, .int .i64 A, .int .i64 B, .int .i64 C, .int .i64 D, .int .i64 coast, .int .i64 fr, .int .i64 code], .int .i64 1] w fun e w' => e = .returned (.int .i64 (1 + (n : Int) * 4)) ∧ Mkd w' a n row ∧ w.grownBy w' row := by
  have B1 := below1 w (.cells #[.slice a n c, .int .i64 lim, .int .i64 mode, .int .i64 A, .int .i64 B, .int .i64 C, .int .i64 D, .int .i64 coast, .int .i64 fr, .int .i64 code] 35)
  have cM := hide (markTracker_any n lim mode A B C D coast fr a c row _ hn (hO.kept B1))
  have HB := hide B1
  clear B1 hO
  go_enter Tryz.func15, Tryz.ntmps15
  go_wp2_with fail
  refine (unhide cM).mono ?_
  rintro e w1 ⟨rfl, hr, hg⟩
  have HG := hide (grownTr (⟨(unhide HB).os, (unhide HB).tape, (unhide HB).output, (unhide HB).size, fun k hk _ => (unhide HB).block k hk⟩ : w.grownBy _ row) hg)
  have HR2 := hide hr
  clear hr hg cM
  go_wp2_with fail
  go_ret
  exact ⟨rfl, unhide HR2, unhide HG⟩
set_option maxHeartbeats 1000000 in
set_option maxRecDepth 100000 in
theorem heldTracker_any (n : Nat) (lim mode A B C D coast fr : Int) (a : Option Addr) (c : Nat) (row : Option Nat) (w : World) (hn : n ≤ 1048576) (hO : Mkd w a n row) :
    Calls Tryz.prog 34 #[.agg #[.slice a n c, .int .i64 lim, .int .i64 mode, .int .i64 A, .int .i64 B, .int .i64 C, .int .i64 D, .int .i64 coast, .int .i64 fr], .int .i64 1] w fun e w' => e = .returned (.int .i64 (1 + (n : Int) * 4)) ∧ Below w.heap.size w w' := by
  have B1 := below1 w (.cells #[.slice a n c, .int .i64 lim, .int .i64 mode, .int .i64 A, .int .i64 B, .int .i64 C, .int .i64 D, .int .i64 coast, .int .i64 fr] 33)
  have HB := hide B1
  rcases hO with ⟨rfl, rfl⟩ | ⟨g, rfl, rfl, hR⟩
  · clear B1
    go_enter Tryz.func34, Tryz.ntmps34
    go_wp2_with fail
    refine (heldStarS_none a c _).mono ?_
    rintro e w1 ⟨rfl, hw⟩
    rw [hw]
    clear hw w1
    go_wp2_with fail
    go_ret
    exact ⟨rfl, unhide HB⟩
  · have HR := hide (hR.kept B1)
    clear B1 hR
    have cM := hide (fun W h => heldStarS_any n c g W hn h)
    have hk : decide (1 + (n : Int) * 4 < 0) = false := by simp; omega
    go_enter Tryz.func34, Tryz.ntmps34
    go_wp2_with fail
    refine (unhide cM _ (unhide HR)).mono ?_
    rintro e w1 ⟨rfl, hw⟩
    rw [hw]
    clear hw w1
    go_wp2_with fail
    go_ret
    exact ⟨rfl, unhide HB⟩
set_option maxHeartbeats 1000000 in
set_option maxRecDepth 100000 in
theorem heldTrackerOut_any (n : Nat) (lim mode A B C D coast fr code : Int) (a : Option Addr) (c : Nat) (row : Option Nat) (w : World) (hn : n ≤ 1048576) (hO : Mkd w a n row) :
    Calls Tryz.prog 16 #[.agg #[.slice a n c, .int .i64 lim, .int .i64 mode, .int .i64 A, .int .i64 B, .int .i64 C, .int .i64 D, .int .i64 coast, .int .i64 fr, .int .i64 code], .int .i64 1] w fun e w' => e = .returned (.int .i64 (1 + (n : Int) * 4)) ∧ Below w.heap.size w w' := by
  have B1 := below1 w (.cells #[.slice a n c, .int .i64 lim, .int .i64 mode, .int .i64 A, .int .i64 B, .int .i64 C, .int .i64 D, .int .i64 coast, .int .i64 fr, .int .i64 code] 35)
  have cM := hide (heldTracker_any n lim mode A B C D coast fr a c row _ hn (hO.kept B1))
  have HB := hide B1
  have hk : decide (1 + (n : Int) * 4 < 0) = false := by simp; omega
  clear B1 hO
  go_enter Tryz.func16, Tryz.ntmps16
  go_wp2_with fail
  refine (unhide cM).mono ?_
  rintro e w1 ⟨rfl, hx⟩
  have B2 := hide (below_call (unhide HB) hx)
  clear hx
  go_wp2_with fail
  go_ret
  exact ⟨rfl, unhide B2⟩
end Go.Proofs.YtjdehbpgdplolaaGreatDoor

namespace Go.Proofs.YtjdehbpgdplolaaGreatDoor
open Go.RowKit Go.Sort
set_option linter.unusedVariables false

theorem ownS_none (w : World) (B : Nat) (h : B ≤ w.heap.size) : (w.alloc (.cells #[] 85)).ownsRow B 85 4 (.slice (some ⟨w.heap.size, 0, none⟩) 0 0) 0 [] :=
  ⟨rfl, .inr ⟨_, 0, #[], rfl, h, Array.getElem?_push_size, Nat.le_refl _, Nat.zero_le _, rfl, rfl⟩⟩
theorem flatSt_one {L : List St} {u : Value} (h : u ∈ flatSt L) : u.oneCell' = true := by
  unfold flatSt at h
  rw [List.mem_flatMap] at h
  obtain ⟨s, _, hs⟩ := h
  simp [stC] at hs
  rcases hs with rfl | rfl | rfl | rfl <;> rfl
theorem stars_cells {w : World} {b o : Nat} {L : List St} (h : Stars w (some ⟨b, o, none⟩) L L.length) (j : Nat) (u : Value) (hj : (flatSt L)[j]? = some u) : w.cell? ((⟨b, o, none⟩ : Addr).add j) = some u := by
  have hlt : j < L.length * 4 := by
    have := (List.getElem?_eq_some_iff.1 hj).1
    rw [flatSt_len] at this
    exact this
  have hA : (⟨b, o, none⟩ : Addr).add j = ⟨b, o + j, none⟩ := by unfold Addr.add; split <;> simp_all
  rw [hA]
  rcases h with h | ⟨b', o', e, _, hc⟩
  · omega
  · simp only [Option.some.injEq, Addr.mk.injEq, and_true] at e
    obtain ⟨rfl, rfl⟩ := e
    obtain ⟨e0, e1, e2, e3⟩ := flatSt_at L (j / 4) (by omega)
    obtain ⟨c0, c1, c2, c3⟩ := hc (j / 4) (by omega)
    have h4 : j = j / 4 * 4 ∨ j = j / 4 * 4 + 1 ∨ j = j / 4 * 4 + 2 ∨ j = j / 4 * 4 + 3 := by omega
    rcases h4 with h4 | h4 | h4 | h4
    · rw [h4, e0] at hj; rw [h4, c0]; exact hj
    · rw [h4, e1] at hj; rw [h4, ← Nat.add_assoc, c1]; exact hj
    · rw [h4, e2] at hj; rw [h4, ← Nat.add_assoc, c2]; exact hj
    · rw [h4, e3] at hj; rw [h4, ← Nat.add_assoc, c3]; exact hj
/-- what is copied: an own row of L, at a -/
def Copied (w : World) (B : Nat) (L : List St) (a : Option Addr) (cap : Nat) : Prop := w.ownsRow B 85 4 (.slice a L.length cap) L.length (flatSt L)
theorem Copied.stars {w : World} {B : Nat} {L : List St} {a : Option Addr} {cap : Nat} (h : Copied w B L a cap) : Stars w a L L.length := by
  obtain ⟨a', c', e, _, _, hs⟩ := own_stars h
  injection e with e1 e2 e3
  subst e1
  exact hs
theorem Copied.row {w : World} {B : Nat} {L : List St} {a : Option Addr} {cap : Nat} (h : Copied w B L a cap) : ∃ row, OwnR w a L.length row ∧ ∀ g, row = some g → B ≤ g := own_row h rfl
theorem Copied.capMax {w : World} {B : Nat} {L : List St} {a : Option Addr} {cap : Nat} (h : Copied w B L a cap) : L.length ≤ cap ∧ cap ≤ maxLen := by
  obtain ⟨a', c', e, h1, h2, _⟩ := own_stars h
  injection e with e1 e2 e3
  subst e3
  exact ⟨h1, h2⟩
theorem Copied.kept {w w' : World} {B : Nat} {L : List St} {a : Option Addr} {cap : Nat} (h : Copied w B L a cap) (hB : Below w.heap.size w w') : Copied w' B L a cap := by
  obtain ⟨h1, h2⟩ := h
  refine ⟨h1, ?_⟩
  rcases h2 with h2 | ⟨g, c', cur, e, hg, hh, r⟩
  · exact .inl h2
  · exact .inr ⟨g, c', cur, e, hg, by rw [hB.block g (Array.getElem?_eq_some_iff.1 hh).1]; exact hh, r⟩
theorem Copied.low {w : World} {B B' : Nat} {L : List St} {a : Option Addr} {cap : Nat} (h : Copied w B L a cap) (hb : B' ≤ B) : Copied w B' L a cap := by
  obtain ⟨h1, h2⟩ := h
  refine ⟨h1, ?_⟩
  rcases h2 with h2 | ⟨g, c', cur, e, hg, r⟩
  · exact .inl h2
  · exact .inr ⟨g, c', cur, e, by omega, r⟩
theorem copied_form {w : World} {B : Nat} {L : List St} {v : Value} (h : w.ownsRow B 85 4 v L.length (flatSt L)) : ∃ a cap, v = .slice a L.length cap ∧ Copied w B L a cap := by
  obtain ⟨a, cap, e, _⟩ := own_stars h
  exact ⟨a, cap, e, by unfold Copied; rw [← e]; exact h⟩
theorem FreeK.grown {w w' : World} {b : Nat} {row : Option Nat} (h : FreeK w b) (hb : b < w.heap.size) (hg : w.grownBy w' row) (hne : some b ≠ row) : FreeK w' b := fun i => by
  have h1 := h i
  unfold World.frozen? at h1 ⊢
  rw [hg.block b hb hne]
  exact h1
theorem Copied.far {w : World} {B : Nat} {L : List St} {a : Option Addr} {cap : Nat} (h : Copied w B L a cap) {b : Nat} (hne : b < B) (o : Nat) (x : Value) : Copied (w.setCell ⟨b, o, none⟩ x) B L a cap := by
  obtain ⟨h1, h2⟩ := h
  refine ⟨h1, ?_⟩
  rcases h2 with h2 | ⟨g, c', cur, e, hg, hh, r⟩
  · exact .inl h2
  · exact .inr ⟨g, c', cur, e, hg, by rw [Below.heap_setCell w ⟨b, o, none⟩ x g (by show g ≠ b; omega)]; exact hh, r⟩
end Go.Proofs.YtjdehbpgdplolaaGreatDoor

namespace Go.Proofs.YtjdehbpgdplolaaGreatDoor
open Go.RowKit Go.Sort
set_option linter.unusedVariables false

theorem res_copy (T : Array Value) (X : World) (b : Nat) (v : Value) (lim mode A B C D coast fr : Int) (hT : T.getD 2 undef = .pointer (some ⟨b, 0, none⟩)) (h : TkAt X b v lim mode A B C D coast fr) : (results Tryz.f41 T).run Tryz.prog X = .ok (.agg #[v, .int .i64 lim, .int .i64 mode, .int .i64 A, .int .i64 B, .int .i64 C, .int .i64 D, .int .i64 coast, .int .i64 fr]) X := by
  obtain ⟨h0, h1, h2, h3, h4, h5, h6, h7, h8⟩ := h
  simp only [Array.getD_eq_getD_getElem?] at hT
  simp [results, Tryz.results41, go_sem, hT, h0, h1, h2, h3, h4, h5, h6, h7, h8]
theorem res_lost (T : Array Value) (X : World) (b : Nat) (v : Value) (lim mode A B C D coast fr : Int) (hT : T.getD 2 undef = .pointer (some ⟨b, 0, none⟩)) (h : TkAt X b v lim mode A B C D coast fr) : (results Tryz.f46 T).run Tryz.prog X = .ok (.agg #[v, .int .i64 lim, .int .i64 mode, .int .i64 A, .int .i64 B, .int .i64 C, .int .i64 D, .int .i64 coast, .int .i64 fr]) X := by
  obtain ⟨h0, h1, h2, h3, h4, h5, h6, h7, h8⟩ := h
  simp only [Array.getD_eq_getD_getElem?] at hT
  simp [results, Tryz.results46, go_sem, hT, h0, h1, h2, h3, h4, h5, h6, h7, h8]
theorem res_ill (T : Array Value) (X : World) (b : Nat) (v : Value) (lim mode A B C D coast fr code : Int) (hT : T.getD 2 undef = .pointer (some ⟨b, 0, none⟩)) (h : TkO X b v lim mode A B C D coast fr code) : (results Tryz.f18 T).run Tryz.prog X = .ok (.agg #[v, .int .i64 lim, .int .i64 mode, .int .i64 A, .int .i64 B, .int .i64 C, .int .i64 D, .int .i64 coast, .int .i64 fr, .int .i64 code]) X := by
  obtain ⟨⟨h0, h1, h2, h3, h4, h5, h6, h7, h8⟩, h9⟩ := h
  simp only [Array.getD_eq_getD_getElem?] at hT
  simp [results, Tryz.results18, go_sem, hT, h0, h1, h2, h3, h4, h5, h6, h7, h8, h9]
theorem res_workOf (T : Array Value) (X : World) (b : Nat) (v : Value) (lim mode A B C D coast fr : Int) (hT : T.getD 2 undef = .pointer (some ⟨b, 0, none⟩)) (h : TkAt X b v lim mode A B C D coast fr) : (results Tryz.f27 T).run Tryz.prog X = .ok (.agg #[v, .int .i64 lim, .int .i64 mode, .int .i64 A, .int .i64 B, .int .i64 C, .int .i64 D, .int .i64 coast, .int .i64 fr]) X := by
  obtain ⟨h0, h1, h2, h3, h4, h5, h6, h7, h8⟩ := h
  simp only [Array.getD_eq_getD_getElem?] at hT
  simp [results, Tryz.results27, go_sem, hT, h0, h1, h2, h3, h4, h5, h6, h7, h8]
theorem res_wlost (T : Array Value) (X : World) (b : Nat) (v : Value) (lim mode A B C D coast fr : Int) (hT : T.getD 2 undef = .pointer (some ⟨b, 0, none⟩)) (h : TkAt X b v lim mode A B C D coast fr) : (results Tryz.f81 T).run Tryz.prog X = .ok (.agg #[v, .int .i64 lim, .int .i64 mode, .int .i64 A, .int .i64 B, .int .i64 C, .int .i64 D, .int .i64 coast, .int .i64 fr]) X := by
  obtain ⟨h0, h1, h2, h3, h4, h5, h6, h7, h8⟩ := h
  simp only [Array.getD_eq_getD_getElem?] at hT
  simp [results, Tryz.results81, go_sem, hT, h0, h1, h2, h3, h4, h5, h6, h7, h8]
theorem res_told (T : Array Value) (X : World) (b : Nat) (v : Value) (lim mode A B C D coast fr code : Int) (hT : T.getD 2 undef = .pointer (some ⟨b, 0, none⟩)) (h : TkO X b v lim mode A B C D coast fr code) : (results Tryz.f29 T).run Tryz.prog X = .ok (.agg #[v, .int .i64 lim, .int .i64 mode, .int .i64 A, .int .i64 B, .int .i64 C, .int .i64 D, .int .i64 coast, .int .i64 fr, .int .i64 code]) X := by
  obtain ⟨⟨h0, h1, h2, h3, h4, h5, h6, h7, h8⟩, h9⟩ := h
  simp only [Array.getD_eq_getD_getElem?] at hT
  simp [results, Tryz.results29, go_sem, hT, h0, h1, h2, h3, h4, h5, h6, h7, h8, h9]
theorem tkO_set10 {w : World} {b : Nat} {u : Value} {lim0 mode0 A0 B0 C0 D0 coast0 fr0 code0 : Int} (h : TkO w b u lim0 mode0 A0 B0 C0 D0 coast0 fr0 code0) (v : Value) (lim mode A B C D coast fr code : Int) : TkO ((((((((((w.setCell ⟨b, 0, none⟩ v).setCell ⟨b, 1, none⟩ (.int .i64 lim)).setCell ⟨b, 2, none⟩ (.int .i64 mode)).setCell ⟨b, 3, none⟩ (.int .i64 A)).setCell ⟨b, 4, none⟩ (.int .i64 B)).setCell ⟨b, 5, none⟩ (.int .i64 C)).setCell ⟨b, 6, none⟩ (.int .i64 D)).setCell ⟨b, 7, none⟩ (.int .i64 coast)).setCell ⟨b, 8, none⟩ (.int .i64 fr)).setCell ⟨b, 9, none⟩ (.int .i64 code)) b v lim mode A B C D coast fr code := by
  obtain ⟨⟨h0, h1, h2, h3, h4, h5, h6, h7, h8⟩, h9⟩ := h
  refine ⟨⟨?_, ?_, ?_, ?_, ?_, ?_, ?_, ?_, ?_⟩, ?_⟩ <;> simp [go_sem, h0, h1, h2, h3, h4, h5, h6, h7, h8, h9]
theorem tkAt_set1 {w : World} {b : Nat} {u : Value} {lim mode A B C D coast fr : Int} (h : TkAt w b u lim mode A B C D coast fr) (v : Value) : TkAt (w.setCell ⟨b, 0, none⟩ v) b v lim mode A B C D coast fr := by
  obtain ⟨h0, h1, h2, h3, h4, h5, h6, h7, h8⟩ := h
  refine ⟨?_, ?_, ?_, ?_, ?_, ?_, ?_, ?_, ?_⟩ <;> simp [go_sem, h0, h1, h2, h3, h4, h5, h6, h7, h8]
theorem tkAt_at {w : World} {b : Nat} {cs : Array Value} {t : TypeId} {fz : Nat × Nat} (h : w.heap[b]? = some (.cells cs t fz)) {v : Value} {lim mode A B C D coast fr : Int} (hc : cs = #[v, .int .i64 lim, .int .i64 mode, .int .i64 A, .int .i64 B, .int .i64 C, .int .i64 D, .int .i64 coast, .int .i64 fr]) : TkAt w b v lim mode A B C D coast fr := by
  subst hc
  refine ⟨?_, ?_, ?_, ?_, ?_, ?_, ?_, ?_, ?_⟩ <;> simp [World.cell?, h]

set_option maxHeartbeats 2000000 in
set_option maxRecDepth 100000 in
theorem l07Copy_any (L : List St) (lim mode A B C D coast fr : Int) (b o c : Nat) (w : World) (hn : L.length ≤ 1048576) (hS : Stars w (some ⟨b, o, none⟩) L L.length) :
    Calls Tryz.prog 41 #[.agg #[.slice (some ⟨b, o, none⟩) L.length c, .int .i64 lim, .int .i64 mode, .int .i64 A, .int .i64 B, .int .i64 C, .int .i64 D, .int .i64 coast, .int .i64 fr]] w fun e w' => ∃ a cap, e = .returned (.agg #[.slice a L.length cap, .int .i64 lim, .int .i64 mode, .int .i64 A, .int .i64 B, .int .i64 C, .int .i64 D, .int .i64 coast, .int .i64 fr]) ∧ Copied w' (w.heap.size + 2) L a cap ∧ Below w.heap.size w w' := by
  have B0 := below3 w (.cells #[.slice (some ⟨b, o, none⟩) L.length c, .int .i64 lim, .int .i64 mode, .int .i64 A, .int .i64 B, .int .i64 C, .int .i64 D, .int .i64 coast, .int .i64 fr] 33) (.cells #[.slice none 0 0, .int .i64 0, .int .i64 0, .int .i64 0, .int .i64 0, .int .i64 0, .int .i64 0, .int .i64 0, .int .i64 0] 33) (.cells #[] 85)
  have S1 := hide (hS.kept B0)
  have S0 := ((tkAt_new w (.slice (some ⟨b, o, none⟩) L.length c) lim mode A B C D coast fr 33).kept (below1 _ (.cells #[.slice none 0 0, .int .i64 0, .int .i64 0, .int .i64 0, .int .i64 0, .int .i64 0, .int .i64 0, .int .i64 0, .int .i64 0] 33))).kept (below1 _ (.cells #[] 85))
  have R0 := (by simpa using tkAt_new (w.alloc (.cells #[.slice (some ⟨b, o, none⟩) L.length c, .int .i64 lim, .int .i64 mode, .int .i64 A, .int .i64 B, .int .i64 C, .int .i64 D, .int .i64 coast, .int .i64 fr] 33)) (.slice none 0 0) 0 0 0 0 0 0 0 0 33 : TkAt ((w.alloc (.cells #[.slice (some ⟨b, o, none⟩) L.length c, .int .i64 lim, .int .i64 mode, .int .i64 A, .int .i64 B, .int .i64 C, .int .i64 D, .int .i64 coast, .int .i64 fr] 33)).alloc (.cells #[.slice none 0 0, .int .i64 0, .int .i64 0, .int .i64 0, .int .i64 0, .int .i64 0, .int .i64 0, .int .i64 0, .int .i64 0] 33)) (w.heap.size + 1) (.slice none 0 0) 0 0 0 0 0 0 0 0).kept (below1 _ (.cells #[] 85))
  have F0 := ((freeK_new w #[.slice (some ⟨b, o, none⟩) L.length c, .int .i64 lim, .int .i64 mode, .int .i64 A, .int .i64 B, .int .i64 C, .int .i64 D, .int .i64 coast, .int .i64 fr] 33).kept (by simp) (below1 _ (.cells #[.slice none 0 0, .int .i64 0, .int .i64 0, .int .i64 0, .int .i64 0, .int .i64 0, .int .i64 0, .int .i64 0, .int .i64 0] 33))).kept (by simp; omega) (below1 _ (.cells #[] 85))
  have G0 := (by simpa using freeK_new (w.alloc (.cells #[.slice (some ⟨b, o, none⟩) L.length c, .int .i64 lim, .int .i64 mode, .int .i64 A, .int .i64 B, .int .i64 C, .int .i64 D, .int .i64 coast, .int .i64 fr] 33)) #[.slice none 0 0, .int .i64 0, .int .i64 0, .int .i64 0, .int .i64 0, .int .i64 0, .int .i64 0, .int .i64 0, .int .i64 0] 33 : FreeK ((w.alloc (.cells #[.slice (some ⟨b, o, none⟩) L.length c, .int .i64 lim, .int .i64 mode, .int .i64 A, .int .i64 B, .int .i64 C, .int .i64 D, .int .i64 coast, .int .i64 fr] 33)).alloc (.cells #[.slice none 0 0, .int .i64 0, .int .i64 0, .int .i64 0, .int .i64 0, .int .i64 0, .int .i64 0, .int .i64 0, .int .i64 0] 33)) (w.heap.size + 1)).kept (by simp) (below1 _ (.cells #[] 85))
  have N0 := (by simpa using ownS_none ((w.alloc (.cells #[.slice (some ⟨b, o, none⟩) L.length c, .int .i64 lim, .int .i64 mode, .int .i64 A, .int .i64 B, .int .i64 C, .int .i64 D, .int .i64 coast, .int .i64 fr] 33)).alloc (.cells #[.slice none 0 0, .int .i64 0, .int .i64 0, .int .i64 0, .int .i64 0, .int .i64 0, .int .i64 0, .int .i64 0, .int .i64 0] 33)) (w.heap.size + 2) (by simp) : (((w.alloc (.cells #[.slice (some ⟨b, o, none⟩) L.length c, .int .i64 lim, .int .i64 mode, .int .i64 A, .int .i64 B, .int .i64 C, .int .i64 D, .int .i64 coast, .int .i64 fr] 33)).alloc (.cells #[.slice none 0 0, .int .i64 0, .int .i64 0, .int .i64 0, .int .i64 0, .int .i64 0, .int .i64 0, .int .i64 0, .int .i64 0] 33)).alloc (.cells #[] 85)).ownsRow (w.heap.size + 2) 85 4 (.slice (some ⟨w.heap.size + 1 + 1, 0, none⟩) 0 0) 0 [])
  have HB := hide B0
  have HS := hide S0
  have HR := hide R0
  have HF := hide F0
  have HG := hide G0
  have HN := hide N0
  clear B0 S0 R0 F0 G0 N0 hS
  obtain ⟨i0, hinf, hz0, hz1, hz2⟩ := info_parts info_star
  go_enter Tryz.func41, Tryz.ntmps41
  go_wp2_with (at_builtin; refine wpList_append_own _ rfl _ _ 30 rfl (w.heap.size + 2) 85 i0 (.agg #[.int .i64 0, .int .i64 0, .int .i64 0, .int .i64 0]) 4 32 Tryz.underlying30 hinf hz0 hz1 hz2 rfl (by decide) _ _ _ rfl (unhide HN) ⟨b, o, none⟩ L.length c (flatSt L) rfl (flatSt_len L) (stars_cells (unhide S1)) (fun u hu => flatSt_one hu) ?d1 ?d2 ?d3 ?_)
  case d1 => have : 1048576 ≤ maxLen := by decide +kernel
             omega
  case d2 => omega
  case d3 => simp
  intro v' w1 ho hg _
  obtain ⟨a, cap, rfl, hC⟩ := copied_form ho
  have B1 := hide (belowR (unhide HB) hg (unhide HB).size (fun g e => by simp [Value.ownBlock] at e; omega))
  have S2 := (unhide HS).grown hg (by simp [Value.ownBlock]; omega)
  have R2 := hide ((unhide HR).grown hg (by simp [Value.ownBlock]))
  have F2 := hide ((unhide HF).grown (unhide HS).lt hg (by simp [Value.ownBlock]; omega))
  have G2 := hide ((unhide HG).grown (unhide HR).lt hg (by simp [Value.ownBlock]))
  have C1 := hide hC
  clear ho hg hC HB HS HR HF HG HN S1
  obtain ⟨s0, s1, s2, s3, s4, s5, s6, s7, s8⟩ := S2
  have S2' : Hid (TkAt w1 w.heap.size (.slice (some ⟨b, o, none⟩) L.length c) lim mode A B C D coast fr) := hide ⟨s0, s1, s2, s3, s4, s5, s6, s7, s8⟩
  obtain ⟨r0, r1, r2, r3, r4, r5, r6, r7, r8⟩ := unhide R2
  have f0 := unhide F2 0
  have g0 := unhide G2 0
  have g1 := unhide G2 1
  have g2 := unhide G2 2
  have g3 := unhide G2 3
  have g4 := unhide G2 4
  have g5 := unhide G2 5
  have g6 := unhide G2 6
  have g7 := unhide G2 7
  have g8 := unhide G2 8
  go_wp2_with fail
  clear s0 s1 s2 s3 s4 s5 s6 s7 s8 r0 r1 r2 r3 r4 r5 r6 r7 r8 f0 g0 g1 g2 g3 g4 g5 g6 g7 g8
  refine bodyPost_ret (v := .agg #[.slice a L.length cap, .int .i64 lim, .int .i64 mode, .int .i64 A, .int .i64 B, .int .i64 C, .int .i64 D, .int .i64 coast, .int .i64 fr]) ?_ rfl ⟨a, cap, rfl, ?_, ?_⟩
  · refine res_copy _ _ (w.heap.size + 1) _ lim mode A B C D coast fr rfl ?_
    refine tkAt_set9 (lim0 := 0) (mode0 := 0) (A0 := 0) (B0 := 0) (C0 := 0) (D0 := 0) (coast0 := 0) (fr0 := 0) (u := .slice none 0 0) ?_ _ lim mode A B C D coast fr
    exact TkAt.far (unhide R2) (show w.heap.size + 1 ≠ w.heap.size by omega) _ _
  · iterate 9 (refine Copied.far ?_ (show w.heap.size + 1 < w.heap.size + 2 by omega) _ _)
    exact Copied.far (unhide C1) (show w.heap.size < w.heap.size + 2 by omega) _ _
  · iterate 9 (refine belowSet ?_ (show w.heap.size ≤ w.heap.size + 1 by omega) _ _)
    exact belowSet (unhide B1) (Nat.le_refl _) _ _
set_option maxHeartbeats 2000000 in
set_option maxRecDepth 100000 in
theorem l07Lost_any (lim mode A B C D coast fr : Int) (a : Option Addr) (n c : Nat) (w : World) :
    Calls Tryz.prog 46 #[.agg #[.slice a n c, .int .i64 lim, .int .i64 mode, .int .i64 A, .int .i64 B, .int .i64 C, .int .i64 D, .int .i64 coast, .int .i64 fr]] w fun e w' => e = .returned (.agg #[.slice a n c, .int .i64 lim, .int .i64 0, .int .i64 0, .int .i64 0, .int .i64 0, .int .i64 0, .int .i64 0, .int .i64 fr]) ∧ Below w.heap.size w w' := by
  go_enter Tryz.func46, Tryz.ntmps46
  go_wp2
  exact bodyPost_ret (v := .agg #[.slice a n c, .int .i64 lim, .int .i64 0, .int .i64 0, .int .i64 0, .int .i64 0, .int .i64 0, .int .i64 0, .int .i64 fr]) (by simp [results, Tryz.results46, go_sem]) rfl ⟨rfl, below2 _ _ _⟩
set_option maxHeartbeats 2000000 in
set_option maxRecDepth 100000 in
theorem l07Ill_any (code : Int) (w : World) :
    Calls Tryz.prog 18 #[.int .i64 code] w fun e w' => e = .returned (.agg #[.slice none 0 0, .int .i64 0, .int .i64 0, .int .i64 0, .int .i64 0, .int .i64 0, .int .i64 0, .int .i64 0, .int .i64 0, .int .i64 code]) ∧ Below w.heap.size w w' := by
  go_enter Tryz.func18, Tryz.ntmps18
  go_wp2
  exact bodyPost_ret (v := .agg #[.slice none 0 0, .int .i64 0, .int .i64 0, .int .i64 0, .int .i64 0, .int .i64 0, .int .i64 0, .int .i64 0, .int .i64 0, .int .i64 code]) (by simp [results, Tryz.results18, go_sem]) rfl ⟨rfl, below1 _ _⟩
set_option maxHeartbeats 2000000 in
set_option maxRecDepth 100000 in
theorem wlost_any (lim mode A B C D coast fr : Int) (a : Option Addr) (n c : Nat) (w : World) :
    Calls Tryz.prog 81 #[.agg #[.slice a n c, .int .i64 lim, .int .i64 mode, .int .i64 A, .int .i64 B, .int .i64 C, .int .i64 D, .int .i64 coast, .int .i64 fr]] w fun e w' => e = .returned (.agg #[.slice a n c, .int .i64 lim, .int .i64 0, .int .i64 0, .int .i64 0, .int .i64 0, .int .i64 0, .int .i64 0, .int .i64 fr]) ∧ Below w.heap.size w w' := by
  go_enter Tryz.func81, Tryz.ntmps81
  go_wp2
  exact bodyPost_ret (v := .agg #[.slice a n c, .int .i64 lim, .int .i64 0, .int .i64 0, .int .i64 0, .int .i64 0, .int .i64 0, .int .i64 0, .int .i64 fr]) (by simp [results, Tryz.results81, go_sem]) rfl ⟨rfl, below2 _ _ _⟩
set_option maxHeartbeats 2000000 in
set_option maxRecDepth 100000 in
theorem told_any (lim mode A B C D coast fr : Int) (a : Option Addr) (n c : Nat) (w : World) :
    Calls Tryz.prog 29 #[.agg #[.slice a n c, .int .i64 lim, .int .i64 mode, .int .i64 A, .int .i64 B, .int .i64 C, .int .i64 D, .int .i64 coast, .int .i64 fr]] w fun e w' => e = .returned (.agg #[.slice a n c, .int .i64 lim, .int .i64 mode, .int .i64 A, .int .i64 B, .int .i64 C, .int .i64 D, .int .i64 coast, .int .i64 fr, .int .i64 0]) ∧ Below w.heap.size w w' := by
  go_enter Tryz.func29, Tryz.ntmps29
  go_wp2
  exact bodyPost_ret (v := .agg #[.slice a n c, .int .i64 lim, .int .i64 mode, .int .i64 A, .int .i64 B, .int .i64 C, .int .i64 D, .int .i64 coast, .int .i64 fr, .int .i64 0]) (by simp [results, Tryz.results29, go_sem]) rfl ⟨rfl, below2 _ _ _⟩
end Go.Proofs.YtjdehbpgdplolaaGreatDoor

namespace Go.Proofs.YtjdehbpgdplolaaGreatDoor
open Go.RowKit Go.Sort
set_option linter.unusedVariables false

theorem l02Span_any (n lo hi : Int) (w : World) :
    Calls Tryz.prog 36 #[.int .i64 n, .int .i64 lo, .int .i64 hi] w fun e w' => e = .returned (.bool (spanB lo hi n)) ∧ w' = w := l02Is_any n lo hi w
set_option maxRecDepth 100000 in
theorem l02Time_any (n : Int) (w : World) :
    Calls Tryz.prog 37 #[.int .i64 n] w fun e w' => e = .returned (.bool (spanB 0 1000000 n)) ∧ w' = w := by
  go_enter Tryz.func37, Tryz.ntmps37
  go_wp2_with fail
  refine (l02Span_any n 0 1000000 _).mono ?_
  rintro e w1 ⟨rfl, hw⟩
  rw [hw]
  go_wp2_with fail
  go_ret
  exact ⟨rfl, rfl⟩

set_option maxHeartbeats 2000000 in
set_option maxRecDepth 100000 in
theorem specTrack_any (L : List St) (lim mode A B C D coast fr : Int) (a : Option Addr) (c : Nat) (w : World) (hn : L.length ≤ 1048576) (hS : Stars w a L L.length) :
    Calls Tryz.prog 19 #[.agg #[.slice a L.length c, .int .i64 lim, .int .i64 mode, .int .i64 A, .int .i64 B, .int .i64 C, .int .i64 D, .int .i64 coast, .int .i64 fr]] w fun e w' => e = .returned (.bool (trackB ⟨L, lim, mode, A, B, C, D, coast, fr⟩)) ∧ Below w.heap.size w w' := by
  have B0 := below1 w (.cells #[.slice a L.length c, .int .i64 lim, .int .i64 mode, .int .i64 A, .int .i64 B, .int .i64 C, .int .i64 D, .int .i64 coast, .int .i64 fr] 33)
  have T0 := tkAt_new w (.slice a L.length c) lim mode A B C D coast fr 33
  have cS := hide (specSky_any L a c _ hn (hS.kept B0))
  have HB0 := hide B0
  have HT0 := hide T0
  clear B0 T0 hS hn
  go_enter Tryz.func19, Tryz.ntmps19
  go_wp2_with fail
  refine (unhide cS).mono ?_
  rintro e w1 ⟨rfl, hx⟩
  have T1 := hide ((unhide HT0).kept hx)
  have B1 := hide (below_call (unhide HB0) hx)
  clear hx cS HT0 HB0
  obtain ⟨c0, c1, c2, c3, c4, c5, c6, c7, c8⟩ := unhide T1
  have hlt := (unhide T1).lt
  cases hk : skyB L
  · have HO := hide (track_no1 (t := ⟨L, lim, mode, A, B, C, D, coast, fr⟩) hk)
    go_wp2_with fail
    go_ret
    exact ⟨by rw [unhide HO]; rfl, unhide B1⟩
  go_wp2_with fail
  refine (l02Span_any lim 1 5 _).mono ?_
  rintro e w2 ⟨rfl, hw⟩
  rw [hw]
  clear hw w2
  cases hl : spanB 1 5 lim
  · have HO := hide (track_no2 (t := ⟨L, lim, mode, A, B, C, D, coast, fr⟩) hl)
    go_wp2_with fail
    go_ret
    exact ⟨by rw [unhide HO]; rfl, unhide B1⟩
  go_wp2_with fail
  refine (l02Time_any fr _).mono ?_
  rintro e w2 ⟨rfl, hw⟩
  rw [hw]
  clear hw w2
  cases hf : spanB 0 1000000 fr
  · have HO := hide (track_no3 (t := ⟨L, lim, mode, A, B, C, D, coast, fr⟩) hf)
    go_wp2_with fail
    go_ret
    exact ⟨by rw [unhide HO]; rfl, unhide B1⟩
  have HH := hide (track_head (t := ⟨L, lim, mode, A, B, C, D, coast, fr⟩) hk hl hf)
  clear hk hl hf
  have Z := ((unhide B1).alloc (unhide B1).size (.cells #[.int .i64 0, .int .i64 0, .int .i64 0, .int .i64 0] 31))
  have T2 := hide ((unhide T1).kept (below1 w1 (.cells #[.int .i64 0, .int .i64 0, .int .i64 0, .int .i64 0] 31)))
  by_cases m0 : mode = 0
  · have HO : Hid (trackB ⟨L, lim, mode, A, B, C, D, coast, fr⟩ = (eqT A B C D 0 0 0 0 && decide (coast = 0))) := hide (by rw [unhide HH, mode_0 m0])
    have hq := fun W => eql_turn A B C D 0 0 0 0 W
    cases hz : eqT A B C D 0 0 0 0
    · rw [hz] at HO hq
      go_wp2_with fail
      go_ret
      exact ⟨by rw [unhide HO]; rfl, Z⟩
    · rw [hz] at HO hq
      go_wp2_with fail
      go_ret
      exact ⟨by rw [unhide HO]; rfl, Z⟩
  by_cases m1 : mode = 1
  · have HO : Hid (trackB ⟨L, lim, mode, A, B, C, D, coast, fr⟩ = (rightT A B C D && decide (coast = 0))) := hide (by rw [unhide HH, mode_1 m1])
    subst m1
    go_wp2_with fail
    refine (specTRight_any A B C D _).mono ?_
    rintro e w2 ⟨rfl, hx⟩
    have B2 := hide (below_call Z hx)
    obtain ⟨d0, d1, d2, d3, d4, d5, d6, d7, d8⟩ := (unhide T2).kept hx
    clear hx c0 c1 c2 c3 c4 c5 c6 c7 c8 Z
    cases hz : rightT A B C D
    · rw [hz] at HO
      go_wp2_with fail
      go_ret
      exact ⟨by rw [unhide HO]; rfl, unhide B2⟩
    · rw [hz] at HO
      go_wp2_with fail
      go_ret
      exact ⟨by rw [unhide HO]; rfl, unhide B2⟩
  by_cases m2 : mode = 2
  · have HO : Hid (trackB ⟨L, lim, mode, A, B, C, D, coast, fr⟩ = (rightT A B C D && spanB 1 lim coast)) := hide (by rw [unhide HH, mode_2 m2])
    subst m2
    go_wp2_with fail
    refine (specTRight_any A B C D _).mono ?_
    rintro e w2 ⟨rfl, hx⟩
    have B2 := hide (below_call Z hx)
    obtain ⟨d0, d1, d2, d3, d4, d5, d6, d7, d8⟩ := (unhide T2).kept hx
    clear hx c0 c1 c2 c3 c4 c5 c6 c7 c8 Z
    cases hz : rightT A B C D
    · rw [hz] at HO
      go_wp2_with fail
      go_ret
      exact ⟨by rw [unhide HO]; rfl, unhide B2⟩
    · rw [hz] at HO
      go_wp2_with fail
      refine (l02Span_any coast 1 lim _).mono ?_
      rintro e w3 ⟨rfl, hw⟩
      rw [hw]
      clear hw w3
      go_wp2_with fail
      go_ret
      exact ⟨by rw [unhide HO]; rfl, unhide B2⟩
  · have HO : Hid (trackB ⟨L, lim, mode, A, B, C, D, coast, fr⟩ = false) := hide (by rw [unhide HH, mode_n m0 m1 m2])
    go_wp2_with fail
    go_ret
    exact ⟨by rw [unhide HO]; rfl, Z⟩
end Go.Proofs.YtjdehbpgdplolaaGreatDoor

namespace Go.Proofs.YtjdehbpgdplolaaGreatDoor
open Go.RowKit Go.Sort
set_option linter.unusedVariables false

/-- what is answered: a tracker of its own, and a code -/
def OutT (w' : World) (B : Nat) (t : Tk) (code : Int) (e : Ending) : Prop := ∃ a cap, e = .returned (.agg #[.slice a t.L.length cap, .int .i64 t.lim, .int .i64 t.mode, .int .i64 t.A, .int .i64 t.B, .int .i64 t.C, .int .i64 t.D, .int .i64 t.coast, .int .i64 t.fr, .int .i64 code]) ∧ Copied w' B t.L a cap
theorem copied_nil (w : World) (B : Nat) : Copied w B [] none 0 := ⟨rfl, .inl ⟨rfl, rfl⟩⟩
theorem outT_ill (w : World) (B : Nat) (code : Int) : OutT w B zeroK code (.returned (.agg #[.slice none 0 0, .int .i64 0, .int .i64 0, .int .i64 0, .int .i64 0, .int .i64 0, .int .i64 0, .int .i64 0, .int .i64 0, .int .i64 code])) := ⟨none, 0, rfl, copied_nil w B⟩
def resetT (t : Tk) : Tk := if trackB t = true then lostT t else zeroK
def resetC (t : Tk) : Int := if trackB t = true then 0 else 1
def CZO : Obj := .cells #[.slice none 0 0, .int .i64 0, .int .i64 0, .int .i64 0, .int .i64 0, .int .i64 0, .int .i64 0, .int .i64 0, .int .i64 0, .int .i64 0] 35
theorem TkO.far {w : World} {b : Nat} {v : Value} {lim mode A B C D coast fr code : Int} (h : TkO w b v lim mode A B C D coast fr code) {b' : Nat} (hne : b ≠ b') (o : Nat) (x : Value) : TkO (w.setCell ⟨b', o, none⟩ x) b v lim mode A B C D coast fr code := ⟨h.1.far hne o x, by rw [World.cell?_setCell_far _ _ _ _ (Ne.symm hne)]; exact h.2⟩
theorem TkO.lt {w : World} {b : Nat} {v : Value} {lim mode A B C D coast fr code : Int} (h : TkO w b v lim mode A B C D coast fr code) : b < w.heap.size := h.1.lt

end Go.Proofs.YtjdehbpgdplolaaGreatDoor
