/- Several texts in one: DrP. -/
import Derived.WalkSmall
import Derived.Test.YtoakkmjcbnfljaaGreatDoorQFnIdentOwn32
import Derived.Test.YtoakkmjcbnfljaaGreatDoorQFnIdentOwn5
import Derived.Test.YtoakkmjcbnfljaaGreatDoorQFnIdentOwn4
import Derived.Test.YtoakkmjcbnfljaaGreatDoorQFnIdentOwn28
import Derived.Test.YtoakkmjcbnfljaaGreatDoorQFnIdentOwn2
import Derived.Test.YtoakkmjcbnfljaaGreatDoorQFnIdentOwn1
namespace Go.Proofs.YtoakkmjcbnfljaaGreatDoor
set_option linter.unusedVariables false
set_option linter.unusedSimpArgs false
set_option maxRecDepth 100000
set_option maxHeartbeats 8000000
section
open Go.RowKit Go.Sort
def vcL (v : D3) : List Value := [.int .i64 v.1, .int .i64 v.2.1, .int .i64 v.2.2]
def flL (S : List D3) : List Value := S.flatMap vcL
theorem kM (S : List D3) (v : D3) : flL (S ++ [v]) = flL S ++ vcL v := by unfold flL; rw [List.flatMap_append]; simp
theorem ti (S : List D3) : (flL S).length = S.length * 3 := by
 induction S with
 | nil => rfl
 | cons x r ih => unfold flL at ih ⊢; rw [List.flatMap_cons, List.length_append, ih, List.length_cons]; show 3 + _ = _; omega
theorem qr : ∀ (S : List D3) (k i : Nat), k < S.length → i < 3 → (flL S)[k * 3 + i]? = (vcL (vA S k))[i]?
 | [], k, i, hk, _ => by simp at hk
 | x :: r, 0, i, _, hi => by
  show (vcL x ++ flL r)[0 * 3 + i]? = _
  rw [List.getElem?_append_left (by show 0 * 3 + i < 3; omega), show 0 * 3 + i = i by omega]
  rfl
 | x :: r, k + 1, i, hk, hi => by
  have ih := qr r k i (by simpa using hk) hi
  show (vcL x ++ flL r)[(k + 1) * 3 + i]? = _
  rw [List.getElem?_append_right (by show 3 ≤ _; omega), show (k + 1) * 3 + i - (vcL x).length = k * 3 + i by show (k + 1) * 3 + i - 3 = _; omega, ih]
  rfl
theorem iZ {v : D3} {u : Value} (h : u ∈ vcL v) : u.oneCell' = true := by
 unfold vcL at h
 simp only [List.mem_cons, List.not_mem_nil, or_false] at h
 rcases h with rfl | rfl | rfl <;> rfl
theorem mD : (Tryz.prog.info? 67).map (fun i => (i.zero, i.size, i.bytes)) = some (some (.agg #[.int .i64 0, .int .i64 0, .int .i64 0]), 3, 24) := by kernel_rfl
theorem gv {w : World} {g : Nat} {x y z : Int} (h : Blk w g [.int .i64 x, .int .i64 y, .int .i64 z] 67) (j : Nat) (u : Value) (hj : (vcL (x, y, z))[j]? = some u) : w.cell? ((⟨g, 0, none⟩ : Addr).add j) = some u := by
 have e : (⟨g, 0, none⟩ : Addr).add j = ⟨g, j, none⟩ := by cases j <;> simp [Addr.add]
 rw [e]
 exact h.cell j u hj
theorem ba {w : World} {B : Nat} {S : List D3} {a : Option Addr} {k : Nat} (h : w.ownsRow B 67 3 (.slice a S.length k) S.length (flL S)) : bi w a S S.length ∧ S.length ≤ k ∧ k ≤ maxLen := by
 rcases h.2 with ⟨h1, h0⟩ | ⟨g, cap, cur, e, hb, hg, h1, h2, h3, h4⟩
 ·injection h1 with e1 e2 e3
  exact ⟨.inl h0, by omega, by rw [e3]; exact Nat.zero_le _⟩
 ·injection e with e1 e2 e3
  subst e1 e3
  have hc : ∀ i, i < S.length → ∀ q, q < 3 → w.cell? ⟨g, i * 3 + q, none⟩ = (vcL (vA S i))[q]? := fun i hi q hq => by rw [World.ownsRow.cellAt h (i * 3 + q) (by omega), qr S i q hi hq]
  refine ⟨.inr ⟨g, 0, rfl, (Array.getElem?_eq_some_iff.1 hg).1, fun i hi => ?_⟩, h1, h2⟩
  rw [Nat.zero_add]
  exact ⟨hc i hi 0 (by decide), hc i hi 1 (by decide), hc i hi 2 (by decide)⟩
theorem nV {w wr : World} {b : Nat} {L : List St} {a : Option Addr} {n : Nat} (h : aJ w a L n) (hg : w.grownBy wr (some b)) (hne : ∀ x, a = some x → x.block ≠ b) : aJ wr a L n := by
 rcases h with h | ⟨g, o, rfl, hlt, h⟩
 ·exact .inl h
 ·have hb : ∀ q, wr.cell? ⟨g, q, none⟩ = w.cell? ⟨g, q, none⟩ := fun q => World.cell?_of_block (hg.block g hlt (fun e => hne _ rfl (Option.some.inj e)))
  refine .inr ⟨g, o, rfl, Nat.lt_of_lt_of_le hlt hg.size, fun i hi => ?_⟩
  obtain ⟨h0, h1, h2, h3⟩ := h i hi
  exact ⟨by rw [hb]; exact h0, by rw [hb]; exact h1, by rw [hb]; exact h2, by rw [hb]; exact h3⟩
structure ef (w : World) (b : Nat) (wr : World) (S : List D3) (a : Option Addr) (cap : Nat) (A B C D : Int) : Prop where
 src : aU b wr
 row : wr.ownsRow (w.heap.size + 1) 67 3 (.slice a S.length cap) S.length (flL S)
 gr : w.grownBy wr (some b)
 lb : b < w.heap.size
 box : Blk wr w.heap.size [.int .i64 A, .int .i64 B, .int .i64 C, .int .i64 D] 34
theorem ef.call {{w wr w2 : World}} {{b : Nat}} {{S : List D3}} {{a : Option Addr}} {{cap : Nat}} {{A B C D : Int}} (h : ef w b wr S a cap A B C D) (hS : aU b w2) (hg : wr.grownBy w2 (some b)) : ef w b w2 S a cap A B C D := by
 have := h.lb
 refine ⟨hS, World.ownsRow.kept h.row hg ?_, an h.gr hg, h.lb, aG h.box hg (fun e => by have := Option.some.inj e; omega)⟩
 cases a with
 | none => exact .inl rfl
 | some y => exact .inr (fun e => by have h1 := (bX h.row y rfl).1; have h2 : y.block = b := Option.some.inj e; omega)
theorem ef.below {{w wr w2 : World}} {{b : Nat}} {{S : List D3}} {{a : Option Addr}} {{cap : Nat}} {{A B C D : Int}} (h : ef w b wr S a cap A B C D) (hx : Below wr.heap.size wr w2) : ef w b w2 S a cap A B C D :=
 ⟨h.src.below hx, au h.row hx, an h.gr (bS hx _), h.lb, h.box.kept hx⟩
theorem ef.app {{w wr w2 : World}} {{b : Nat}} {{S : List D3}} {{a : Option Addr}} {{cap : Nat}} {{A B C D : Int}} {v : D3} {v' : Value} (h : ef w b wr S a cap A B C D) (hg : wr.grownBy w2 (Value.slice a S.length cap).ownBlock) (hr : w2.ownsRow (w.heap.size + 1) 67 3 v' (S.length + 1) (flL S ++ vcL v)) : ∃ a2 cap2, v' = .slice a2 (S.length + 1) cap2 ∧ ef w b w2 (S ++ [v]) a2 cap2 A B C D := by
 obtain ⟨a2, c2, rfl, _⟩ := eq hr
 have := h.lb
 have hlo := h.row.lt
 refine ⟨a2, c2, rfl, h.src.kept hg (fun c e => by have := (hlo c e).1; omega), ?_, eP h.gr hg (fun c e => by have := (hlo c e).1; omega), h.lb, aG h.box hg (fun e => by have := (hlo _ e.symm).1; omega)⟩
 rw [← kM] at hr
 rw [show (S ++ [v]).length = S.length + 1 by simp]
 exact hr
theorem ef.pop {{w wr : World}} {{b : Nat}} {{S : List D3}} {{a : Option Addr}} {{cap : Nat}} {{A B C D : Int}} {v : D3} {n : Nat} (h : ef w b wr (S ++ [v]) a cap A B C D) (hn : n = S.length) : ef w b wr S a cap A B C D := by
 obtain ⟨g, rfl⟩ : ∃ g, a = some ⟨g, 0, none⟩ := by
  rcases h.row.2 with ⟨_, h0⟩ | ⟨g, cp, cur, e, _⟩
  ·simp at h0
  ·injection e with e1 _ _
   exact ⟨g, e1⟩
 have hr := h.row
 rw [show (S ++ [v]).length = S.length + 1 by simp, kM] at hr
 exact ⟨h.src, ownsRow_pop (ti S) hr, h.gr, h.lb, h.box⟩
theorem ef.pops {{w wr : World}} {{b : Nat}} {{S : List D3}} {{a : Option Addr}} {{cap : Nat}} {{A B C D : Int}} (h : ef w b wr S a cap A B C D) (hp : 0 < S.length) : ef w b wr S.dropLast a cap A B C D := by
 have hne : S ≠ [] := fun e => by rw [e] at hp; cases hp
 rw [← List.dropLast_concat_getLast hne] at h
 exact h.pop rfl
theorem ef.put {w wr : World} {b cap : Nat} {S : List D3} {A B C D : Int} {g : Nat} {S' : List D3} (h : ef w b wr S (some ⟨g, 0, none⟩) cap A B C D) (j : Nat) (u : Value) (hl : S'.length = S.length) (he : (flL S).set j u = flL S') : ef w b (wr.setCell ⟨g, j, none⟩ u) S' (some ⟨g, 0, none⟩) cap A B C D := by
 have hs := World.ownsRow.stored h.row j u
 have hgb : w.heap.size + 1 ≤ g := (bX h.row _ rfl).1
 have := h.lb
 refine ⟨h.src.kept hs.2 (fun c e => by have e2 : g = c := Option.some.inj e; omega), ?_, eP h.gr hs.2 (fun c e => by have e2 : g = c := Option.some.inj e; omega), h.lb, aG h.box hs.2 (fun e => by have e2 : w.heap.size = g := Option.some.inj e; omega)⟩
 have h1 := hs.1
 rw [he] at h1
 rw [hl]
 exact h1
def tS : Value → Nat
 | .slice _ n _ => n
 | _ => 0
theorem nz (b : Nat) (w : World) (L : List St) (sa : Option Addr) (sc : Nat) (A B C D : Int) (hS : aU b w) (hn : L.length ≤ 400) (hL : aJ w sa L L.length) (hne : ∀ x, sa = some x → x.block ≠ b) :
  Calls Tryz.prog 60 #[.pointer (some ⟨b, 0, none⟩), .slice sa L.length sc, .agg #[.int .i64 A, .int .i64 B, .int .i64 C, .int .i64 D]] w fun e w' => ∃ (S : List D3) (a : Option Addr) (cap : Nat), e = .returned (.slice a S.length cap) ∧ S.length ≤ 7 ∧ ef w b w' S a cap A B C D := by
 obtain ⟨i0, hinf, hz0, hz1, hz2⟩ := info_parts mD
 have hlb := hS.lt
 have hm8 : 400 ≤ maxLen := by decide +kernel
 have Z := bj w (.cells #[.int .i64 A, .int .i64 B, .int .i64 C, .int .i64 D] 34) (.cells #[] 67)
 have HST0 : Hid (ef w b ((w.alloc (.cells #[.int .i64 A, .int .i64 B, .int .i64 C, .int .i64 D] 34)).alloc (.cells #[] 67)) [] (some ⟨w.heap.size + 1, 0, none⟩) 0 A B C D) := yz ⟨hS.below Z, ⟨rfl, .inr ⟨w.heap.size + 1, 0, #[], rfl, Nat.le_refl _, by have := heap_alloc_new (w.alloc (.cells #[.int .i64 A, .int .i64 B, .int .i64 C, .int .i64 D] 34)) (.cells #[] 67); simpa using this, Nat.le_refl _, Nat.zero_le _, rfl, rfl⟩⟩, bS Z _, hlb, (aO w [.int .i64 A, .int .i64 B, .int .i64 C, .int .i64 D] 34).alloc _⟩
 have HSK := yz (fun (wr : World) (hg : w.grownBy wr (some b)) => nV hL hg hne)
 clear hS Z hL hne
 go_enter Tryz.func60, Tryz.ntmps60
 go_upto_region 2 with fail
 generalize (w.alloc (.cells #[.int .i64 A, .int .i64 B, .int .i64 C, .int .i64 D] 34)).alloc (.cells #[] 67) = W0 at *
 go_wp2_with fail
 refine (bp b 3 _ (yy HST0).src (by decide)).mono ?_
 rintro e W1 ⟨k0, rfl, hk0, hk3, _, hS1, hg1⟩
 replace hk3 := hk3 (by decide)
 obtain ⟨k1, rfl⟩ := Int.eq_ofNat_of_zero_le hk0
 have HST1 := yz ((yy HST0).call hS1 hg1)
 clear hS1 hg1 HST0 hk0
 go_wp2_with fail
 go_loopw [7, 9] (fun lv iv wr => ∃ (i : Nat) (S : List D3) (a : Option Addr) (cap : Nat), iv = .int .i64 i ∧ lv = .slice a S.length cap ∧ S.length ≤ 5 ∧ i ≤ L.length + 3 ∧ Hid (ef w b wr S a cap A B C D)) (fun _ iv _ => L.length + 4 - (intOf iv).toNat)
 case atStart => exact ⟨k1, [], _, 0, rfl, rfl, by decide, by omega, HST1⟩
 case round =>
  clear HST1 hk3
  obtain ⟨i, S, a, cap, rfl, rfl, hs5, hil, HS⟩ := hrel
  by_cases hb2 : i < L.length ∧ S.length < 5
  ·obtain ⟨hi, hs⟩ := hb2
   have hs' : (S.length : Int) < 5 := by omega
   have hi' : (i : Int) < (L.length : Int) := by omega
   have hstar : ∃ sg so, sa = some ⟨sg, so, none⟩ ∧ sg < wr.heap.size ∧ im wr sg (so + i * 4) (stA L i) := by
    rcases yy HSK wr (yy HS).gr with h | ⟨g, o, e, hlt, h⟩
    ·omega
    ·exact ⟨g, o, e, hlt, h i hi⟩
   obtain ⟨sg, so, rfl, hsl, hst⟩ := hstar
   obtain ⟨⟨s0, s1, s2, s3⟩, hsA⟩ : ∃ s, stA L i = s := ⟨_, rfl⟩
   rw [hsA] at hst
   obtain ⟨_, c1, c2, c3⟩ := hst
   replace c1 : wr.cell? ⟨sg, so + i * 4 + 1, none⟩ = some (.int .i64 s1) := c1
   replace c2 : wr.cell? ⟨sg, so + i * 4 + 1 + 1, none⟩ = some (.int .i64 s2) := c2
   replace c3 : wr.cell? ⟨sg, so + i * 4 + 1 + 2, none⟩ = some (.int .i64 s3) := c3
   have hbl : w.heap.size < wr.heap.size := (yy HS).box.lt
   have HKS : Hid (∀ w' : World, Below wr.heap.size wr w' → (w'.cell? ⟨w.heap.size, 0, none⟩ = some (.int .i64 A) ∧ w'.cell? ⟨w.heap.size, 1, none⟩ = some (.int .i64 B) ∧ w'.cell? ⟨w.heap.size, 2, none⟩ = some (.int .i64 C) ∧ w'.cell? ⟨w.heap.size, 3, none⟩ = some (.int .i64 D)) ∧ w'.cell? ⟨sg, so + i * 4 + 1, none⟩ = some (.int .i64 s1) ∧ w'.cell? ⟨sg, so + i * 4 + 1 + 1, none⟩ = some (.int .i64 s2) ∧ w'.cell? ⟨sg, so + i * 4 + 1 + 2, none⟩ = some (.int .i64 s3)) := yz (fun w' h => ⟨⟨by rw [h.cell hbl]; exact (yy HS).box.cell 0 _ rfl, by rw [h.cell hbl]; exact (yy HS).box.cell 1 _ rfl, by rw [h.cell hbl]; exact (yy HS).box.cell 2 _ rfl, by rw [h.cell hbl]; exact (yy HS).box.cell 3 _ rfl⟩, by rw [h.cell hsl]; exact c1, by rw [h.cell hsl]; exact c2, by rw [h.cell hsl]; exact c3⟩)
   clear hsA c1 c2 c3
   obtain ⟨x, y, z, cA⟩ : ∃ x y z : Int, Hid (∀ W : World, Calls Tryz.prog 51 #[.agg #[.int .i64 A, .int .i64 B, .int .i64 C, .int .i64 D], .agg #[.int .i64 s1, .int .i64 s2, .int .i64 s3]] W fun e w' => e = .returned (.agg #[.int .i64 x, .int .i64 y, .int .i64 z]) ∧ Below W.heap.size W w') := ⟨_, _, _, yz (fun W => ik A B C D s1 s2 s3 W)⟩
   go_upto_region 6 with fail
   go_cut [10] (fun pv wx => ∃ (wv : World) (vb : Nat), wv = wx ∧ pv = .pointer (some ⟨vb, 0, none⟩) ∧ w.heap.size ≤ vb ∧ Hid (Blk wx vb [.int .i64 x, .int .i64 y, .int .i64 z] 67) ∧ Hid (ef w b wx S a cap A B C D))
   case first =>
    refine wp_region_held_drew (S := (fun w' => (w'.cell? ⟨w.heap.size, 0, none⟩ = some (.int .i64 A) ∧ w'.cell? ⟨w.heap.size, 1, none⟩ = some (.int .i64 B) ∧ w'.cell? ⟨w.heap.size, 2, none⟩ = some (.int .i64 C) ∧ w'.cell? ⟨w.heap.size, 3, none⟩ = some (.int .i64 D)) ∧ w'.cell? ⟨sg, so + i * 4 + 1, none⟩ = some (.int .i64 s1) ∧ w'.cell? ⟨sg, so + i * 4 + 1 + 1, none⟩ = some (.int .i64 s2) ∧ w'.cell? ⟨sg, so + i * 4 + 1 + 2, none⟩ = some (.int .i64 s3))) (by kernel_rfl) (yy HKS wr (Below.refl _ _)) (fun hHeld => ?_)
    refine ab 0 rfl ?_
    try simp only [Act.put, ag, ah, ai]
    refine ab 1 rfl ?_
    try simp only [Act.put, ag, ah, ai]
    refine ab 2 rfl ?_
    try simp only [Act.put, ag, ah, ai]
    refine ab 3 rfl ?_
    try simp only [Act.put, ag, ah, ai]
    refine ab 4 rfl ?_
    try simp only [Act.put, ag, ah, ai]
    refine ab 5 rfl ?_
    try simp only [Act.put, ag, ah, ai]
    have HV : Hid (Below wr.heap.size wr wr.drew) := yz (Below.refl wr.heap.size wr).drew
    obtain ⟨V0, HYY⟩ : ∃ YY, YY = wr.drew := ⟨_, rfl⟩
    rw [← HYY] at HV hHeld ⊢
    clear HYY
    refine af 6 7 rfl (fun K hK => ?_) rfl fun K hK => ?_
    ·skip
     go_simp
     refine ((yy cA) V0).mono ?_
     rintro e V1 ⟨rfl, hx⟩
     replace HV := yz (aj (yy HV) hx)
     clear hx
     refine hK.out _ _ (yy HKS _ (yy HV)) (fun hHeld2 => ?_)
     clear hK K hHeld
     have hHeld := hHeld2
     clear hHeld2
     refine ae 7 rfl fun K hK => ?_
     go_simp
     have hy := ak V1 (.cells #[.int .i64 0, .int .i64 0, .int .i64 0] 67)
     have HB := yz (aO V1 [.int .i64 0, .int .i64 0, .int .i64 0] 67)
     have hvb : wr.heap.size ≤ V1.heap.size := (yy HV).size
     replace HV := yz (aj (yy HV) hy)
     clear hy
     generalize V1.alloc (.cells #[.int .i64 0, .int .i64 0, .int .i64 0] 67) = V2 at *
     generalize V1.heap.size = vb at *
     refine hK.out _ _ (yy HKS _ (yy HV)) (fun hHeld2 => ?_)
     clear hK K hHeld
     have hHeld := hHeld2
     clear hHeld2
     refine ae 8 rfl fun K hK => ?_
     obtain ⟨q0, q1, q2⟩ := pt (yy HB)
     obtain ⟨f0, f1, f2⟩ := bfs3 (yy HB)
     go_simp
     have HB2 := yz (Blk.set (Blk.set (Blk.set (yy HB) 0 (.int .i64 x)) 1 (.int .i64 y)) 2 (.int .i64 z))
     have HV2 := yz ((((yy HV).setCell (p := ⟨vb, 0, none⟩) hvb (.int .i64 x)).setCell (p := ⟨vb, 1, none⟩) hvb (.int .i64 y)).setCell (p := ⟨vb, 2, none⟩) hvb (.int .i64 z))
     refine hK.out _ _ (yy HKS _ (yy HV2)) (fun hHeld2 => ?_)
     clear hK K hHeld q0 q1 q2 f0 f1 f2
     refine wpAnyH_done (by kernel_rfl) ?_ _
     clear hHeld2
     go_wp2_with fail
     go_meet
     exact ⟨_, vb, rfl, rfl, Nat.le_trans (Nat.le_of_lt hbl) hvb, HB2, yz ((yy HS).below (yy HV2))⟩
    ·skip
     go_simp
     have hy := ak V0 (.cells #[.int .i64 0, .int .i64 0, .int .i64 0] 67)
     have HB := yz (aO V0 [.int .i64 0, .int .i64 0, .int .i64 0] 67)
     have hvb : wr.heap.size ≤ V0.heap.size := (yy HV).size
     replace HV := yz (aj (yy HV) hy)
     clear hy
     generalize V0.alloc (.cells #[.int .i64 0, .int .i64 0, .int .i64 0] 67) = V1 at *
     generalize V0.heap.size = vb at *
     refine hK.out _ _ (yy HKS _ (yy HV)) (fun hHeld2 => ?_)
     clear hK K hHeld
     have hHeld := hHeld2
     clear hHeld2
     refine ae 6 rfl fun K hK => ?_
     go_simp
     refine ((yy cA) V1).mono ?_
     rintro e V2 ⟨rfl, hx⟩
     replace HB := yz ((yy HB).kept hx)
     replace HV := yz (aj (yy HV) hx)
     clear hx
     refine hK.out _ _ (yy HKS _ (yy HV)) (fun hHeld2 => ?_)
     clear hK K hHeld
     have hHeld := hHeld2
     clear hHeld2
     refine ae 8 rfl fun K hK => ?_
     obtain ⟨q0, q1, q2⟩ := pt (yy HB)
     obtain ⟨f0, f1, f2⟩ := bfs3 (yy HB)
     go_simp
     have HB2 := yz (Blk.set (Blk.set (Blk.set (yy HB) 0 (.int .i64 x)) 1 (.int .i64 y)) 2 (.int .i64 z))
     have HV2 := yz ((((yy HV).setCell (p := ⟨vb, 0, none⟩) hvb (.int .i64 x)).setCell (p := ⟨vb, 1, none⟩) hvb (.int .i64 y)).setCell (p := ⟨vb, 2, none⟩) hvb (.int .i64 z))
     refine hK.out _ _ (yy HKS _ (yy HV2)) (fun hHeld2 => ?_)
     clear hK K hHeld q0 q1 q2 f0 f1 f2
     refine wpAnyH_done (by kernel_rfl) ?_ _
     clear hHeld2
     go_wp2_with fail
     go_meet
     exact ⟨_, vb, rfl, rfl, Nat.le_trans (Nat.le_of_lt hbl) hvb, HB2, yz ((yy HS).below (yy HV2))⟩
   case rest =>
   clear HS HKS cA
   obtain ⟨wx, vb, hwx, rfl, hvb, HV, HS⟩ := hcut
   subst hwx
   obtain ⟨v0, v1, v2⟩ := pt (yy HV)
   go_wp2_with fail
   refine (bN x y z wx).mono ?_
   rintro e W5 ⟨rfl, hx⟩
   have HS5 := yz ((yy HS).below hx)
   have HV5 := yz ((yy HV).kept hx)
   clear hx HS HV v0 v1 v2
   cases hr : aq x y z
   ·go_wp2_with fail
    go_roundw
    case rel => exact ⟨i + 1, S, a, cap, by go_num, rfl, hs5, by omega, HS5⟩
    case measure => simp [intOf] <;> omega
   ·go_wp2_with fail
    refine (bh b 5 W5 (yy HS5).src (by decide)).mono ?_
    rintro e W6 ⟨y5, rfl, hS6, hg6⟩
    have hvb6 : vb ≠ b := by have := (yy HS5).lb; omega
    have HS6 := yz ((yy HS5).call hS6 hg6)
    have HV6 := yz (aG (yy HV5) hg6 (fun e => hvb6 (Option.some.inj e)))
    clear hS6 hg6 HS5 HV5
    cases y5
    ·have v0 := (yy HV6).cell 0 _ rfl
     have v1 := (yy HV6).cell 1 _ rfl
     have v2 := (yy HV6).cell 2 _ rfl
     go_wp2_with fail
     refine (dP x y z W6 hr).mono ?_
     rintro e W7 ⟨rfl, hx⟩
     have HS7 := yz ((yy HS6).below hx)
     clear hx v0 v1 v2 HS6 HV6
     generalize wrap64 (x.tdiv (gI x y z)) = x2 at *
     generalize wrap64 (y.tdiv (gI x y z)) = y2 at *
     generalize wrap64 (z.tdiv (gI x y z)) = z2 at *
     have hy := ak W7 (.cells #[.int .i64 x2, .int .i64 y2, .int .i64 z2] 67)
     have HS8 := yz ((yy HS7).below hy)
     have HN := yz (aO W7 [.int .i64 x2, .int .i64 y2, .int .i64 z2] 67)
     clear hy
     have hown := (yy HS8).row
     have hszw : w.heap.size + 1 ≤ (W7.alloc (.cells #[.int .i64 x2, .int .i64 y2, .int .i64 z2] 67)).heap.size := by have := (yy HS8).box.lt; omega
     go_wp2_with (at_builtin; refine wpList_append_own _ rfl _ _ 24 rfl (w.heap.size + 1) 67 i0 (.agg #[.int .i64 0, .int .i64 0, .int .i64 0]) 3 24 Tryz.underlying24 hinf hz0 hz1 hz2 rfl (by decide) _ _ _ rfl hown ⟨W7.heap.size, 0, none⟩ 1 1 (vcL (x2, y2, z2)) rfl rfl (gv (yy HN)) (fun u hu => iZ hu) (by omega) (by omega) hszw ?_)
     intro v7 V7 hown7 hgrow7 _
     obtain ⟨a9, c9, rfl, hS9⟩ := (yy HS8).app hgrow7 hown7
     have HS9 := yz hS9
     clear hown7 hgrow7 hS9 hown HN HS8
     go_wp2_with fail
     go_roundw
     case rel => exact ⟨i + 1, S ++ [(x2, y2, z2)], a9, c9, by go_num, by rw [show (S ++ [(x2, y2, z2)]).length = S.length + 1 by simp], by simp; omega, by omega, HS9⟩
     case measure => simp [intOf] <;> omega
    ·go_wp2_with fail
     go_roundw
     case rel => exact ⟨i + 1, S, a, cap, by go_num, rfl, hs5, by omega, HS6⟩
     case measure => simp [intOf] <;> omega
  ·rcases (by omega : ¬ (i : Int) < (L.length : Int) ∨ ((i : Int) < (L.length : Int) ∧ ¬ (S.length : Int) < 5)) with h1' | ⟨h1', h2'⟩
   all_goals
    go_wp2_with fail
    refine (bh b 3 _ (yy HS).src (by decide)).mono ?_
    rintro e W2 ⟨y2, rfl, hS2, hg2⟩
    have HS2 := yz ((yy HS).call hS2 hg2)
    clear hS2 hg2 HS
    go_upto_if 48 with fail
    go_cut [7] (fun lv wx => ∃ (wv : World) (S : List D3) (a : Option Addr) (cap : Nat), wv = wx ∧ lv = .slice a S.length cap ∧ S.length ≤ 6 ∧ Hid (ef w b wx S a cap A B C D))
    case first =>
     cases y2
     ·go_wp2_with fail
      go_meet
      exact ⟨_, S, a, cap, rfl, rfl, by omega, HS2⟩
     ·go_wp2_with fail
      refine (jy b _ (yy HS2).src).mono ?_
      rintro e W3 ⟨x, y, z, rfl, hS3, hg3⟩
      have HS3 := yz ((yy HS2).call hS3 hg3)
      have hy := ak W3 (.cells #[.int .i64 x, .int .i64 y, .int .i64 z] 67)
      have HV4 := yz (aO W3 [.int .i64 x, .int .i64 y, .int .i64 z] 67)
      have HS4 := yz ((yy HS3).below hy)
      clear hS3 hg3 HS2 hy HS3
      go_upto_region 11 with fail
      generalize W3.alloc (.cells #[.int .i64 x, .int .i64 y, .int .i64 z] 67) = W4 at *
      generalize W3.heap.size = vb at *
      obtain ⟨v0, v1, v2⟩ := pt (yy HV4)
      go_wp2_with fail
      refine (bN x y z W4).mono ?_
      rintro e W5 ⟨rfl, hx⟩
      have HS5 := yz ((yy HS4).below hx)
      have HV5 := yz ((yy HV4).kept hx)
      clear hx HS4 HV4 v0 v1 v2
      obtain ⟨v0, v1, v2⟩ := pt (yy HV5)
      cases aq x y z
      ·go_wp2_with fail
       go_meet
       exact ⟨_, S, a, cap, rfl, rfl, by omega, HS5⟩
      ·skip
       have hy := ak W5 (.cells #[.int .i64 x, .int .i64 y, .int .i64 z] 67)
       have HS8 := yz ((yy HS5).below hy)
       have HN := yz (aO W5 [.int .i64 x, .int .i64 y, .int .i64 z] 67)
       clear hy
       have hown := (yy HS8).row
       have hszw : w.heap.size + 1 ≤ (W5.alloc (.cells #[.int .i64 x, .int .i64 y, .int .i64 z] 67)).heap.size := by have := (yy HS8).box.lt; omega
       go_wp2_with (at_builtin; refine wpList_append_own _ rfl _ _ 24 rfl (w.heap.size + 1) 67 i0 (.agg #[.int .i64 0, .int .i64 0, .int .i64 0]) 3 24 Tryz.underlying24 hinf hz0 hz1 hz2 rfl (by decide) _ _ _ rfl hown ⟨W5.heap.size, 0, none⟩ 1 1 (vcL (x, y, z)) rfl rfl (gv (yy HN)) (fun u hu => iZ hu) (by omega) (by omega) hszw ?_)
       intro v7 V7 hown7 hgrow7 _
       obtain ⟨a9, c9, rfl, hS9⟩ := (yy HS8).app hgrow7 hown7
       have HS9 := yz hS9
       clear hown7 hgrow7 hS9 hown HN HS8
       go_wp2_with fail
       go_meet
       exact ⟨_, S ++ [(x, y, z)], a9, c9, rfl, by rw [show (S ++ [(x, y, z)]).length = S.length + 1 by simp], (by simp; omega), HS9⟩
    case rest =>
    clear HS2 hs5 h1'
    obtain ⟨W3, S2, a2, cap2, hw3, rfl, hs6, HS3⟩ := hcut
    subst hw3
    go_wp2_with fail
    go_loopw [7] (fun lv wr => ∃ (S : List D3) (a : Option Addr) (cap : Nat), lv = .slice a S.length cap ∧ S.length ≤ 6 ∧ Hid (ef w b wr S a cap A B C D)) (fun lv _ => tS lv)
    case atStart => exact ⟨S2, a2, cap2, rfl, hs6, HS3⟩
    case round =>
     clear HS3 hs6
     obtain ⟨S, a, cap, rfl, hs6, HS⟩ := hrel
     by_cases h1 : 1 < S.length
     ·have h1' : (1 : Int) < (S.length : Int) := by omega
      have hdr := ba (yy HS).row
      go_wp2_with fail
      refine (bQ S a cap _ (by omega) hdr.1).mono ?_
      rintro e W5 ⟨rfl, hx⟩
      have HS5 := yz ((yy HS).below hx)
      have hcp := hdr.2.1
      clear hx HS hdr
      cases aM S
      ·have HS6 := yz ((yy HS5).pops (by omega))
       have hmx : maxLen ≤ 9223372036854775807 := by decide +kernel
       go_wp2_with fail
       go_roundw
       case rel => exact ⟨S.dropLast, a, cap, by rw [List.length_dropLast], by rw [List.length_dropLast]; omega, HS6⟩
       case measure => simp [tS] <;> omega
      ·skip
       go_wp2_with fail
       refine (bh b 20 _ (yy HS5).src (by decide)).mono ?_
       rintro e W6 ⟨y6, rfl, hS6, hg6⟩
       have HS6 := yz ((yy HS5).call hS6 hg6)
       clear hS6 hg6 HS5
       go_upto_if 71 with fail
       go_cut [7] (fun lv wx => ∃ (wv : World) (S : List D3) (a : Option Addr) (cap : Nat), wv = wx ∧ lv = .slice a S.length cap ∧ S.length ≤ 7 ∧ Hid (ef w b wx S a cap A B C D))
       case first =>
        cases y6
        ·go_wp2_with fail
         go_meet
         exact ⟨_, S, a, cap, rfl, rfl, by omega, HS6⟩
        ·go_wp2_with fail
         refine (qI b _ (yy HS6).src).mono ?_
         rintro e W7 ⟨x, y, z, rfl, hS7, hg7⟩
         have HS7 := yz ((yy HS6).call hS7 hg7)
         clear hS7 hg7 HS6
         have hy := ak W7 (.cells #[.int .i64 x, .int .i64 y, .int .i64 z] 67)
         have HS8 := yz ((yy HS7).below hy)
         have HN := yz (aO W7 [.int .i64 x, .int .i64 y, .int .i64 z] 67)
         clear hy
         have hown := (yy HS8).row
         have hszw : w.heap.size + 1 ≤ (W7.alloc (.cells #[.int .i64 x, .int .i64 y, .int .i64 z] 67)).heap.size := by have := (yy HS8).box.lt; omega
         go_wp2_with (at_builtin; refine wpList_append_own _ rfl _ _ 24 rfl (w.heap.size + 1) 67 i0 (.agg #[.int .i64 0, .int .i64 0, .int .i64 0]) 3 24 Tryz.underlying24 hinf hz0 hz1 hz2 rfl (by decide) _ _ _ rfl hown ⟨W7.heap.size, 0, none⟩ 1 1 (vcL (x, y, z)) rfl rfl (gv (yy HN)) (fun u hu => iZ hu) (by omega) (by omega) hszw ?_)
         intro v7 V7 hown7 hgrow7 _
         obtain ⟨a9, c9, rfl, hS9⟩ := (yy HS8).app hgrow7 hown7
         have HS9 := yz hS9
         clear hown7 hgrow7 hS9 hown HN HS8
         go_wp2_with fail
         go_meet
         exact ⟨_, S ++ [(x, y, z)], a9, c9, rfl, by rw [show (S ++ [(x, y, z)]).length = S.length + 1 by simp], (by simp; omega), HS9⟩
       case rest =>
       clear HS6 hs6
       obtain ⟨W7, S, a, cap, hw7, rfl, hs7, HS7⟩ := hcut
       subst hw7
       go_wp2_with fail
       refine (bh b 3 _ (yy HS7).src (by decide)).mono ?_
       rintro e W8 ⟨y8, rfl, hS8, hg8⟩
       have HS8 := yz ((yy HS7).call hS8 hg8)
       clear hS8 hg8 HS7
       by_cases hsw : y8 = true ∧ 1 < S.length
       ·obtain ⟨rfl, h1⟩ := hsw
        have h1' : (1 : Int) < (S.length : Int) := by omega
        obtain ⟨g, rfl⟩ : ∃ g, a = some ⟨g, 0, none⟩ := by
         rcases (yy HS8).row.2 with ⟨_, h0⟩ | ⟨g, cp, cur, e, _⟩
         ·omega
         ·injection e with e1 _ _
          exact ⟨g, e1⟩
        obtain ⟨p0, p1, p2, q0, q1, q2, R, hSR⟩ : ∃ p0 p1 p2 q0 q1 q2 R, S = (p0, p1, p2) :: (q0, q1, q2) :: R := by
         match S, h1 with
         | (p0, p1, p2) :: (q0, q1, q2) :: R, _ => exact ⟨p0, p1, p2, q0, q1, q2, R, rfl⟩
        have hrw := (yy HS8).row
        have hfr := fun j => World.ownsRow.frozenAt hrw j
        have hce := fun j hj => World.ownsRow.cellAt hrw j hj
        rw [hSR] at hce
        have c0 : W8.cell? ⟨g, 0, none⟩ = some (.int .i64 p0) := hce 0 (by simp)
        have c1 : W8.cell? ⟨g, 1, none⟩ = some (.int .i64 p1) := hce 1 (by simp <;> omega)
        have c2 : W8.cell? ⟨g, 2, none⟩ = some (.int .i64 p2) := hce 2 (by simp <;> omega)
        have HS9 := yz ((yy HS8).below (ak W8 (.cells #[.int .i64 p0, .int .i64 p1, .int .i64 p2] 67)))
        have HV9 := yz (aO W8 [.int .i64 p0, .int .i64 p1, .int .i64 p2] 67)
        have hgv : g ≠ W8.heap.size := Nat.ne_of_lt (bX (yy HS8).row _ rfl).2
        have hvg := Ne.symm hgv
        clear hrw hfr hce HS8
        go_upto_region 19 with fail
        generalize W8.alloc (.cells #[.int .i64 p0, .int .i64 p1, .int .i64 p2] 67) = W9 at *
        generalize W8.heap.size = vb9 at *
        clear c0 c1 c2
        have hrw := (yy HS9).row
        have hfr := fun j => World.ownsRow.frozenAt hrw j
        have hce := fun j hj => World.ownsRow.cellAt hrw j hj
        rw [hSR] at hce
        have c0 : W9.cell? ⟨g, 0, none⟩ = some (.int .i64 p0) := hce 0 (by simp <;> omega)
        have c1 : W9.cell? ⟨g, 1, none⟩ = some (.int .i64 p1) := hce 1 (by simp <;> omega)
        have c2 : W9.cell? ⟨g, 2, none⟩ = some (.int .i64 p2) := hce 2 (by simp <;> omega)
        have c3 : W9.cell? ⟨g, 3, none⟩ = some (.int .i64 q0) := hce 3 (by simp <;> omega)
        have c4 : W9.cell? ⟨g, 4, none⟩ = some (.int .i64 q1) := hce 4 (by simp <;> omega)
        have c5 : W9.cell? ⟨g, 5, none⟩ = some (.int .i64 q2) := hce 5 (by simp <;> omega)
        have f0 := hfr 0
        have f1 := hfr 1
        have f2 := hfr 2
        have f3 := hfr 3
        have f4 := hfr 4
        have f5 := hfr 5
        obtain ⟨v0, v1, v2⟩ := pt (yy HV9)
        have HL : Hid (((q0, q1, q2) :: (p0, p1, p2) :: R : List D3).length = S.length ∧ S.length ≤ 7) := yz ⟨by rw [hSR]; rfl, hs7⟩
        have hS9 := yy HS9
        rw [hSR] at hS9
        have HS10 := yz ((((((hS9.put (S' := (q0, p1, p2) :: (q0, q1, q2) :: R) 0 (.int .i64 q0) rfl rfl).put (S' := (q0, q1, p2) :: (q0, q1, q2) :: R) 1 (.int .i64 q1) rfl rfl).put (S' := (q0, q1, q2) :: (q0, q1, q2) :: R) 2 (.int .i64 q2) rfl rfl).put (S' := (q0, q1, q2) :: (p0, q1, q2) :: R) 3 (.int .i64 p0) rfl rfl).put (S' := (q0, q1, q2) :: (p0, p1, q2) :: R) 4 (.int .i64 p1) rfl rfl).put (S' := (q0, q1, q2) :: (p0, p1, p2) :: R) 5 (.int .i64 p2) rfl rfl)
        clear hrw hfr hce HS9 hS9 hSR HV9
        go_wp2_with fail
        go_ret
        exact ⟨_, _, _, by first | rfl | (rw [(yy HL).1]; rfl), by rw [(yy HL).1]; exact (yy HL).2, yy HS10⟩
       ·rcases (by cases y8; exact .inl rfl; exact .inr ⟨rfl, fun h => hsw ⟨rfl, by omega⟩⟩ : y8 = false ∨ (y8 = true ∧ ¬ (1 : Int) < (S.length : Int))) with rfl | ⟨rfl, h1'⟩
        ·go_wp2_with fail
         go_ret
         exact ⟨S, _, _, rfl, hs7, yy HS8⟩
        ·go_wp2_with fail
         go_ret
         exact ⟨S, _, _, rfl, hs7, yy HS8⟩
     ·have h1' : ¬ (1 : Int) < (S.length : Int) := by omega
      go_wp2_with fail
      refine (bh b 20 _ (yy HS).src (by decide)).mono ?_
      rintro e W6 ⟨y6, rfl, hS6, hg6⟩
      have HS6 := yz ((yy HS).call hS6 hg6)
      clear hS6 hg6 HS
      go_upto_if 71 with fail
      go_cut [7] (fun lv wx => ∃ (wv : World) (S : List D3) (a : Option Addr) (cap : Nat), wv = wx ∧ lv = .slice a S.length cap ∧ S.length ≤ 7 ∧ Hid (ef w b wx S a cap A B C D))
      case first =>
       cases y6
       ·go_wp2_with fail
        go_meet
        exact ⟨_, S, a, cap, rfl, rfl, by omega, HS6⟩
       ·go_wp2_with fail
        refine (qI b _ (yy HS6).src).mono ?_
        rintro e W7 ⟨x, y, z, rfl, hS7, hg7⟩
        have HS7 := yz ((yy HS6).call hS7 hg7)
        clear hS7 hg7 HS6
        have hy := ak W7 (.cells #[.int .i64 x, .int .i64 y, .int .i64 z] 67)
        have HS8 := yz ((yy HS7).below hy)
        have HN := yz (aO W7 [.int .i64 x, .int .i64 y, .int .i64 z] 67)
        clear hy
        have hown := (yy HS8).row
        have hszw : w.heap.size + 1 ≤ (W7.alloc (.cells #[.int .i64 x, .int .i64 y, .int .i64 z] 67)).heap.size := by have := (yy HS8).box.lt; omega
        go_wp2_with (at_builtin; refine wpList_append_own _ rfl _ _ 24 rfl (w.heap.size + 1) 67 i0 (.agg #[.int .i64 0, .int .i64 0, .int .i64 0]) 3 24 Tryz.underlying24 hinf hz0 hz1 hz2 rfl (by decide) _ _ _ rfl hown ⟨W7.heap.size, 0, none⟩ 1 1 (vcL (x, y, z)) rfl rfl (gv (yy HN)) (fun u hu => iZ hu) (by omega) (by omega) hszw ?_)
        intro v7 V7 hown7 hgrow7 _
        obtain ⟨a9, c9, rfl, hS9⟩ := (yy HS8).app hgrow7 hown7
        have HS9 := yz hS9
        clear hown7 hgrow7 hS9 hown HN HS8
        go_wp2_with fail
        go_meet
        exact ⟨_, S ++ [(x, y, z)], a9, c9, rfl, by rw [show (S ++ [(x, y, z)]).length = S.length + 1 by simp], (by simp; omega), HS9⟩
      case rest =>
      clear HS6 hs6
      obtain ⟨W7, S, a, cap, hw7, rfl, hs7, HS7⟩ := hcut
      subst hw7
      go_wp2_with fail
      refine (bh b 3 _ (yy HS7).src (by decide)).mono ?_
      rintro e W8 ⟨y8, rfl, hS8, hg8⟩
      have HS8 := yz ((yy HS7).call hS8 hg8)
      clear hS8 hg8 HS7
      by_cases hsw : y8 = true ∧ 1 < S.length
      ·obtain ⟨rfl, h1⟩ := hsw
       have h1' : (1 : Int) < (S.length : Int) := by omega
       obtain ⟨g, rfl⟩ : ∃ g, a = some ⟨g, 0, none⟩ := by
        rcases (yy HS8).row.2 with ⟨_, h0⟩ | ⟨g, cp, cur, e, _⟩
        ·omega
        ·injection e with e1 _ _
         exact ⟨g, e1⟩
       obtain ⟨p0, p1, p2, q0, q1, q2, R, hSR⟩ : ∃ p0 p1 p2 q0 q1 q2 R, S = (p0, p1, p2) :: (q0, q1, q2) :: R := by
        match S, h1 with
        | (p0, p1, p2) :: (q0, q1, q2) :: R, _ => exact ⟨p0, p1, p2, q0, q1, q2, R, rfl⟩
       have hrw := (yy HS8).row
       have hfr := fun j => World.ownsRow.frozenAt hrw j
       have hce := fun j hj => World.ownsRow.cellAt hrw j hj
       rw [hSR] at hce
       have c0 : W8.cell? ⟨g, 0, none⟩ = some (.int .i64 p0) := hce 0 (by simp)
       have c1 : W8.cell? ⟨g, 1, none⟩ = some (.int .i64 p1) := hce 1 (by simp <;> omega)
       have c2 : W8.cell? ⟨g, 2, none⟩ = some (.int .i64 p2) := hce 2 (by simp <;> omega)
       have HS9 := yz ((yy HS8).below (ak W8 (.cells #[.int .i64 p0, .int .i64 p1, .int .i64 p2] 67)))
       have HV9 := yz (aO W8 [.int .i64 p0, .int .i64 p1, .int .i64 p2] 67)
       have hgv : g ≠ W8.heap.size := Nat.ne_of_lt (bX (yy HS8).row _ rfl).2
       have hvg := Ne.symm hgv
       clear hrw hfr hce HS8
       go_upto_region 19 with fail
       generalize W8.alloc (.cells #[.int .i64 p0, .int .i64 p1, .int .i64 p2] 67) = W9 at *
       generalize W8.heap.size = vb9 at *
       clear c0 c1 c2
       have hrw := (yy HS9).row
       have hfr := fun j => World.ownsRow.frozenAt hrw j
       have hce := fun j hj => World.ownsRow.cellAt hrw j hj
       rw [hSR] at hce
       have c0 : W9.cell? ⟨g, 0, none⟩ = some (.int .i64 p0) := hce 0 (by simp <;> omega)
       have c1 : W9.cell? ⟨g, 1, none⟩ = some (.int .i64 p1) := hce 1 (by simp <;> omega)
       have c2 : W9.cell? ⟨g, 2, none⟩ = some (.int .i64 p2) := hce 2 (by simp <;> omega)
       have c3 : W9.cell? ⟨g, 3, none⟩ = some (.int .i64 q0) := hce 3 (by simp <;> omega)
       have c4 : W9.cell? ⟨g, 4, none⟩ = some (.int .i64 q1) := hce 4 (by simp <;> omega)
       have c5 : W9.cell? ⟨g, 5, none⟩ = some (.int .i64 q2) := hce 5 (by simp <;> omega)
       have f0 := hfr 0
       have f1 := hfr 1
       have f2 := hfr 2
       have f3 := hfr 3
       have f4 := hfr 4
       have f5 := hfr 5
       obtain ⟨v0, v1, v2⟩ := pt (yy HV9)
       have HL : Hid (((q0, q1, q2) :: (p0, p1, p2) :: R : List D3).length = S.length ∧ S.length ≤ 7) := yz ⟨by rw [hSR]; rfl, hs7⟩
       have hS9 := yy HS9
       rw [hSR] at hS9
       have HS10 := yz ((((((hS9.put (S' := (q0, p1, p2) :: (q0, q1, q2) :: R) 0 (.int .i64 q0) rfl rfl).put (S' := (q0, q1, p2) :: (q0, q1, q2) :: R) 1 (.int .i64 q1) rfl rfl).put (S' := (q0, q1, q2) :: (q0, q1, q2) :: R) 2 (.int .i64 q2) rfl rfl).put (S' := (q0, q1, q2) :: (p0, q1, q2) :: R) 3 (.int .i64 p0) rfl rfl).put (S' := (q0, q1, q2) :: (p0, p1, q2) :: R) 4 (.int .i64 p1) rfl rfl).put (S' := (q0, q1, q2) :: (p0, p1, p2) :: R) 5 (.int .i64 p2) rfl rfl)
       clear hrw hfr hce HS9 hS9 hSR HV9
       go_wp2_with fail
       go_ret
       exact ⟨_, _, _, by first | rfl | (rw [(yy HL).1]; rfl), by rw [(yy HL).1]; exact (yy HL).2, yy HS10⟩
      ·rcases (by cases y8; exact .inl rfl; exact .inr ⟨rfl, fun h => hsw ⟨rfl, by omega⟩⟩ : y8 = false ∨ (y8 = true ∧ ¬ (1 : Int) < (S.length : Int))) with rfl | ⟨rfl, h1'⟩
       ·go_wp2_with fail
        go_ret
        exact ⟨S, _, _, rfl, hs7, yy HS8⟩
       ·go_wp2_with fail
        go_ret
        exact ⟨S, _, _, rfl, hs7, yy HS8⟩
end
end Go.Proofs.YtoakkmjcbnfljaaGreatDoor
