/- Several texts in one: DrK. -/
import Derived.Test.YtgiodlllokdcdaaGreatDoorQFnModeOwn23
import Derived.Test.YtgiodlllokdcdaaGreatDoorQFnModeOwn40
import Derived.Test.YtgiodlllokdcdaaGreatDoorQFnModeOwn27
import Derived.Test.YtgiodlllokdcdaaGreatDoorQFnModeOwn38
import Derived.Test.YtgiodlllokdcdaaGreatDoorQFnModeOwn10
import Derived.Test.YtgiodlllokdcdaaGreatDoorQFnModeOwn1
namespace Go.Proofs.YtgiodlllokdcdaaGreatDoor
set_option linter.unusedVariables false
set_option linter.unusedSimpArgs false
set_option maxRecDepth 100000
set_option maxHeartbeats 8000000
section
open Go.RowKit Go.Sort
theorem bl {w : World} {B m n b : Nat} {t t' : TypeId} {v : Value} {xs cs : List Value} (h : w.ownsRow B t m v n xs) (h' : Blk w b cs t') (ht : t ≠ t') : v.ownBlock = none ∨ v.ownBlock ≠ some b := by
 rcases h.2 with ⟨rfl, _⟩ | ⟨g, cap, cur, rfl, _, hg, _⟩
 ·exact .inl rfl
 ·refine .inr (fun e => ?_)
  obtain rfl : g = b := Option.some.inj e
  have h2 : w.heap[g]? = some (.cells cs.toArray t') := h'
  rw [hg] at h2
  injection h2 with e1
  injection e1 with _ e2
  exact ht e2
theorem bu (W : World) (b i : Nat) (v : Value) : W.grownBy (W.setCell ⟨b, i, none⟩ v) (some b) := ⟨rfl, rfl, rfl, by simp [World.setCell], fun k _ hk => heap_setCell_other W _ k _ (fun e => hk (by rw [e]))⟩
structure fL (w : World) (b : Nat) (wr : World) (ub kb : Nat) (t : Tk) (u : Int × Int × Int × Int) (a : Option Addr) (cap : Nat) : Prop where
 src : aR b wr
 res : Blk wr w.heap.size [.slice none 0 0, .int .i64 0, .int .i64 0, .int .i64 0, .int .i64 0, .int .i64 0, .int .i64 0, .int .i64 0, .int .i64 0] 27
 res2 : Blk wr (w.heap.size + 1) [.int .i64 0, .int .i64 0, .int .i64 0, .int .i64 0] 25
 tur : Blk wr ub [.int .i64 u.1, .int .i64 u.2.1, .int .i64 u.2.2.1, .int .i64 u.2.2.2] 25
 trk : Blk wr kb [.slice a t.L.length cap, .int .i64 t.lim, .int .i64 t.mode, .int .i64 t.A, .int .i64 t.B, .int .i64 t.C, .int .i64 t.D, .int .i64 t.coast, .int .i64 t.fr] 27
 sky : aq wr w.heap.size t.L a cap
 gr : w.grownBy wr (some b)
 lb : b < w.heap.size
 u1 : w.heap.size + 1 < ub
 k1 : ub < kb
 len : t.L.length ≤ 400
theorem fL.call {w wr : World} {b ub kb : Nat} {t : Tk} {u : Int × Int × Int × Int} {a : Option Addr} {cap : Nat} {w2 : World} (h : fL w b wr ub kb t u a cap) (hS : aR b w2) (hg : wr.grownBy w2 (some b)) : fL w b w2 ub kb t u a cap := by
 have := h.lb
 have := h.u1
 have := h.k1
 have ne : ∀ k, w.heap.size ≤ k → some k ≠ some b := fun k hk e => by have := Option.some.inj e; omega
 exact ⟨hS, ax h.res hg (ne _ (by omega)), ax h.res2 hg (ne _ (by omega)), ax h.tur hg (ne _ (by omega)), ax h.trk hg (ne _ (by omega)), World.ownsRow.kept h.sky hg (mq h.sky h.lb), ak h.gr hg, h.lb, h.u1, h.k1, h.len⟩
theorem fL.below {w wr : World} {b ub kb : Nat} {t : Tk} {u : Int × Int × Int × Int} {a : Option Addr} {cap : Nat} {w2 : World} (h : fL w b wr ub kb t u a cap) (hx : Below wr.heap.size wr w2) : fL w b w2 ub kb t u a cap :=
 ⟨h.src.below hx, h.res.kept hx, h.res2.kept hx, h.tur.kept hx, h.trk.kept hx, h.sky.kept hx, ak h.gr (aX hx _), h.lb, h.u1, h.k1, h.len⟩
theorem fL.far {w wr : World} {b ub kb : Nat} {t : Tk} {u : Int × Int × Int × Int} {a : Option Addr} {cap : Nat} {w2 : World} {q : Nat} (h : fL w b wr ub kb t u a cap) (hg : wr.grownBy w2 (some q)) (hq : kb < q) (hr : (Value.slice a t.L.length cap).ownBlock = none ∨ (Value.slice a t.L.length cap).ownBlock ≠ some q) : fL w b w2 ub kb t u a cap := by
 have := h.lb
 have := h.u1
 have := h.k1
 have ne : ∀ k, k ≤ kb → some k ≠ some q := fun k hk e => by have := Option.some.inj e; omega
 exact ⟨h.src.kept hg (fun c e => by have := Option.some.inj e; omega), ax h.res hg (ne _ (by omega)), ax h.res2 hg (ne _ (by omega)), ax h.tur hg (ne _ (by omega)), ax h.trk hg (ne _ (by omega)), World.ownsRow.kept h.sky hg hr, bL h.gr hg (fun c e => by have := Option.some.inj e; omega), h.lb, h.u1, h.k1, h.len⟩
theorem fL.putK {w wr : World} {b ub kb : Nat} {t : Tk} {u : Int × Int × Int × Int} {a : Option Addr} {cap : Nat} {w2 : World} {t2 : Tk} {a2 : Option Addr} {cap2 : Nat} (h : fL w b wr ub kb t u a cap) (hg : wr.grownBy w2 (some kb)) (hK : Blk w2 kb [.slice a2 t2.L.length cap2, .int .i64 t2.lim, .int .i64 t2.mode, .int .i64 t2.A, .int .i64 t2.B, .int .i64 t2.C, .int .i64 t2.D, .int .i64 t2.coast, .int .i64 t2.fr] 27) (hC : aq wr w.heap.size t2.L a2 cap2) (hl : t2.L.length ≤ 400) : fL w b w2 ub kb t2 u a2 cap2 := by
 have := h.lb
 have := h.u1
 have := h.k1
 have ne : ∀ k, k < kb → some k ≠ some kb := fun k hk e => by have := Option.some.inj e; omega
 exact ⟨h.src.kept hg (fun c e => by have := Option.some.inj e; omega), ax h.res hg (ne _ (by omega)), ax h.res2 hg (ne _ (by omega)), ax h.tur hg (ne _ (by omega)), hK, World.ownsRow.kept hC hg (bl hC h.trk (by decide)), bL h.gr hg (fun c e => by have := Option.some.inj e; omega), h.lb, h.u1, h.k1, hl⟩
theorem fL.putU {w wr : World} {b ub kb : Nat} {t : Tk} {u : Int × Int × Int × Int} {a : Option Addr} {cap : Nat} {w2 : World} {u2 : Int × Int × Int × Int} (h : fL w b wr ub kb t u a cap) (hg : wr.grownBy w2 (some ub)) (hU : Blk w2 ub [.int .i64 u2.1, .int .i64 u2.2.1, .int .i64 u2.2.2.1, .int .i64 u2.2.2.2] 25) : fL w b w2 ub kb t u2 a cap := by
 have := h.lb
 have := h.u1
 have := h.k1
 have ne : ∀ k, k ≠ ub → some k ≠ some ub := fun k hk e => hk (Option.some.inj e)
 exact ⟨h.src.kept hg (fun c e => by have := Option.some.inj e; omega), ax h.res hg (ne _ (by omega)), ax h.res2 hg (ne _ (by omega)), hU, ax h.trk hg (ne _ (by omega)), World.ownsRow.kept h.sky hg (bl h.sky h.tur (by decide)), bL h.gr hg (fun c e => by have := Option.some.inj e; omega), h.lb, h.u1, h.k1, h.len⟩
theorem eQ (W : World) (b : Nat) (x0 x1 x2 x3 x4 x5 x6 x7 x8 : Value) : W.grownBy (((((((((W.setCell ⟨b, 0, none⟩ (x0)).setCell ⟨b, 1, none⟩ (x1)).setCell ⟨b, 2, none⟩ (x2)).setCell ⟨b, 3, none⟩ (x3)).setCell ⟨b, 4, none⟩ (x4)).setCell ⟨b, 5, none⟩ (x5)).setCell ⟨b, 6, none⟩ (x6)).setCell ⟨b, 7, none⟩ (x7)).setCell ⟨b, 8, none⟩ (x8)) (some b) := ak (ak (ak (ak (ak (ak (ak (ak (bu _ _ _ _) (bu _ _ _ _)) (bu _ _ _ _)) (bu _ _ _ _)) (bu _ _ _ _)) (bu _ _ _ _)) (bu _ _ _ _)) (bu _ _ _ _)) (bu _ _ _ _)
theorem qF (W : World) (b : Nat) (x0 x1 x2 x3 : Value) : W.grownBy ((((W.setCell ⟨b, 0, none⟩ (x0)).setCell ⟨b, 1, none⟩ (x1)).setCell ⟨b, 2, none⟩ (x2)).setCell ⟨b, 3, none⟩ (x3)) (some b) := ak (ak (ak (bu _ _ _ _) (bu _ _ _ _)) (bu _ _ _ _)) (bu _ _ _ _)
theorem jo (W : World) (b : Nat) (x0 x1 x2 x3 x4 x5 x6 x7 x8 x9 : Value) : W.grownBy ((((((((((W.setCell ⟨b, 0, none⟩ (x0)).setCell ⟨b, 1, none⟩ (x1)).setCell ⟨b, 2, none⟩ (x2)).setCell ⟨b, 3, none⟩ (x3)).setCell ⟨b, 4, none⟩ (x4)).setCell ⟨b, 5, none⟩ (x5)).setCell ⟨b, 6, none⟩ (x6)).setCell ⟨b, 7, none⟩ (x7)).setCell ⟨b, 8, none⟩ (x8)).setCell ⟨b, 9, none⟩ (x9)) (some b) := ak (ak (ak (ak (ak (ak (ak (ak (ak (bu _ _ _ _) (bu _ _ _ _)) (bu _ _ _ _)) (bu _ _ _ _)) (bu _ _ _ _)) (bu _ _ _ _)) (bu _ _ _ _)) (bu _ _ _ _)) (bu _ _ _ _)) (bu _ _ _ _)
theorem kO {W : World} {b : Nat} {v0 v1 v2 v3 v4 v5 v6 v7 v8 : Value} {t : TypeId} (h : Blk W b [v0, v1, v2, v3, v4, v5, v6, v7, v8] t) (x0 x1 x2 x3 x4 x5 x6 x7 x8 : Value) : Blk (((((((((W.setCell ⟨b, 0, none⟩ (x0)).setCell ⟨b, 1, none⟩ (x1)).setCell ⟨b, 2, none⟩ (x2)).setCell ⟨b, 3, none⟩ (x3)).setCell ⟨b, 4, none⟩ (x4)).setCell ⟨b, 5, none⟩ (x5)).setCell ⟨b, 6, none⟩ (x6)).setCell ⟨b, 7, none⟩ (x7)).setCell ⟨b, 8, none⟩ (x8)) b [x0, x1, x2, x3, x4, x5, x6, x7, x8] t := Blk.set (Blk.set (Blk.set (Blk.set (Blk.set (Blk.set (Blk.set (Blk.set (Blk.set h 0 _) 1 _) 2 _) 3 _) 4 _) 5 _) 6 _) 7 _) 8 _
theorem vi {W : World} {b : Nat} {v0 v1 v2 v3 : Value} {t : TypeId} (h : Blk W b [v0, v1, v2, v3] t) (x0 x1 x2 x3 : Value) : Blk ((((W.setCell ⟨b, 0, none⟩ (x0)).setCell ⟨b, 1, none⟩ (x1)).setCell ⟨b, 2, none⟩ (x2)).setCell ⟨b, 3, none⟩ (x3)) b [x0, x1, x2, x3] t := Blk.set (Blk.set (Blk.set (Blk.set h 0 _) 1 _) 2 _) 3 _
theorem po {W : World} {b : Nat} {v0 v1 v2 v3 v4 v5 v6 v7 v8 v9 : Value} {t : TypeId} (h : Blk W b [v0, v1, v2, v3, v4, v5, v6, v7, v8, v9] t) (x0 x1 x2 x3 x4 x5 x6 x7 x8 x9 : Value) : Blk ((((((((((W.setCell ⟨b, 0, none⟩ (x0)).setCell ⟨b, 1, none⟩ (x1)).setCell ⟨b, 2, none⟩ (x2)).setCell ⟨b, 3, none⟩ (x3)).setCell ⟨b, 4, none⟩ (x4)).setCell ⟨b, 5, none⟩ (x5)).setCell ⟨b, 6, none⟩ (x6)).setCell ⟨b, 7, none⟩ (x7)).setCell ⟨b, 8, none⟩ (x8)).setCell ⟨b, 9, none⟩ (x9)) b [x0, x1, x2, x3, x4, x5, x6, x7, x8, x9] t := Blk.set (Blk.set (Blk.set (Blk.set (Blk.set (Blk.set (Blk.set (Blk.set (Blk.set (Blk.set h 0 _) 1 _) 2 _) 3 _) 4 _) 5 _) 6 _) 7 _) 8 _) 9 _
theorem ju {t : Tk} (S : List D3) (h : t.L.length ≤ 400) : (bd t S).L.length ≤ 400 := by
 unfold bd
 split
 ·exact Nat.zero_le _
 ·split
  ·split
   ·exact Nat.zero_le _
   ·unfold bS
    split
    ·exact h
    ·split
     ·exact h
     ·rw [mE]
      exact h
  ·exact Nat.zero_le _
theorem pH {t : Tk} (g1 g2 g3 g4 : Int) (h : t.L.length ≤ 400) : (ed t g1 g2 g3 g4).L.length ≤ 400 := by
 unfold ed
 split
 ·rw [qo]
  exact h
 ·exact Nat.zero_le _
theorem rG {L : List St} (lim : Int) (h : L.length ≤ 400) : (fi L lim).L.length ≤ 400 := by
 unfold fi
 split
 ·exact Nat.zero_le _
 ·split
  ·exact h
  ·exact Nat.zero_le _
theorem rA (W : World) (a : Option Addr) (n c : Nat) (i1 i2 i3 i4 i5 i6 i7 i8 i9 : Int) : (Instr.field 32 (.agg #[.slice a n c, .int .i64 i1, .int .i64 i2, .int .i64 i3, .int .i64 i4, .int .i64 i5, .int .i64 i6, .int .i64 i7, .int .i64 i8, .int .i64 i9]) 0).run Tryz.prog W = .ok (.agg #[.slice a n c, .int .i64 i1, .int .i64 i2, .int .i64 i3, .int .i64 i4, .int .i64 i5, .int .i64 i6, .int .i64 i7, .int .i64 i8]) W := by kernel_rfl
structure YSt (w : World) (b : Nat) (wr : World) (ub kb : Nat) (t : Tk) (u : Int × Int × Int × Int) (a : Option Addr) (cap yb : Nat) (t2 : Tk) (code : Int) (a2 : Option Addr) (cap2 : Nat) : Prop where
 st : fL w b wr ub kb t u a cap
 y : Blk wr yb [.slice a2 t2.L.length cap2, .int .i64 t2.lim, .int .i64 t2.mode, .int .i64 t2.A, .int .i64 t2.B, .int .i64 t2.C, .int .i64 t2.D, .int .i64 t2.coast, .int .i64 t2.fr, .int .i64 code] 32
 sk : aq wr w.heap.size t2.L a2 cap2
 ly : kb < yb
 l2 : t2.L.length ≤ 400
theorem YSt.call {w wr : World} {b ub kb : Nat} {t : Tk} {u : Int × Int × Int × Int} {a : Option Addr} {cap : Nat} {w2 : World} {yb : Nat} {t2 : Tk} {code : Int} {a2 : Option Addr} {cap2 : Nat} (h : YSt w b wr ub kb t u a cap yb t2 code a2 cap2) (hS : aR b w2) (hg : wr.grownBy w2 (some b)) : YSt w b w2 ub kb t u a cap yb t2 code a2 cap2 := by
 have := h.st.lb
 have := h.st.u1
 have := h.st.k1
 have := h.ly
 exact ⟨h.st.call hS hg, ax h.y hg (fun e => by have := Option.some.inj e; omega), World.ownsRow.kept h.sk hg (mq h.sk h.st.lb), h.ly, h.l2⟩
theorem YSt.below {w wr : World} {b ub kb : Nat} {t : Tk} {u : Int × Int × Int × Int} {a : Option Addr} {cap : Nat} {w2 : World} {yb : Nat} {t2 : Tk} {code : Int} {a2 : Option Addr} {cap2 : Nat} (h : YSt w b wr ub kb t u a cap yb t2 code a2 cap2) (hx : Below wr.heap.size wr w2) : YSt w b w2 ub kb t u a cap yb t2 code a2 cap2 :=
 ⟨h.st.below hx, h.y.kept hx, h.sk.kept hx, h.ly, h.l2⟩
theorem YSt.putY {w wr : World} {b ub kb : Nat} {t : Tk} {u : Int × Int × Int × Int} {a : Option Addr} {cap : Nat} {w2 : World} {yb : Nat} {t2 t3 : Tk} {code code3 : Int} {a2 a3 : Option Addr} {cap2 cap3 : Nat} (h : YSt w b wr ub kb t u a cap yb t2 code a2 cap2) (hg : wr.grownBy w2 (some yb)) (hY : Blk w2 yb [.slice a3 t3.L.length cap3, .int .i64 t3.lim, .int .i64 t3.mode, .int .i64 t3.A, .int .i64 t3.B, .int .i64 t3.C, .int .i64 t3.D, .int .i64 t3.coast, .int .i64 t3.fr, .int .i64 code3] 32) (hC : aq wr w.heap.size t3.L a3 cap3) (hl : t3.L.length ≤ 400) : YSt w b w2 ub kb t u a cap yb t3 code3 a3 cap3 :=
 ⟨h.st.far hg h.ly (bl h.st.sky h.y (by decide)), hY, World.ownsRow.kept hC hg (bl hC h.y (by decide)), h.ly, hl⟩
theorem YSt.putU {w wr : World} {b ub kb : Nat} {t : Tk} {u : Int × Int × Int × Int} {a : Option Addr} {cap : Nat} {w2 : World} {yb : Nat} {t2 : Tk} {code : Int} {a2 : Option Addr} {cap2 : Nat} {u2 : Int × Int × Int × Int} (h : YSt w b wr ub kb t u a cap yb t2 code a2 cap2) (hg : wr.grownBy w2 (some ub)) (hU : Blk w2 ub [.int .i64 u2.1, .int .i64 u2.2.1, .int .i64 u2.2.2.1, .int .i64 u2.2.2.2] 25) : YSt w b w2 ub kb t u2 a cap yb t2 code a2 cap2 := by
 have := h.st.k1
 have := h.ly
 exact ⟨h.st.putU hg hU, ax h.y hg (fun e => by have := Option.some.inj e; omega), World.ownsRow.kept h.sk hg (bl h.sk h.st.tur (by decide)), h.ly, h.l2⟩
theorem ug (V : World) (m : Nat) (hm : m < 3) : ∃ z : Int, (V.alloc (.cells #[.int .i64 (-1), .int .i64 1000000, .int .i64 1000001] 2)).cell? ⟨V.heap.size, m, none⟩ = some (.int .i64 z) := by
 have h := aD V [.int .i64 (-1), .int .i64 1000000, .int .i64 1000001] 2
 rcases (by omega : m = 0 ∨ m = 1 ∨ m = 2) with rfl | rfl | rfl
 ·exact ⟨_, h.cell 0 _ rfl⟩
 ·exact ⟨_, h.cell 1 _ rfl⟩
 ·exact ⟨_, h.cell 2 _ rfl⟩
theorem vD (T : Array Value) (X : World) (b c : Nat) (v0 v1 v2 v3 v4 v5 v6 v7 v8 u0 u1 u2 u3 : Value) (hT : T.getD 2 undef = .pointer (some ⟨b, 0, none⟩)) (hT3 : T.getD 3 undef = .pointer (some ⟨c, 0, none⟩)) (h : Blk X b [v0, v1, v2, v3, v4, v5, v6, v7, v8] 27) (g : Blk X c [u0, u1, u2, u3] 25) : (results Tryz.f25 T).run Tryz.prog X = .ok (.tuple #[.agg #[v0, v1, v2, v3, v4, v5, v6, v7, v8], .agg #[u0, u1, u2, u3]]) X := by
 obtain ⟨h0, h1, h2, h3, h4, h5, h6, h7, h8⟩ := dM (h)
 obtain ⟨g0, g1, g2, g3⟩ := bcs4 (g)
 simp only [Array.getD_eq_getD_getElem?] at hT hT3
 simp [results, Tryz.results25, go_sem, hT, hT3, h0, h1, h2, h3, h4, h5, h6, h7, h8, g0, g1, g2, g3]
theorem fh (b : Nat) (w : World) (hS : aR b w) :
  Calls Tryz.prog 25 #[.pointer (some ⟨b, 0, none⟩)] w fun e w' => ∃ (t : Tk) (u : Int × Int × Int × Int) (a : Option Addr) (cap : Nat), e = .returned (.tuple #[.agg #[.slice a t.L.length cap, .int .i64 t.lim, .int .i64 t.mode, .int .i64 t.A, .int .i64 t.B, .int .i64 t.C, .int .i64 t.D, .int .i64 t.coast, .int .i64 t.fr], .agg #[.int .i64 u.1, .int .i64 u.2.1, .int .i64 u.2.2.1, .int .i64 u.2.2.2]]) ∧ t.L.length ≤ 400 ∧ aq w' w.heap.size t.L a cap ∧ aR b w' ∧ w.grownBy w' (some b) := by
 have hmx : maxLen ≤ 9223372036854775807 := by decide +kernel
 have hlb := hS.lt
 have Z := aM w (.cells #[.slice none 0 0, .int .i64 0, .int .i64 0, .int .i64 0, .int .i64 0, .int .i64 0, .int .i64 0, .int .i64 0, .int .i64 0] 27) (.cells #[.int .i64 0, .int .i64 0, .int .i64 0, .int .i64 0] 25)
 have HR := yz ((aD w [.slice none 0 0, .int .i64 0, .int .i64 0, .int .i64 0, .int .i64 0, .int .i64 0, .int .i64 0, .int .i64 0, .int .i64 0] 27).alloc (.cells #[.int .i64 0, .int .i64 0, .int .i64 0, .int .i64 0] 25))
 have HR2 : Hid (Blk ((w.alloc (.cells #[.slice none 0 0, .int .i64 0, .int .i64 0, .int .i64 0, .int .i64 0, .int .i64 0, .int .i64 0, .int .i64 0, .int .i64 0] 27)).alloc (.cells #[.int .i64 0, .int .i64 0, .int .i64 0, .int .i64 0] 25)) (w.heap.size + 1) [.int .i64 0, .int .i64 0, .int .i64 0, .int .i64 0] 25) := yz (by have h := aD (w.alloc (.cells #[.slice none 0 0, .int .i64 0, .int .i64 0, .int .i64 0, .int .i64 0, .int .i64 0, .int .i64 0, .int .i64 0, .int .i64 0] 27)) [.int .i64 0, .int .i64 0, .int .i64 0, .int .i64 0] 25; simpa using h)
 have HS := yz (hS.below Z)
 have HG := yz (aX Z (some b))
 have hz : ((w.alloc (.cells #[.slice none 0 0, .int .i64 0, .int .i64 0, .int .i64 0, .int .i64 0, .int .i64 0, .int .i64 0, .int .i64 0, .int .i64 0] 27)).alloc (.cells #[.int .i64 0, .int .i64 0, .int .i64 0, .int .i64 0] 25)).heap.size = w.heap.size + 2 := by simp
 clear hS Z
 go_enter Tryz.func25, Tryz.ntmps25
 go_upto_region 1 with fail
 generalize (w.alloc (.cells #[.slice none 0 0, .int .i64 0, .int .i64 0, .int .i64 0, .int .i64 0, .int .i64 0, .int .i64 0, .int .i64 0, .int .i64 0] 27)).alloc (.cells #[.int .i64 0, .int .i64 0, .int .i64 0, .int .i64 0] 25) = W0 at *
 go_wp2_with fail
 refine (fA b W0 (yy HS)).mono ?_
 rintro e W1 ⟨p, q, r, s, rfl, hS1, hg1⟩
 have ne : ∀ k, w.heap.size ≤ k → some k ≠ some b := fun k hk e => by have := Option.some.inj e; omega
 have HR1 := yz (ax (yy HR) hg1 (ne _ (Nat.le_refl _)))
 have HR21 := yz (ax (yy HR2) hg1 (ne _ (by omega)))
 have HG1 := yz (ak (yy HG) hg1)
 have hz1 : w.heap.size + 2 ≤ W1.heap.size := by have := hg1.size; omega
 have HS1 := yz hS1
 clear hS1 hg1 HR HR2 HG HS hz
 have Z := an W1 (.cells #[.int .i64 p, .int .i64 q, .int .i64 r, .int .i64 s] 25)
 have HU := yz (aD W1 [.int .i64 p, .int .i64 q, .int .i64 r, .int .i64 s] 25)
 have HR := yz ((yy HR1).kept Z)
 have HR2 := yz ((yy HR21).kept Z)
 have HG := yz (ak (yy HG1) (aX Z (some b)))
 have HS := yz ((yy HS1).below Z)
 clear Z HR1 HR21 HG1 HS1
 go_upto_region 2 with fail
 generalize W1.alloc (.cells #[.int .i64 p, .int .i64 q, .int .i64 r, .int .i64 s] 25) = W2 at *
 obtain ⟨ub, hub⟩ : ∃ ub, W1.heap.size = ub := ⟨_, rfl⟩
 rw [hub] at HU hz1
 simp only [hub]
 clear hub
 go_wp2_with fail
 refine (lO b W2 (yy HS)).mono ?_
 rintro e W3 ⟨L, a, cap, rfl, hL13, hsk⟩
 obtain ⟨g, o, hgo⟩ : ∃ g o, a = some ⟨g, o, none⟩ := by
  rcases hsk.row.2 with ⟨h1, _⟩ | ⟨g, cp, cur, e, _⟩
  ·injection h1 with e1 _ _
   exact absurd e1 hsk.nn
  ·injection e with e1 _ _
   exact ⟨g, 0, e1⟩
 subst hgo
 have hL4 : L.length ≤ 400 := by omega
 have HR3 := yz (ax (yy HR) hsk.gr (ne _ (Nat.le_refl _)))
 have HR23 := yz (ax (yy HR2) hsk.gr (ne _ (by omega)))
 have HU3 := yz (ax (yy HU) hsk.gr (ne _ (by omega)))
 have HG3 := yz (ak (yy HG) hsk.gr)
 have HC3 := yz hsk.row
 have HS3 := yz hsk.src
 have hub2 : ub < W2.heap.size := (yy HU).lt
 have hww : w.heap.size ≤ W2.heap.size := by omega
 clear hsk HR HR2 HU HG HS
 go_wp2_with fail
 refine (bp b 3 W3 (yy HS3) (by decide)).mono ?_
 rintro e W4 ⟨k3, rfl, hk30, hk33, _, hS4, hg4⟩
 replace hk33 := hk33 (by decide)
 have HR := yz (ax (yy HR3) hg4 (ne _ (Nat.le_refl _)))
 have HR2 := yz (ax (yy HR23) hg4 (ne _ (by omega)))
 have HU := yz (ax (yy HU3) hg4 (ne _ (by omega)))
 have HG := yz (ak (yy HG3) hg4)
 have HC4 : Hid (aq W4 W2.heap.size L (some ⟨g, o, none⟩) cap) := yz (World.ownsRow.kept (yy HC3) hg4 (mq (yy HC3) (by omega)))
 have HS := yz hS4
 have hub4 : ub < W4.heap.size := (yy HU).lt
 clear hS4 hg4 HR3 HR23 HU3 HG3 HC3 HS3
 have hw1 : wrap64 (1 + k3) = 1 + k3 := ap (by omega) (by omega)
 have cN := yz (gW L (1 + k3) g o cap W4 (by omega) (yy HC4).stars)
 have hnl := rG (1 + k3) hL4
 generalize fi L (1 + k3) = t0 at *
 generalize gu L (1 + k3) = c0 at *
 go_wp2_with fail
 refine (yy cN).mono ?_
 rintro e W5 ⟨⟨a0, cap0, rfl, hC5⟩, hx⟩
 have hft := rA W5 a0 t0.L.length cap0 t0.lim t0.mode t0.A t0.B t0.C t0.D t0.coast t0.fr c0
 have hy := an W5 (.cells #[.slice a0 t0.L.length cap0, .int .i64 t0.lim, .int .i64 t0.mode, .int .i64 t0.A, .int .i64 t0.B, .int .i64 t0.C, .int .i64 t0.D, .int .i64 t0.coast, .int .i64 t0.fr] 27)
 have hz5 : ub < W5.heap.size := Nat.lt_of_lt_of_le hub4 hx.size
 have HST : Hid (fL w b (W5.alloc (.cells #[.slice a0 t0.L.length cap0, .int .i64 t0.lim, .int .i64 t0.mode, .int .i64 t0.A, .int .i64 t0.B, .int .i64 t0.C, .int .i64 t0.D, .int .i64 t0.coast, .int .i64 t0.fr] 27)) ub W5.heap.size t0 (p, q, r, s) a0 cap0) := yz ⟨((yy HS).below hx).below hy, ((yy HR).kept hx).kept hy, ((yy HR2).kept hx).kept hy, ((yy HU).kept hx).kept hy, aD W5 [.slice a0 t0.L.length cap0, .int .i64 t0.lim, .int .i64 t0.mode, .int .i64 t0.A, .int .i64 t0.B, .int .i64 t0.C, .int .i64 t0.D, .int .i64 t0.coast, .int .i64 t0.fr] 27, bA (World.ownsRow.mono hC5 (by have := hx.size; omega)) hy, ak (ak (yy HG) (aX hx _)) (aX hy _), hlb, by omega, hz5, hnl⟩
 clear hx hy hC5 HS HR HR2 HU HG HC4 cN hw1 hub4 hub2 hww hz1 hnl
 go_upto_region 3 with fail
 generalize W5.alloc (.cells #[.slice a0 t0.L.length cap0, .int .i64 t0.lim, .int .i64 t0.mode, .int .i64 t0.A, .int .i64 t0.B, .int .i64 t0.C, .int .i64 t0.D, .int .i64 t0.coast, .int .i64 t0.fr] 27) = W6 at *
 generalize W5.heap.size = kb at *
 have d1 := (yy HST).trk.cell 1 _ rfl
 go_upto_if 21 with fail
 go_cut [5] (fun pv wx => pv = .pointer (some ⟨kb, 0, none⟩) ∧ ∃ (wv : World) (t : Tk) (a : Option Addr) (cap : Nat), wv = wx ∧ Hid (fL w b wx ub kb t (p, q, r, s) a cap))
 case first =>
  by_cases hl0 : t0.lim = 0
  ·have hl' : (t0.lim == 0) = true := by simpa using hl0
   have HL0 := yz hl0
   clear hl0
   have cD := yz (gW ls 2 W6.heap.size 0 6 (W6.alloc jk) (by decide) (rY (uq W6)))
   have hdl := rG (L := ls) 2 (by decide)
   generalize fi ls 2 = t1 at *
   generalize gu ls 2 = c1 at *
   go_wp2_with fail
   refine (jH W6).mono ?_
   rintro e W7 ⟨rfl, rfl⟩
   go_wp2_with fail
   refine (yy cD).mono ?_
   rintro e W8 ⟨⟨a1, cap1, rfl, hC8⟩, hx⟩
   have hft1 := rA W8 a1 t1.L.length cap1 t1.lim t1.mode t1.A t1.B t1.C t1.D t1.coast t1.fr c1
   have HST8 := yz (((yy HST).below (an W6 jk)).below hx)
   have HC8 : Hid (aq W8 w.heap.size t1.L a1 cap1) := yz (World.ownsRow.mono hC8 (Nat.le_trans (yy HST).gr.size (an W6 jk).size))
   clear hC8 hx d1 cD hft
   obtain ⟨y0, y1, y2, y3, y4, y5, y6, y7, y8⟩ : W8.cell? ⟨kb, 0, none⟩ = some (.slice a0 t0.L.length cap0) ∧ W8.cell? ⟨kb, 1, none⟩ = some (.int .i64 t0.lim) ∧ W8.cell? ⟨kb, 2, none⟩ = some (.int .i64 t0.mode) ∧ W8.cell? ⟨kb, 3, none⟩ = some (.int .i64 t0.A) ∧ W8.cell? ⟨kb, 4, none⟩ = some (.int .i64 t0.B) ∧ W8.cell? ⟨kb, 5, none⟩ = some (.int .i64 t0.C) ∧ W8.cell? ⟨kb, 6, none⟩ = some (.int .i64 t0.D) ∧ W8.cell? ⟨kb, 7, none⟩ = some (.int .i64 t0.coast) ∧ W8.cell? ⟨kb, 8, none⟩ = some (.int .i64 t0.fr) := ⟨(yy HST8).trk.cell 0 _ rfl, (yy HST8).trk.cell 1 _ rfl, (yy HST8).trk.cell 2 _ rfl, (yy HST8).trk.cell 3 _ rfl, (yy HST8).trk.cell 4 _ rfl, (yy HST8).trk.cell 5 _ rfl, (yy HST8).trk.cell 6 _ rfl, (yy HST8).trk.cell 7 _ rfl, (yy HST8).trk.cell 8 _ rfl⟩
   obtain ⟨z0, z1, z2, z3, z4, z5, z6, z7, z8⟩ : W8.frozen? ⟨kb, 0, none⟩ = false ∧ W8.frozen? ⟨kb, 1, none⟩ = false ∧ W8.frozen? ⟨kb, 2, none⟩ = false ∧ W8.frozen? ⟨kb, 3, none⟩ = false ∧ W8.frozen? ⟨kb, 4, none⟩ = false ∧ W8.frozen? ⟨kb, 5, none⟩ = false ∧ W8.frozen? ⟨kb, 6, none⟩ = false ∧ W8.frozen? ⟨kb, 7, none⟩ = false ∧ W8.frozen? ⟨kb, 8, none⟩ = false := ⟨(yy HST8).trk.free 0, (yy HST8).trk.free 1, (yy HST8).trk.free 2, (yy HST8).trk.free 3, (yy HST8).trk.free 4, (yy HST8).trk.free 5, (yy HST8).trk.free 6, (yy HST8).trk.free 7, (yy HST8).trk.free 8⟩
   have HST9 := yz ((yy HST8).putK (t2 := t1) (eQ W8 kb (.slice a1 t1.L.length cap1) (.int .i64 t1.lim) (.int .i64 t1.mode) (.int .i64 t1.A) (.int .i64 t1.B) (.int .i64 t1.C) (.int .i64 t1.D) (.int .i64 t1.coast) (.int .i64 t1.fr)) (kO (yy HST8).trk (.slice a1 t1.L.length cap1) (.int .i64 t1.lim) (.int .i64 t1.mode) (.int .i64 t1.A) (.int .i64 t1.B) (.int .i64 t1.C) (.int .i64 t1.D) (.int .i64 t1.coast) (.int .i64 t1.fr)) (yy HC8) hdl)
   go_wp2_with fail
   go_meet
   exact ⟨rfl, _, t1, a1, cap1, rfl, HST9⟩
  ·have hl' : (t0.lim == 0) = false := by simpa using hl0
   go_wp2_with fail
   go_meet
   exact ⟨rfl, _, t0, a0, cap0, rfl, HST⟩
 case rest =>
 clear HST d1 hft
 obtain ⟨rfl, W9, t9, a9, cap9, hw9, HST⟩ := hcut
 subst hw9
 go_wp2_with fail
 refine (bp b 6 W9 (yy HST).src (by decide)).mono ?_
 rintro e W10 ⟨k0, rfl, hk0, hk6, _, hS10, hg10⟩
 replace hk6 := hk6 (by decide)
 obtain ⟨k1, rfl⟩ := Int.eq_ofNat_of_zero_le hk0
 have HST1 := yz ((yy HST).call hS10 hg10)
 clear hS10 hg10 HST hk0
 go_wp2_with fail
 go_loopw [6] (fun kv wr => ∃ (k : Nat) (t : Tk) (u : Int × Int × Int × Int) (a : Option Addr) (cap : Nat), kv = .int .i64 k ∧ k ≤ 5 ∧ Hid (fL w b wr ub kb t u a cap)) (fun kv _ => (intOf kv).toNat)
 case atStart => exact ⟨k1, t9, (p, q, r, s), a9, cap9, rfl, by omega, HST1⟩
 case round =>
  clear HST1 hk6
  obtain ⟨k, t, u, a, cap, rfl, hk5, HST⟩ := hrel
  by_cases hk : 0 < k
  ·have hk' : (0 : Int) < (k : Int) := by omega
   have hkr : kb < wr.heap.size := (yy HST).trk.lt
   go_upto_region 8 with fail
   go_cut [7] (fun pv wx => ∃ (wv : World) (yb : Nat) (t2 : Tk) (code : Int) (a2 : Option Addr) (cap2 : Nat), wv = wx ∧ pv = .pointer (some ⟨yb, 0, none⟩) ∧ Hid (YSt w b wx ub kb t u a cap yb t2 code a2 cap2))
   case first =>
    have HKS : Hid (∀ w' : World, wr.grownBy w' (some b) → (w'.cell? ⟨kb, 0, none⟩ = some (.slice a t.L.length cap) ∧ w'.cell? ⟨kb, 1, none⟩ = some (.int .i64 t.lim) ∧ w'.cell? ⟨kb, 2, none⟩ = some (.int .i64 t.mode) ∧ w'.cell? ⟨kb, 3, none⟩ = some (.int .i64 t.A) ∧ w'.cell? ⟨kb, 4, none⟩ = some (.int .i64 t.B) ∧ w'.cell? ⟨kb, 5, none⟩ = some (.int .i64 t.C) ∧ w'.cell? ⟨kb, 6, none⟩ = some (.int .i64 t.D) ∧ w'.cell? ⟨kb, 7, none⟩ = some (.int .i64 t.coast) ∧ w'.cell? ⟨kb, 8, none⟩ = some (.int .i64 t.fr)) ∧ w'.cell? ⟨ub, 0, none⟩ = some (.int .i64 u.1) ∧ w'.cell? ⟨ub, 1, none⟩ = some (.int .i64 u.2.1) ∧ w'.cell? ⟨ub, 2, none⟩ = some (.int .i64 u.2.2.1) ∧ w'.cell? ⟨ub, 3, none⟩ = some (.int .i64 u.2.2.2)) := yz (fun w' h => by
     have h1 := (yy HST).lb
     have h2 := (yy HST).u1
     have h3 := (yy HST).k1
     have hk := ax (yy HST).trk h (fun e => by have := Option.some.inj e; omega)
     have hu := ax (yy HST).tur h (fun e => by have := Option.some.inj e; omega)
     exact ⟨⟨hk.cell 0 _ rfl, hk.cell 1 _ rfl, hk.cell 2 _ rfl, hk.cell 3 _ rfl, hk.cell 4 _ rfl, hk.cell 5 _ rfl, hk.cell 6 _ rfl, hk.cell 7 _ rfl, hk.cell 8 _ rfl⟩, hu.cell 0 _ rfl, hu.cell 1 _ rfl, hu.cell 2 _ rfl, hu.cell 3 _ rfl⟩)
    refine wp_region_held_drew (S := (fun w' => (w'.cell? ⟨kb, 0, none⟩ = some (.slice a t.L.length cap) ∧ w'.cell? ⟨kb, 1, none⟩ = some (.int .i64 t.lim) ∧ w'.cell? ⟨kb, 2, none⟩ = some (.int .i64 t.mode) ∧ w'.cell? ⟨kb, 3, none⟩ = some (.int .i64 t.A) ∧ w'.cell? ⟨kb, 4, none⟩ = some (.int .i64 t.B) ∧ w'.cell? ⟨kb, 5, none⟩ = some (.int .i64 t.C) ∧ w'.cell? ⟨kb, 6, none⟩ = some (.int .i64 t.D) ∧ w'.cell? ⟨kb, 7, none⟩ = some (.int .i64 t.coast) ∧ w'.cell? ⟨kb, 8, none⟩ = some (.int .i64 t.fr)) ∧ w'.cell? ⟨ub, 0, none⟩ = some (.int .i64 u.1) ∧ w'.cell? ⟨ub, 1, none⟩ = some (.int .i64 u.2.1) ∧ w'.cell? ⟨ub, 2, none⟩ = some (.int .i64 u.2.2.1) ∧ w'.cell? ⟨ub, 3, none⟩ = some (.int .i64 u.2.2.2))) (by kernel_rfl) (yy HKS wr.drew (aX (Below.refl wr.heap.size wr).drew (some b))) (fun hHeld => ?_)
    refine ab 0 rfl ?_
    try simp only [Act.put, ag, ah, ai]
    refine ab 1 rfl ?_
    try simp only [Act.put, ag, ah, ai]
    refine ab 2 rfl ?_
    try simp only [Act.put, ag, ah, ai]
    refine ab 3 rfl ?_
    try simp only [Act.put, ag, ah, ai]
    refine ab 4 rfl ?_
    try simp only [Act.put, ag, ah, ai]
    have HG : Hid (wr.grownBy wr.drew (some b)) := yz (aX (Below.refl wr.heap.size wr).drew (some b))
    have HT := yz ((yy HST).below (Below.refl wr.heap.size wr).drew)
    obtain ⟨V0, HYY⟩ : ∃ YY, YY = wr.drew := ⟨_, rfl⟩
    rw [← HYY] at HG HT hHeld ⊢
    clear HYY
    refine af 5 7 rfl (fun K hK => ?_) rfl fun K hK => ?_
    ·skip
     go_simp
     refine (gl b V0 t.L a cap u.1 u.2.1 u.2.2.1 u.2.2.2 (yy HT).src (yy HT).len (yy HT).sky.stars (fun x e => by have h1 := (bf (yy HT).sky x e).1; have h2 := (yy HT).lb; omega)).mono ?_
     rintro e V1 ⟨S, sa, sc, rfl, hS7, hlp⟩
     replace HT := yz ((yy HT).call hlp.src hlp.gr)
     replace HG := yz (ak (yy HG) hlp.gr)
     have HSP := yz hlp.row
     clear hlp
     refine hK.out _ _ (yy HKS _ (yy HG)) (fun hHeld2 => ?_)
     clear hK K hHeld
     have hHeld := hHeld2
     clear hHeld2
     refine af 6 7 rfl (fun K hK => ?_) rfl fun K hK => ?_
     ·skip
      go_simp
      have hdd := eL (yy HSP)
      refine (et t.L S t.lim t.mode t.A t.B t.C t.D t.coast t.fr a cap sa sc V1 (Nat.le_trans (yy HT).len (by decide)) (by omega) (yy HT).sky.stars hdd.1 (fun x e => (bf (yy HT).sky x e).2) (fun x e => (bf (yy HSP) x e).2) hdd.2.1 (by omega)).mono ?_
      rintro e V2 ⟨⟨a2, cap2, rfl, hC2⟩, hx⟩
      have HC2 : Hid (aq V2 w.heap.size (bd t S).L a2 cap2) := yz (World.ownsRow.mono hC2 (yy HT).gr.size)
      replace HT := yz ((yy HT).below hx)
      replace HG := yz (ak (yy HG) (aX hx (some b)))
      have hl2 := ju S (yy HT).len
      have hte : bd ⟨t.L, t.lim, t.mode, t.A, t.B, t.C, t.D, t.coast, t.fr⟩ S = bd t S := rfl
      rw [hte]
      clear hx hC2 hdd HSP hte
      generalize bd t S = t2 at *
      generalize dP ⟨t.L, t.lim, t.mode, t.A, t.B, t.C, t.D, t.coast, t.fr⟩ S = code
      refine hK.out _ _ (yy HKS _ (yy HG)) (fun hHeld2 => ?_)
      clear hK K hHeld
      have hHeld := hHeld2
      clear hHeld2
      refine ae 7 rfl fun K hK => ?_
      go_simp
      have hy := an V2 (.cells #[.slice none 0 0, .int .i64 0, .int .i64 0, .int .i64 0, .int .i64 0, .int .i64 0, .int .i64 0, .int .i64 0, .int .i64 0, .int .i64 0] 32)
      have HY := yz (aD V2 [.slice none 0 0, .int .i64 0, .int .i64 0, .int .i64 0, .int .i64 0, .int .i64 0, .int .i64 0, .int .i64 0, .int .i64 0, .int .i64 0] 32)
      have hky : kb < V2.heap.size := (yy HT).trk.lt
      have hyr : wr.heap.size ≤ V2.heap.size := (yy HG).size
      replace HC2 := yz ((yy HC2).kept hy)
      replace HT := yz ((yy HT).below hy)
      replace HG := yz (ak (yy HG) (aX hy (some b)))
      clear hy
      generalize V2.alloc (.cells #[.slice none 0 0, .int .i64 0, .int .i64 0, .int .i64 0, .int .i64 0, .int .i64 0, .int .i64 0, .int .i64 0, .int .i64 0, .int .i64 0] 32) = V3 at *
      generalize V2.heap.size = yb at *
      refine hK.out _ _ (yy HKS _ (yy HG)) (fun hHeld2 => ?_)
      clear hK K hHeld
      have hHeld := hHeld2
      clear hHeld2
      refine ae 8 rfl fun K hK => ?_
      obtain ⟨y0, y1, y2, y3, y4, y5, y6, y7, y8, y9⟩ : V3.cell? ⟨yb, 0, none⟩ = some (.slice none 0 0) ∧ V3.cell? ⟨yb, 1, none⟩ = some (.int .i64 0) ∧ V3.cell? ⟨yb, 2, none⟩ = some (.int .i64 0) ∧ V3.cell? ⟨yb, 3, none⟩ = some (.int .i64 0) ∧ V3.cell? ⟨yb, 4, none⟩ = some (.int .i64 0) ∧ V3.cell? ⟨yb, 5, none⟩ = some (.int .i64 0) ∧ V3.cell? ⟨yb, 6, none⟩ = some (.int .i64 0) ∧ V3.cell? ⟨yb, 7, none⟩ = some (.int .i64 0) ∧ V3.cell? ⟨yb, 8, none⟩ = some (.int .i64 0) ∧ V3.cell? ⟨yb, 9, none⟩ = some (.int .i64 0) := ⟨(yy HY).cell 0 _ rfl, (yy HY).cell 1 _ rfl, (yy HY).cell 2 _ rfl, (yy HY).cell 3 _ rfl, (yy HY).cell 4 _ rfl, (yy HY).cell 5 _ rfl, (yy HY).cell 6 _ rfl, (yy HY).cell 7 _ rfl, (yy HY).cell 8 _ rfl, (yy HY).cell 9 _ rfl⟩
      obtain ⟨z0, z1, z2, z3, z4, z5, z6, z7, z8, z9⟩ : V3.frozen? ⟨yb, 0, none⟩ = false ∧ V3.frozen? ⟨yb, 1, none⟩ = false ∧ V3.frozen? ⟨yb, 2, none⟩ = false ∧ V3.frozen? ⟨yb, 3, none⟩ = false ∧ V3.frozen? ⟨yb, 4, none⟩ = false ∧ V3.frozen? ⟨yb, 5, none⟩ = false ∧ V3.frozen? ⟨yb, 6, none⟩ = false ∧ V3.frozen? ⟨yb, 7, none⟩ = false ∧ V3.frozen? ⟨yb, 8, none⟩ = false ∧ V3.frozen? ⟨yb, 9, none⟩ = false := ⟨(yy HY).free 0, (yy HY).free 1, (yy HY).free 2, (yy HY).free 3, (yy HY).free 4, (yy HY).free 5, (yy HY).free 6, (yy HY).free 7, (yy HY).free 8, (yy HY).free 9⟩
      go_simp
      have hg10 := jo V3 yb (.slice a2 t2.L.length cap2) (.int .i64 t2.lim) (.int .i64 t2.mode) (.int .i64 t2.A) (.int .i64 t2.B) (.int .i64 t2.C) (.int .i64 t2.D) (.int .i64 t2.coast) (.int .i64 t2.fr) (.int .i64 code)
      have HYS : Hid (YSt w b _ ub kb t u a cap yb t2 code a2 cap2) := yz ⟨(yy HT).far hg10 hky (bl (yy HT).sky (yy HY) (by decide)), po (yy HY) (.slice a2 t2.L.length cap2) (.int .i64 t2.lim) (.int .i64 t2.mode) (.int .i64 t2.A) (.int .i64 t2.B) (.int .i64 t2.C) (.int .i64 t2.D) (.int .i64 t2.coast) (.int .i64 t2.fr) (.int .i64 code), World.ownsRow.kept (yy HC2) hg10 (bl (yy HC2) (yy HY) (by decide)), hky, hl2⟩
      have HG2 : Hid (wr.grownBy _ (some b)) := yz (bL (yy HG) hg10 (fun c e => by have h1 := Option.some.inj e; omega))
      refine hK.out _ _ (yy HKS _ (yy HG2)) (fun hHeld2 => ?_)
      clear hK K hHeld y0 y1 y2 y3 y4 y5 y6 y7 y8 y9 z0 z1 z2 z3 z4 z5 z6 z7 z8 z9 hg10
      refine wpAnyH_done (by kernel_rfl) ?_ _
      clear hHeld2
      go_wp2_with fail
      go_meet
      exact ⟨_, yb, t2, code, a2, cap2, rfl, rfl, HYS⟩
     ·skip
      go_simp
      have hy := an V1 (.cells #[.slice none 0 0, .int .i64 0, .int .i64 0, .int .i64 0, .int .i64 0, .int .i64 0, .int .i64 0, .int .i64 0, .int .i64 0, .int .i64 0] 32)
      have HY := yz (aD V1 [.slice none 0 0, .int .i64 0, .int .i64 0, .int .i64 0, .int .i64 0, .int .i64 0, .int .i64 0, .int .i64 0, .int .i64 0, .int .i64 0] 32)
      have hky : kb < V1.heap.size := (yy HT).trk.lt
      have hyr : wr.heap.size ≤ V1.heap.size := (yy HG).size
      replace HSP := yz (bA (yy HSP) hy)
      replace HT := yz ((yy HT).below hy)
      replace HG := yz (ak (yy HG) (aX hy (some b)))
      clear hy
      generalize V1.alloc (.cells #[.slice none 0 0, .int .i64 0, .int .i64 0, .int .i64 0, .int .i64 0, .int .i64 0, .int .i64 0, .int .i64 0, .int .i64 0, .int .i64 0] 32) = V5 at *
      generalize V1.heap.size = yb at *
      refine hK.out _ _ (yy HKS _ (yy HG)) (fun hHeld2 => ?_)
      clear hK K hHeld
      have hHeld := hHeld2
      clear hHeld2
      refine ae 6 rfl fun K hK => ?_
      go_simp
      have hdd := eL (yy HSP)
      refine (et t.L S t.lim t.mode t.A t.B t.C t.D t.coast t.fr a cap sa sc V5 (Nat.le_trans (yy HT).len (by decide)) (by omega) (yy HT).sky.stars hdd.1 (fun x e => (bf (yy HT).sky x e).2) (fun x e => (bf (yy HSP) x e).2) hdd.2.1 (by omega)).mono ?_
      rintro e V6 ⟨⟨a2, cap2, rfl, hC2⟩, hx⟩
      have HC2 : Hid (aq V6 w.heap.size (bd t S).L a2 cap2) := yz (World.ownsRow.mono hC2 (yy HT).gr.size)
      replace HT := yz ((yy HT).below hx)
      replace HG := yz (ak (yy HG) (aX hx (some b)))
      replace HY := yz ((yy HY).kept hx)
      have hl2 := ju S (yy HT).len
      have hte : bd ⟨t.L, t.lim, t.mode, t.A, t.B, t.C, t.D, t.coast, t.fr⟩ S = bd t S := rfl
      rw [hte]
      clear hx hC2 hdd HSP hte
      generalize bd t S = t2 at *
      generalize dP ⟨t.L, t.lim, t.mode, t.A, t.B, t.C, t.D, t.coast, t.fr⟩ S = code
      refine hK.out _ _ (yy HKS _ (yy HG)) (fun hHeld2 => ?_)
      clear hK K hHeld
      have hHeld := hHeld2
      clear hHeld2
      refine ae 8 rfl fun K hK => ?_
      obtain ⟨y0, y1, y2, y3, y4, y5, y6, y7, y8, y9⟩ : V6.cell? ⟨yb, 0, none⟩ = some (.slice none 0 0) ∧ V6.cell? ⟨yb, 1, none⟩ = some (.int .i64 0) ∧ V6.cell? ⟨yb, 2, none⟩ = some (.int .i64 0) ∧ V6.cell? ⟨yb, 3, none⟩ = some (.int .i64 0) ∧ V6.cell? ⟨yb, 4, none⟩ = some (.int .i64 0) ∧ V6.cell? ⟨yb, 5, none⟩ = some (.int .i64 0) ∧ V6.cell? ⟨yb, 6, none⟩ = some (.int .i64 0) ∧ V6.cell? ⟨yb, 7, none⟩ = some (.int .i64 0) ∧ V6.cell? ⟨yb, 8, none⟩ = some (.int .i64 0) ∧ V6.cell? ⟨yb, 9, none⟩ = some (.int .i64 0) := ⟨(yy HY).cell 0 _ rfl, (yy HY).cell 1 _ rfl, (yy HY).cell 2 _ rfl, (yy HY).cell 3 _ rfl, (yy HY).cell 4 _ rfl, (yy HY).cell 5 _ rfl, (yy HY).cell 6 _ rfl, (yy HY).cell 7 _ rfl, (yy HY).cell 8 _ rfl, (yy HY).cell 9 _ rfl⟩
      obtain ⟨z0, z1, z2, z3, z4, z5, z6, z7, z8, z9⟩ : V6.frozen? ⟨yb, 0, none⟩ = false ∧ V6.frozen? ⟨yb, 1, none⟩ = false ∧ V6.frozen? ⟨yb, 2, none⟩ = false ∧ V6.frozen? ⟨yb, 3, none⟩ = false ∧ V6.frozen? ⟨yb, 4, none⟩ = false ∧ V6.frozen? ⟨yb, 5, none⟩ = false ∧ V6.frozen? ⟨yb, 6, none⟩ = false ∧ V6.frozen? ⟨yb, 7, none⟩ = false ∧ V6.frozen? ⟨yb, 8, none⟩ = false ∧ V6.frozen? ⟨yb, 9, none⟩ = false := ⟨(yy HY).free 0, (yy HY).free 1, (yy HY).free 2, (yy HY).free 3, (yy HY).free 4, (yy HY).free 5, (yy HY).free 6, (yy HY).free 7, (yy HY).free 8, (yy HY).free 9⟩
      go_simp
      have hg10 := jo V6 yb (.slice a2 t2.L.length cap2) (.int .i64 t2.lim) (.int .i64 t2.mode) (.int .i64 t2.A) (.int .i64 t2.B) (.int .i64 t2.C) (.int .i64 t2.D) (.int .i64 t2.coast) (.int .i64 t2.fr) (.int .i64 code)
      have HYS : Hid (YSt w b _ ub kb t u a cap yb t2 code a2 cap2) := yz ⟨(yy HT).far hg10 hky (bl (yy HT).sky (yy HY) (by decide)), po (yy HY) (.slice a2 t2.L.length cap2) (.int .i64 t2.lim) (.int .i64 t2.mode) (.int .i64 t2.A) (.int .i64 t2.B) (.int .i64 t2.C) (.int .i64 t2.D) (.int .i64 t2.coast) (.int .i64 t2.fr) (.int .i64 code), World.ownsRow.kept (yy HC2) hg10 (bl (yy HC2) (yy HY) (by decide)), hky, hl2⟩
      have HG2 : Hid (wr.grownBy _ (some b)) := yz (bL (yy HG) hg10 (fun c e => by have h1 := Option.some.inj e; omega))
      refine hK.out _ _ (yy HKS _ (yy HG2)) (fun hHeld2 => ?_)
      clear hK K hHeld y0 y1 y2 y3 y4 y5 y6 y7 y8 y9 z0 z1 z2 z3 z4 z5 z6 z7 z8 z9 hg10
      refine wpAnyH_done (by kernel_rfl) ?_ _
      clear hHeld2
      go_wp2_with fail
      go_meet
      exact ⟨_, yb, t2, code, a2, cap2, rfl, rfl, HYS⟩
    ·skip
     go_simp
     have hy := an V0 (.cells #[.slice none 0 0, .int .i64 0, .int .i64 0, .int .i64 0, .int .i64 0, .int .i64 0, .int .i64 0, .int .i64 0, .int .i64 0, .int .i64 0] 32)
     have HY := yz (aD V0 [.slice none 0 0, .int .i64 0, .int .i64 0, .int .i64 0, .int .i64 0, .int .i64 0, .int .i64 0, .int .i64 0, .int .i64 0, .int .i64 0] 32)
     have hky : kb < V0.heap.size := (yy HT).trk.lt
     have hyr : wr.heap.size ≤ V0.heap.size := (yy HG).size
     replace HT := yz ((yy HT).below hy)
     replace HG := yz (ak (yy HG) (aX hy (some b)))
     clear hy
     generalize V0.alloc (.cells #[.slice none 0 0, .int .i64 0, .int .i64 0, .int .i64 0, .int .i64 0, .int .i64 0, .int .i64 0, .int .i64 0, .int .i64 0, .int .i64 0] 32) = V8 at *
     generalize V0.heap.size = yb at *
     refine hK.out _ _ (yy HKS _ (yy HG)) (fun hHeld2 => ?_)
     clear hK K hHeld
     have hHeld := hHeld2
     clear hHeld2
     refine ae 5 rfl fun K hK => ?_
     go_simp
     refine (gl b V8 t.L a cap u.1 u.2.1 u.2.2.1 u.2.2.2 (yy HT).src (yy HT).len (yy HT).sky.stars (fun x e => by have h1 := (bf (yy HT).sky x e).1; have h2 := (yy HT).lb; omega)).mono ?_
     rintro e V9 ⟨S, sa, sc, rfl, hS7, hlp⟩
     replace HT := yz ((yy HT).call hlp.src hlp.gr)
     replace HG := yz (ak (yy HG) hlp.gr)
     have HSP := yz hlp.row
     replace HY := yz (ax (yy HY) hlp.gr (fun e => by have h1 := Option.some.inj e; have h2 := (yy HT).lb; have h3 := (yy HT).u1; have h4 := (yy HT).k1; omega))
     clear hlp
     refine hK.out _ _ (yy HKS _ (yy HG)) (fun hHeld2 => ?_)
     clear hK K hHeld
     have hHeld := hHeld2
     clear hHeld2
     refine ae 6 rfl fun K hK => ?_
     go_simp
     have hdd := eL (yy HSP)
     refine (et t.L S t.lim t.mode t.A t.B t.C t.D t.coast t.fr a cap sa sc V9 (Nat.le_trans (yy HT).len (by decide)) (by omega) (yy HT).sky.stars hdd.1 (fun x e => (bf (yy HT).sky x e).2) (fun x e => (bf (yy HSP) x e).2) hdd.2.1 (by omega)).mono ?_
     rintro e V10 ⟨⟨a2, cap2, rfl, hC2⟩, hx⟩
     have HC2 : Hid (aq V10 w.heap.size (bd t S).L a2 cap2) := yz (World.ownsRow.mono hC2 (yy HT).gr.size)
     replace HT := yz ((yy HT).below hx)
     replace HG := yz (ak (yy HG) (aX hx (some b)))
     replace HY := yz ((yy HY).kept hx)
     have hl2 := ju S (yy HT).len
     have hte : bd ⟨t.L, t.lim, t.mode, t.A, t.B, t.C, t.D, t.coast, t.fr⟩ S = bd t S := rfl
     rw [hte]
     clear hx hC2 hdd HSP hte
     generalize bd t S = t2 at *
     generalize dP ⟨t.L, t.lim, t.mode, t.A, t.B, t.C, t.D, t.coast, t.fr⟩ S = code
     refine hK.out _ _ (yy HKS _ (yy HG)) (fun hHeld2 => ?_)
     clear hK K hHeld
     have hHeld := hHeld2
     clear hHeld2
     refine ae 8 rfl fun K hK => ?_
     obtain ⟨y0, y1, y2, y3, y4, y5, y6, y7, y8, y9⟩ : V10.cell? ⟨yb, 0, none⟩ = some (.slice none 0 0) ∧ V10.cell? ⟨yb, 1, none⟩ = some (.int .i64 0) ∧ V10.cell? ⟨yb, 2, none⟩ = some (.int .i64 0) ∧ V10.cell? ⟨yb, 3, none⟩ = some (.int .i64 0) ∧ V10.cell? ⟨yb, 4, none⟩ = some (.int .i64 0) ∧ V10.cell? ⟨yb, 5, none⟩ = some (.int .i64 0) ∧ V10.cell? ⟨yb, 6, none⟩ = some (.int .i64 0) ∧ V10.cell? ⟨yb, 7, none⟩ = some (.int .i64 0) ∧ V10.cell? ⟨yb, 8, none⟩ = some (.int .i64 0) ∧ V10.cell? ⟨yb, 9, none⟩ = some (.int .i64 0) := ⟨(yy HY).cell 0 _ rfl, (yy HY).cell 1 _ rfl, (yy HY).cell 2 _ rfl, (yy HY).cell 3 _ rfl, (yy HY).cell 4 _ rfl, (yy HY).cell 5 _ rfl, (yy HY).cell 6 _ rfl, (yy HY).cell 7 _ rfl, (yy HY).cell 8 _ rfl, (yy HY).cell 9 _ rfl⟩
     obtain ⟨z0, z1, z2, z3, z4, z5, z6, z7, z8, z9⟩ : V10.frozen? ⟨yb, 0, none⟩ = false ∧ V10.frozen? ⟨yb, 1, none⟩ = false ∧ V10.frozen? ⟨yb, 2, none⟩ = false ∧ V10.frozen? ⟨yb, 3, none⟩ = false ∧ V10.frozen? ⟨yb, 4, none⟩ = false ∧ V10.frozen? ⟨yb, 5, none⟩ = false ∧ V10.frozen? ⟨yb, 6, none⟩ = false ∧ V10.frozen? ⟨yb, 7, none⟩ = false ∧ V10.frozen? ⟨yb, 8, none⟩ = false ∧ V10.frozen? ⟨yb, 9, none⟩ = false := ⟨(yy HY).free 0, (yy HY).free 1, (yy HY).free 2, (yy HY).free 3, (yy HY).free 4, (yy HY).free 5, (yy HY).free 6, (yy HY).free 7, (yy HY).free 8, (yy HY).free 9⟩
     go_simp
     have hg10 := jo V10 yb (.slice a2 t2.L.length cap2) (.int .i64 t2.lim) (.int .i64 t2.mode) (.int .i64 t2.A) (.int .i64 t2.B) (.int .i64 t2.C) (.int .i64 t2.D) (.int .i64 t2.coast) (.int .i64 t2.fr) (.int .i64 code)
     have HYS : Hid (YSt w b _ ub kb t u a cap yb t2 code a2 cap2) := yz ⟨(yy HT).far hg10 hky (bl (yy HT).sky (yy HY) (by decide)), po (yy HY) (.slice a2 t2.L.length cap2) (.int .i64 t2.lim) (.int .i64 t2.mode) (.int .i64 t2.A) (.int .i64 t2.B) (.int .i64 t2.C) (.int .i64 t2.D) (.int .i64 t2.coast) (.int .i64 t2.fr) (.int .i64 code), World.ownsRow.kept (yy HC2) hg10 (bl (yy HC2) (yy HY) (by decide)), hky, hl2⟩
     have HG2 : Hid (wr.grownBy _ (some b)) := yz (bL (yy HG) hg10 (fun c e => by have h1 := Option.some.inj e; omega))
     refine hK.out _ _ (yy HKS _ (yy HG2)) (fun hHeld2 => ?_)
     clear hK K hHeld y0 y1 y2 y3 y4 y5 y6 y7 y8 y9 z0 z1 z2 z3 z4 z5 z6 z7 z8 z9 hg10
     refine wpAnyH_done (by kernel_rfl) ?_ _
     clear hHeld2
     go_wp2_with fail
     go_meet
     exact ⟨_, yb, t2, code, a2, cap2, rfl, rfl, HYS⟩
   case rest =>
   clear HST hkr
   obtain ⟨W11, yb, t2, code, a2, cap2, hw11, rfl, HY⟩ := hcut
   subst hw11
   go_wp2_with fail
   refine (bp b 4 W11 (yy HY).st.src (by decide)).mono ?_
   rintro e W12 ⟨j, rfl, hj0, hj4, _, hS12, hg12⟩
   replace hj4 := hj4 (by decide)
   have HY2 := yz ((yy HY).call hS12 hg12)
   clear hS12 hg12 HY
   rcases (by omega : j = 0 ∨ j = 1 ∨ (j ≠ 0 ∧ j ≠ 1)) with rfl | rfl | ⟨hja, hjb⟩
   ·go_wp2_with fail
    refine (fA b W12 (yy HY2).st.src).mono ?_
    rintro e W13 ⟨g1, g2, g3, g4, rfl, hS13, hg13⟩
    have HY3 := yz ((yy HY2).call hS13 hg13)
    have hy := an W13 (.cells #[.int .i64 g1, .int .i64 g2, .int .i64 g3, .int .i64 g4] 25)
    have HGB := yz (aD W13 [.int .i64 g1, .int .i64 g2, .int .i64 g3, .int .i64 g4] 25)
    have HY4 := yz ((yy HY3).below hy)
    have hyg : yb < W13.heap.size := (yy HY3).y.lt
    clear hS13 hg13 HY2 HY3 hy
    go_upto_region 12 with fail
    generalize W13.alloc (.cells #[.int .i64 g1, .int .i64 g2, .int .i64 g3, .int .i64 g4] 25) = W14 at *
    generalize W13.heap.size = gb at *
    obtain ⟨x0, x1, x2, x3, x4, x5, x6, x7, x8⟩ : W14.cell? ⟨kb, 0, none⟩ = some (.slice a t.L.length cap) ∧ W14.cell? ⟨kb, 1, none⟩ = some (.int .i64 t.lim) ∧ W14.cell? ⟨kb, 2, none⟩ = some (.int .i64 t.mode) ∧ W14.cell? ⟨kb, 3, none⟩ = some (.int .i64 t.A) ∧ W14.cell? ⟨kb, 4, none⟩ = some (.int .i64 t.B) ∧ W14.cell? ⟨kb, 5, none⟩ = some (.int .i64 t.C) ∧ W14.cell? ⟨kb, 6, none⟩ = some (.int .i64 t.D) ∧ W14.cell? ⟨kb, 7, none⟩ = some (.int .i64 t.coast) ∧ W14.cell? ⟨kb, 8, none⟩ = some (.int .i64 t.fr) := ⟨(yy HY4).st.trk.cell 0 _ rfl, (yy HY4).st.trk.cell 1 _ rfl, (yy HY4).st.trk.cell 2 _ rfl, (yy HY4).st.trk.cell 3 _ rfl, (yy HY4).st.trk.cell 4 _ rfl, (yy HY4).st.trk.cell 5 _ rfl, (yy HY4).st.trk.cell 6 _ rfl, (yy HY4).st.trk.cell 7 _ rfl, (yy HY4).st.trk.cell 8 _ rfl⟩
    obtain ⟨q0, q1, q2, q3⟩ : W14.cell? ⟨gb, 0, none⟩ = some (.int .i64 g1) ∧ W14.cell? ⟨gb, 1, none⟩ = some (.int .i64 g2) ∧ W14.cell? ⟨gb, 2, none⟩ = some (.int .i64 g3) ∧ W14.cell? ⟨gb, 3, none⟩ = some (.int .i64 g4) := ⟨(yy HGB).cell 0 _ rfl, (yy HGB).cell 1 _ rfl, (yy HGB).cell 2 _ rfl, (yy HGB).cell 3 _ rfl⟩
    go_wp2_with fail
    refine (jI t.L t.lim t.mode t.A t.B t.C t.D t.coast t.fr g1 g2 g3 g4 a cap W14 (Nat.le_trans (yy HY4).st.len (by decide)) (yy HY4).st.sky.stars).mono ?_
    rintro e W15 ⟨⟨a3, cap3, rfl, hC3⟩, hx⟩
    have hte : ed ⟨t.L, t.lim, t.mode, t.A, t.B, t.C, t.D, t.coast, t.fr⟩ g1 g2 g3 g4 = ed t g1 g2 g3 g4 := rfl
    have hl3 := pH g1 g2 g3 g4 (yy HY4).st.len
    rw [hte] at hC3 ⊢
    have HC3 := yz (World.ownsRow.mono hC3 (yy HY4).st.gr.size)
    have HY5 := yz ((yy HY4).below hx)
    have HGB5 := yz ((yy HGB).kept hx)
    clear hte hx hC3 HY4 HGB x0 x1 x2 x3 x4 x5 x6 x7 x8 q0 q1 q2 q3
    generalize ed t g1 g2 g3 g4 = t3 at *
    generalize fx ⟨t.L, t.lim, t.mode, t.A, t.B, t.C, t.D, t.coast, t.fr⟩ g1 g2 g3 g4 = code3 at *
    obtain ⟨y0, y1, y2, y3, y4, y5, y6, y7, y8, y9⟩ : W15.cell? ⟨yb, 0, none⟩ = some (.slice a2 t2.L.length cap2) ∧ W15.cell? ⟨yb, 1, none⟩ = some (.int .i64 t2.lim) ∧ W15.cell? ⟨yb, 2, none⟩ = some (.int .i64 t2.mode) ∧ W15.cell? ⟨yb, 3, none⟩ = some (.int .i64 t2.A) ∧ W15.cell? ⟨yb, 4, none⟩ = some (.int .i64 t2.B) ∧ W15.cell? ⟨yb, 5, none⟩ = some (.int .i64 t2.C) ∧ W15.cell? ⟨yb, 6, none⟩ = some (.int .i64 t2.D) ∧ W15.cell? ⟨yb, 7, none⟩ = some (.int .i64 t2.coast) ∧ W15.cell? ⟨yb, 8, none⟩ = some (.int .i64 t2.fr) ∧ W15.cell? ⟨yb, 9, none⟩ = some (.int .i64 code) := ⟨(yy HY5).y.cell 0 _ rfl, (yy HY5).y.cell 1 _ rfl, (yy HY5).y.cell 2 _ rfl, (yy HY5).y.cell 3 _ rfl, (yy HY5).y.cell 4 _ rfl, (yy HY5).y.cell 5 _ rfl, (yy HY5).y.cell 6 _ rfl, (yy HY5).y.cell 7 _ rfl, (yy HY5).y.cell 8 _ rfl, (yy HY5).y.cell 9 _ rfl⟩
    obtain ⟨z0, z1, z2, z3, z4, z5, z6, z7, z8, z9⟩ : W15.frozen? ⟨yb, 0, none⟩ = false ∧ W15.frozen? ⟨yb, 1, none⟩ = false ∧ W15.frozen? ⟨yb, 2, none⟩ = false ∧ W15.frozen? ⟨yb, 3, none⟩ = false ∧ W15.frozen? ⟨yb, 4, none⟩ = false ∧ W15.frozen? ⟨yb, 5, none⟩ = false ∧ W15.frozen? ⟨yb, 6, none⟩ = false ∧ W15.frozen? ⟨yb, 7, none⟩ = false ∧ W15.frozen? ⟨yb, 8, none⟩ = false ∧ W15.frozen? ⟨yb, 9, none⟩ = false := ⟨(yy HY5).y.free 0, (yy HY5).y.free 1, (yy HY5).y.free 2, (yy HY5).y.free 3, (yy HY5).y.free 4, (yy HY5).y.free 5, (yy HY5).y.free 6, (yy HY5).y.free 7, (yy HY5).y.free 8, (yy HY5).y.free 9⟩
    have hg10 := jo W15 yb (.slice a3 t3.L.length cap3) (.int .i64 t3.lim) (.int .i64 t3.mode) (.int .i64 t3.A) (.int .i64 t3.B) (.int .i64 t3.C) (.int .i64 t3.D) (.int .i64 t3.coast) (.int .i64 t3.fr) (.int .i64 code3)
    have HY6 := yz ((yy HY5).putY (t3 := t3) (code3 := code3) hg10 (po (yy HY5).y (.slice a3 t3.L.length cap3) (.int .i64 t3.lim) (.int .i64 t3.mode) (.int .i64 t3.A) (.int .i64 t3.B) (.int .i64 t3.C) (.int .i64 t3.D) (.int .i64 t3.coast) (.int .i64 t3.fr) (.int .i64 code3)) (yy HC3) hl3)
    have HGB6 := yz (ax (yy HGB5) hg10 (fun e => by have h1 := Option.some.inj e; omega))
    go_upto_region 13 with fail
    clear hg10 HY5 HC3 HGB5 y0 y1 y2 y3 y4 y5 y6 y7 y8 y9 z0 z1 z2 z3 z4 z5 z6 z7 z8 z9
    generalize ((((((((((W15.setCell ⟨yb, 0, none⟩ (.slice a3 t3.L.length cap3)).setCell ⟨yb, 1, none⟩ (.int .i64 t3.lim)).setCell ⟨yb, 2, none⟩ (.int .i64 t3.mode)).setCell ⟨yb, 3, none⟩ (.int .i64 t3.A)).setCell ⟨yb, 4, none⟩ (.int .i64 t3.B)).setCell ⟨yb, 5, none⟩ (.int .i64 t3.C)).setCell ⟨yb, 6, none⟩ (.int .i64 t3.D)).setCell ⟨yb, 7, none⟩ (.int .i64 t3.coast)).setCell ⟨yb, 8, none⟩ (.int .i64 t3.fr)).setCell ⟨yb, 9, none⟩ (.int .i64 code3)) = W16 at *
    obtain ⟨q0, q1, q2, q3⟩ : W16.cell? ⟨gb, 0, none⟩ = some (.int .i64 g1) ∧ W16.cell? ⟨gb, 1, none⟩ = some (.int .i64 g2) ∧ W16.cell? ⟨gb, 2, none⟩ = some (.int .i64 g3) ∧ W16.cell? ⟨gb, 3, none⟩ = some (.int .i64 g4) := ⟨(yy HGB6).cell 0 _ rfl, (yy HGB6).cell 1 _ rfl, (yy HGB6).cell 2 _ rfl, (yy HGB6).cell 3 _ rfl⟩
    obtain ⟨p0, p1, p2, p3⟩ : W16.cell? ⟨ub, 0, none⟩ = some (.int .i64 u.1) ∧ W16.cell? ⟨ub, 1, none⟩ = some (.int .i64 u.2.1) ∧ W16.cell? ⟨ub, 2, none⟩ = some (.int .i64 u.2.2.1) ∧ W16.cell? ⟨ub, 3, none⟩ = some (.int .i64 u.2.2.2) := ⟨(yy HY6).st.tur.cell 0 _ rfl, (yy HY6).st.tur.cell 1 _ rfl, (yy HY6).st.tur.cell 2 _ rfl, (yy HY6).st.tur.cell 3 _ rfl⟩
    obtain ⟨m0, m1, m2, m3, m4, cM⟩ : ∃ m0 m1 m2 m3 m4 : Int, Hid (∀ W : World, Calls Tryz.prog 21 #[.agg #[.int .i64 g1, .int .i64 g2, .int .i64 g3, .int .i64 g4], .agg #[.int .i64 u.1, .int .i64 u.2.1, .int .i64 u.2.2.1, .int .i64 u.2.2.2]] W fun e w' => e = .returned (.agg #[.int .i64 m0, .int .i64 m1, .int .i64 m2, .int .i64 m3, .int .i64 m4]) ∧ Below W.heap.size W w') := ⟨_, _, _, _, _, yz (fun W => kU g1 g2 g3 g4 u.1 u.2.1 u.2.2.1 u.2.2.2 W)⟩
    go_wp2_with fail
    refine ((yy cM) W16).mono ?_
    rintro e W17 ⟨rfl, hx⟩
    have hy := an W17 (.cells #[.int .i64 m0, .int .i64 m1, .int .i64 m2, .int .i64 m3, .int .i64 m4] 48)
    have HY7 := yz (((yy HY6).below hx).below hy)
    have HZB := yz (aD W17 [.int .i64 m0, .int .i64 m1, .int .i64 m2, .int .i64 m3, .int .i64 m4] 48)
    clear hx hy HY6 HGB6 cM q0 q1 q2 q3 p0 p1 p2 p3
    go_upto_region 14 with fail
    generalize W17.alloc (.cells #[.int .i64 m0, .int .i64 m1, .int .i64 m2, .int .i64 m3, .int .i64 m4] 48) = W18 at *
    generalize W17.heap.size = zb at *
    obtain ⟨q0, q1, q2, q3, q4⟩ : W18.cell? ⟨zb, 0, none⟩ = some (.int .i64 m0) ∧ W18.cell? ⟨zb, 1, none⟩ = some (.int .i64 m1) ∧ W18.cell? ⟨zb, 2, none⟩ = some (.int .i64 m2) ∧ W18.cell? ⟨zb, 3, none⟩ = some (.int .i64 m3) ∧ W18.cell? ⟨zb, 4, none⟩ = some (.int .i64 m4) := ⟨(yy HZB).cell 0 _ rfl, (yy HZB).cell 1 _ rfl, (yy HZB).cell 2 _ rfl, (yy HZB).cell 3 _ rfl, (yy HZB).cell 4 _ rfl⟩
    have y9 := (yy HY7).y.cell 9 _ rfl
    by_cases hm4 : m4 = 0
    ·have hm4' : (m4 == 0) = true := by simpa using hm4
     have HM4 := yz hm4
     clear hm4
     by_cases hc3 : code3 = 0
     ·have hc3' : (code3 == 0) = true := by simpa using hc3
      have HC3 := yz hc3
      clear hc3
      obtain ⟨p0, p1, p2, p3⟩ : W18.cell? ⟨ub, 0, none⟩ = some (.int .i64 u.1) ∧ W18.cell? ⟨ub, 1, none⟩ = some (.int .i64 u.2.1) ∧ W18.cell? ⟨ub, 2, none⟩ = some (.int .i64 u.2.2.1) ∧ W18.cell? ⟨ub, 3, none⟩ = some (.int .i64 u.2.2.2) := ⟨(yy HY7).st.tur.cell 0 _ rfl, (yy HY7).st.tur.cell 1 _ rfl, (yy HY7).st.tur.cell 2 _ rfl, (yy HY7).st.tur.cell 3 _ rfl⟩
      obtain ⟨f0, f1, f2, f3⟩ : W18.frozen? ⟨ub, 0, none⟩ = false ∧ W18.frozen? ⟨ub, 1, none⟩ = false ∧ W18.frozen? ⟨ub, 2, none⟩ = false ∧ W18.frozen? ⟨ub, 3, none⟩ = false := ⟨(yy HY7).st.tur.free 0, (yy HY7).st.tur.free 1, (yy HY7).st.tur.free 2, (yy HY7).st.tur.free 3⟩
      have HY8 := yz ((yy HY7).putU (u2 := (m0, m1, m2, m3)) (qF W18 ub (.int .i64 m0) (.int .i64 m1) (.int .i64 m2) (.int .i64 m3)) (vi (yy HY7).st.tur (.int .i64 m0) (.int .i64 m1) (.int .i64 m2) (.int .i64 m3)))
      clear HY7
      go_upto_region 18 with fail
      clear y9 q0 q1 q2 q3 q4 p0 p1 p2 p3 f0 f1 f2 f3
      generalize ((((W18.setCell ⟨ub, 0, none⟩ (.int .i64 m0)).setCell ⟨ub, 1, none⟩ (.int .i64 m1)).setCell ⟨ub, 2, none⟩ (.int .i64 m2)).setCell ⟨ub, 3, none⟩ (.int .i64 m3)) = W19 at *
      obtain ⟨y0, y1, y2, y3, y4, y5, y6, y7, y8, y9⟩ : W19.cell? ⟨yb, 0, none⟩ = some (.slice a3 t3.L.length cap3) ∧ W19.cell? ⟨yb, 1, none⟩ = some (.int .i64 t3.lim) ∧ W19.cell? ⟨yb, 2, none⟩ = some (.int .i64 t3.mode) ∧ W19.cell? ⟨yb, 3, none⟩ = some (.int .i64 t3.A) ∧ W19.cell? ⟨yb, 4, none⟩ = some (.int .i64 t3.B) ∧ W19.cell? ⟨yb, 5, none⟩ = some (.int .i64 t3.C) ∧ W19.cell? ⟨yb, 6, none⟩ = some (.int .i64 t3.D) ∧ W19.cell? ⟨yb, 7, none⟩ = some (.int .i64 t3.coast) ∧ W19.cell? ⟨yb, 8, none⟩ = some (.int .i64 t3.fr) ∧ W19.cell? ⟨yb, 9, none⟩ = some (.int .i64 code3) := ⟨(yy HY8).y.cell 0 _ rfl, (yy HY8).y.cell 1 _ rfl, (yy HY8).y.cell 2 _ rfl, (yy HY8).y.cell 3 _ rfl, (yy HY8).y.cell 4 _ rfl, (yy HY8).y.cell 5 _ rfl, (yy HY8).y.cell 6 _ rfl, (yy HY8).y.cell 7 _ rfl, (yy HY8).y.cell 8 _ rfl, (yy HY8).y.cell 9 _ rfl⟩
      obtain ⟨x0, x1, x2, x3, x4, x5, x6, x7, x8⟩ : W19.cell? ⟨kb, 0, none⟩ = some (.slice a t.L.length cap) ∧ W19.cell? ⟨kb, 1, none⟩ = some (.int .i64 t.lim) ∧ W19.cell? ⟨kb, 2, none⟩ = some (.int .i64 t.mode) ∧ W19.cell? ⟨kb, 3, none⟩ = some (.int .i64 t.A) ∧ W19.cell? ⟨kb, 4, none⟩ = some (.int .i64 t.B) ∧ W19.cell? ⟨kb, 5, none⟩ = some (.int .i64 t.C) ∧ W19.cell? ⟨kb, 6, none⟩ = some (.int .i64 t.D) ∧ W19.cell? ⟨kb, 7, none⟩ = some (.int .i64 t.coast) ∧ W19.cell? ⟨kb, 8, none⟩ = some (.int .i64 t.fr) := ⟨(yy HY8).st.trk.cell 0 _ rfl, (yy HY8).st.trk.cell 1 _ rfl, (yy HY8).st.trk.cell 2 _ rfl, (yy HY8).st.trk.cell 3 _ rfl, (yy HY8).st.trk.cell 4 _ rfl, (yy HY8).st.trk.cell 5 _ rfl, (yy HY8).st.trk.cell 6 _ rfl, (yy HY8).st.trk.cell 7 _ rfl, (yy HY8).st.trk.cell 8 _ rfl⟩
      obtain ⟨z0, z1, z2, z3, z4, z5, z6, z7, z8⟩ : W19.frozen? ⟨kb, 0, none⟩ = false ∧ W19.frozen? ⟨kb, 1, none⟩ = false ∧ W19.frozen? ⟨kb, 2, none⟩ = false ∧ W19.frozen? ⟨kb, 3, none⟩ = false ∧ W19.frozen? ⟨kb, 4, none⟩ = false ∧ W19.frozen? ⟨kb, 5, none⟩ = false ∧ W19.frozen? ⟨kb, 6, none⟩ = false ∧ W19.frozen? ⟨kb, 7, none⟩ = false ∧ W19.frozen? ⟨kb, 8, none⟩ = false := ⟨(yy HY8).st.trk.free 0, (yy HY8).st.trk.free 1, (yy HY8).st.trk.free 2, (yy HY8).st.trk.free 3, (yy HY8).st.trk.free 4, (yy HY8).st.trk.free 5, (yy HY8).st.trk.free 6, (yy HY8).st.trk.free 7, (yy HY8).st.trk.free 8⟩
      have HE := yz ((yy HY8).st.putK (t2 := t3) (eQ W19 kb (.slice a3 t3.L.length cap3) (.int .i64 t3.lim) (.int .i64 t3.mode) (.int .i64 t3.A) (.int .i64 t3.B) (.int .i64 t3.C) (.int .i64 t3.D) (.int .i64 t3.coast) (.int .i64 t3.fr)) (kO (yy HY8).st.trk (.slice a3 t3.L.length cap3) (.int .i64 t3.lim) (.int .i64 t3.mode) (.int .i64 t3.A) (.int .i64 t3.B) (.int .i64 t3.C) (.int .i64 t3.D) (.int .i64 t3.coast) (.int .i64 t3.fr)) (yy HY8).sk (yy HY8).l2)
      go_wp2_with fail
      go_roundw
      case rel => exact ⟨k - 1, t3, (m0, m1, m2, m3), a3, cap3, (by rw [show ((k - 1 : Nat) : Int) = (k : Int) - 1 by omega]), by omega, HE⟩
      case measure => simp [intOf] <;> omega
     ·have hc3' : (code3 == 0) = false := by simpa using hc3
      clear hc3
      go_upto_region 18 with fail
      clear y9
      have y9 := (yy HY7).y.cell 9 _ rfl
      have HE := yz (yy HY7).st
      go_wp2_with fail
      go_roundw
      case rel => exact ⟨k - 1, t, u, a, cap, (by rw [show ((k - 1 : Nat) : Int) = (k : Int) - 1 by omega]), by omega, HE⟩
      case measure => simp [intOf] <;> omega
    ·have hm4' : (m4 == 0) = false := by simpa using hm4
     clear hm4 y9
     go_upto_region 18 with fail
     by_cases hcd : code3 = 0
     ·have hcd' : (code3 == 0) = true := by simpa using hcd
      clear hcd
      obtain ⟨y0, y1, y2, y3, y4, y5, y6, y7, y8, y9⟩ : W18.cell? ⟨yb, 0, none⟩ = some (.slice a3 t3.L.length cap3) ∧ W18.cell? ⟨yb, 1, none⟩ = some (.int .i64 t3.lim) ∧ W18.cell? ⟨yb, 2, none⟩ = some (.int .i64 t3.mode) ∧ W18.cell? ⟨yb, 3, none⟩ = some (.int .i64 t3.A) ∧ W18.cell? ⟨yb, 4, none⟩ = some (.int .i64 t3.B) ∧ W18.cell? ⟨yb, 5, none⟩ = some (.int .i64 t3.C) ∧ W18.cell? ⟨yb, 6, none⟩ = some (.int .i64 t3.D) ∧ W18.cell? ⟨yb, 7, none⟩ = some (.int .i64 t3.coast) ∧ W18.cell? ⟨yb, 8, none⟩ = some (.int .i64 t3.fr) ∧ W18.cell? ⟨yb, 9, none⟩ = some (.int .i64 code3) := ⟨(yy HY7).y.cell 0 _ rfl, (yy HY7).y.cell 1 _ rfl, (yy HY7).y.cell 2 _ rfl, (yy HY7).y.cell 3 _ rfl, (yy HY7).y.cell 4 _ rfl, (yy HY7).y.cell 5 _ rfl, (yy HY7).y.cell 6 _ rfl, (yy HY7).y.cell 7 _ rfl, (yy HY7).y.cell 8 _ rfl, (yy HY7).y.cell 9 _ rfl⟩
      obtain ⟨x0, x1, x2, x3, x4, x5, x6, x7, x8⟩ : W18.cell? ⟨kb, 0, none⟩ = some (.slice a t.L.length cap) ∧ W18.cell? ⟨kb, 1, none⟩ = some (.int .i64 t.lim) ∧ W18.cell? ⟨kb, 2, none⟩ = some (.int .i64 t.mode) ∧ W18.cell? ⟨kb, 3, none⟩ = some (.int .i64 t.A) ∧ W18.cell? ⟨kb, 4, none⟩ = some (.int .i64 t.B) ∧ W18.cell? ⟨kb, 5, none⟩ = some (.int .i64 t.C) ∧ W18.cell? ⟨kb, 6, none⟩ = some (.int .i64 t.D) ∧ W18.cell? ⟨kb, 7, none⟩ = some (.int .i64 t.coast) ∧ W18.cell? ⟨kb, 8, none⟩ = some (.int .i64 t.fr) := ⟨(yy HY7).st.trk.cell 0 _ rfl, (yy HY7).st.trk.cell 1 _ rfl, (yy HY7).st.trk.cell 2 _ rfl, (yy HY7).st.trk.cell 3 _ rfl, (yy HY7).st.trk.cell 4 _ rfl, (yy HY7).st.trk.cell 5 _ rfl, (yy HY7).st.trk.cell 6 _ rfl, (yy HY7).st.trk.cell 7 _ rfl, (yy HY7).st.trk.cell 8 _ rfl⟩
      obtain ⟨z0, z1, z2, z3, z4, z5, z6, z7, z8⟩ : W18.frozen? ⟨kb, 0, none⟩ = false ∧ W18.frozen? ⟨kb, 1, none⟩ = false ∧ W18.frozen? ⟨kb, 2, none⟩ = false ∧ W18.frozen? ⟨kb, 3, none⟩ = false ∧ W18.frozen? ⟨kb, 4, none⟩ = false ∧ W18.frozen? ⟨kb, 5, none⟩ = false ∧ W18.frozen? ⟨kb, 6, none⟩ = false ∧ W18.frozen? ⟨kb, 7, none⟩ = false ∧ W18.frozen? ⟨kb, 8, none⟩ = false := ⟨(yy HY7).st.trk.free 0, (yy HY7).st.trk.free 1, (yy HY7).st.trk.free 2, (yy HY7).st.trk.free 3, (yy HY7).st.trk.free 4, (yy HY7).st.trk.free 5, (yy HY7).st.trk.free 6, (yy HY7).st.trk.free 7, (yy HY7).st.trk.free 8⟩
      have HE := yz ((yy HY7).st.putK (t2 := t3) (eQ W18 kb (.slice a3 t3.L.length cap3) (.int .i64 t3.lim) (.int .i64 t3.mode) (.int .i64 t3.A) (.int .i64 t3.B) (.int .i64 t3.C) (.int .i64 t3.D) (.int .i64 t3.coast) (.int .i64 t3.fr)) (kO (yy HY7).st.trk (.slice a3 t3.L.length cap3) (.int .i64 t3.lim) (.int .i64 t3.mode) (.int .i64 t3.A) (.int .i64 t3.B) (.int .i64 t3.C) (.int .i64 t3.D) (.int .i64 t3.coast) (.int .i64 t3.fr)) (yy HY7).sk (yy HY7).l2)
      go_wp2_with fail
      go_roundw
      case rel => exact ⟨k - 1, t3, u, a3, cap3, (by rw [show ((k - 1 : Nat) : Int) = (k : Int) - 1 by omega]), by omega, HE⟩
      case measure => simp [intOf] <;> omega
     ·have hcd' : (code3 == 0) = false := by simpa using hcd
      clear hcd
      have y9 := (yy HY7).y.cell 9 _ rfl
      have HE := yz (yy HY7).st
      go_wp2_with fail
      go_roundw
      case rel => exact ⟨k - 1, t, u, a, cap, (by rw [show ((k - 1 : Nat) : Int) = (k : Int) - 1 by omega]), by omega, HE⟩
      case measure => simp [intOf] <;> omega
   ·obtain ⟨x0, x1, x2, x3, x4, x5, x6, x7, x8⟩ : W12.cell? ⟨kb, 0, none⟩ = some (.slice a t.L.length cap) ∧ W12.cell? ⟨kb, 1, none⟩ = some (.int .i64 t.lim) ∧ W12.cell? ⟨kb, 2, none⟩ = some (.int .i64 t.mode) ∧ W12.cell? ⟨kb, 3, none⟩ = some (.int .i64 t.A) ∧ W12.cell? ⟨kb, 4, none⟩ = some (.int .i64 t.B) ∧ W12.cell? ⟨kb, 5, none⟩ = some (.int .i64 t.C) ∧ W12.cell? ⟨kb, 6, none⟩ = some (.int .i64 t.D) ∧ W12.cell? ⟨kb, 7, none⟩ = some (.int .i64 t.coast) ∧ W12.cell? ⟨kb, 8, none⟩ = some (.int .i64 t.fr) := ⟨(yy HY2).st.trk.cell 0 _ rfl, (yy HY2).st.trk.cell 1 _ rfl, (yy HY2).st.trk.cell 2 _ rfl, (yy HY2).st.trk.cell 3 _ rfl, (yy HY2).st.trk.cell 4 _ rfl, (yy HY2).st.trk.cell 5 _ rfl, (yy HY2).st.trk.cell 6 _ rfl, (yy HY2).st.trk.cell 7 _ rfl, (yy HY2).st.trk.cell 8 _ rfl⟩
    go_wp2_with fail
    refine (et t.L [] t.lim t.mode t.A t.B t.C t.D t.coast t.fr a cap none 0 W12 (Nat.le_trans (yy HY2).st.len (by decide)) (by decide) (yy HY2).st.sky.stars (.inl rfl) (fun x e => (bf (yy HY2).st.sky x e).2) (fun x e => by cases e) (by decide) (by decide)).mono ?_
    rintro e W15 ⟨⟨a3, cap3, rfl, hC3⟩, hx⟩
    have hte : bd ⟨t.L, t.lim, t.mode, t.A, t.B, t.C, t.D, t.coast, t.fr⟩ [] = bd t [] := rfl
    have hl3 := ju [] (yy HY2).st.len
    rw [hte] at hC3 ⊢
    have HC3 := yz (World.ownsRow.mono hC3 (yy HY2).st.gr.size)
    have HY5 := yz ((yy HY2).below hx)
    clear hte hx hC3 HY2 x0 x1 x2 x3 x4 x5 x6 x7 x8
    generalize bd t [] = t3 at *
    generalize dP ⟨t.L, t.lim, t.mode, t.A, t.B, t.C, t.D, t.coast, t.fr⟩ [] = code3 at *
    obtain ⟨y0, y1, y2, y3, y4, y5, y6, y7, y8, y9⟩ : W15.cell? ⟨yb, 0, none⟩ = some (.slice a2 t2.L.length cap2) ∧ W15.cell? ⟨yb, 1, none⟩ = some (.int .i64 t2.lim) ∧ W15.cell? ⟨yb, 2, none⟩ = some (.int .i64 t2.mode) ∧ W15.cell? ⟨yb, 3, none⟩ = some (.int .i64 t2.A) ∧ W15.cell? ⟨yb, 4, none⟩ = some (.int .i64 t2.B) ∧ W15.cell? ⟨yb, 5, none⟩ = some (.int .i64 t2.C) ∧ W15.cell? ⟨yb, 6, none⟩ = some (.int .i64 t2.D) ∧ W15.cell? ⟨yb, 7, none⟩ = some (.int .i64 t2.coast) ∧ W15.cell? ⟨yb, 8, none⟩ = some (.int .i64 t2.fr) ∧ W15.cell? ⟨yb, 9, none⟩ = some (.int .i64 code) := ⟨(yy HY5).y.cell 0 _ rfl, (yy HY5).y.cell 1 _ rfl, (yy HY5).y.cell 2 _ rfl, (yy HY5).y.cell 3 _ rfl, (yy HY5).y.cell 4 _ rfl, (yy HY5).y.cell 5 _ rfl, (yy HY5).y.cell 6 _ rfl, (yy HY5).y.cell 7 _ rfl, (yy HY5).y.cell 8 _ rfl, (yy HY5).y.cell 9 _ rfl⟩
    obtain ⟨z0, z1, z2, z3, z4, z5, z6, z7, z8, z9⟩ : W15.frozen? ⟨yb, 0, none⟩ = false ∧ W15.frozen? ⟨yb, 1, none⟩ = false ∧ W15.frozen? ⟨yb, 2, none⟩ = false ∧ W15.frozen? ⟨yb, 3, none⟩ = false ∧ W15.frozen? ⟨yb, 4, none⟩ = false ∧ W15.frozen? ⟨yb, 5, none⟩ = false ∧ W15.frozen? ⟨yb, 6, none⟩ = false ∧ W15.frozen? ⟨yb, 7, none⟩ = false ∧ W15.frozen? ⟨yb, 8, none⟩ = false ∧ W15.frozen? ⟨yb, 9, none⟩ = false := ⟨(yy HY5).y.free 0, (yy HY5).y.free 1, (yy HY5).y.free 2, (yy HY5).y.free 3, (yy HY5).y.free 4, (yy HY5).y.free 5, (yy HY5).y.free 6, (yy HY5).y.free 7, (yy HY5).y.free 8, (yy HY5).y.free 9⟩
    have HY6 := yz ((yy HY5).putY (t3 := t3) (code3 := code3) (jo W15 yb (.slice a3 t3.L.length cap3) (.int .i64 t3.lim) (.int .i64 t3.mode) (.int .i64 t3.A) (.int .i64 t3.B) (.int .i64 t3.C) (.int .i64 t3.D) (.int .i64 t3.coast) (.int .i64 t3.fr) (.int .i64 code3)) (po (yy HY5).y (.slice a3 t3.L.length cap3) (.int .i64 t3.lim) (.int .i64 t3.mode) (.int .i64 t3.A) (.int .i64 t3.B) (.int .i64 t3.C) (.int .i64 t3.D) (.int .i64 t3.coast) (.int .i64 t3.fr) (.int .i64 code3)) (yy HC3) hl3)
    go_upto_region 18 with fail
    clear HY5 HC3 y0 y1 y2 y3 y4 y5 y6 y7 y8 y9 z0 z1 z2 z3 z4 z5 z6 z7 z8 z9
    generalize ((((((((((W15.setCell ⟨yb, 0, none⟩ (.slice a3 t3.L.length cap3)).setCell ⟨yb, 1, none⟩ (.int .i64 t3.lim)).setCell ⟨yb, 2, none⟩ (.int .i64 t3.mode)).setCell ⟨yb, 3, none⟩ (.int .i64 t3.A)).setCell ⟨yb, 4, none⟩ (.int .i64 t3.B)).setCell ⟨yb, 5, none⟩ (.int .i64 t3.C)).setCell ⟨yb, 6, none⟩ (.int .i64 t3.D)).setCell ⟨yb, 7, none⟩ (.int .i64 t3.coast)).setCell ⟨yb, 8, none⟩ (.int .i64 t3.fr)).setCell ⟨yb, 9, none⟩ (.int .i64 code3)) = W16 at *
    by_cases hcd : code3 = 0
    ·have hcd' : (code3 == 0) = true := by simpa using hcd
     clear hcd
     obtain ⟨y0, y1, y2, y3, y4, y5, y6, y7, y8, y9⟩ : W16.cell? ⟨yb, 0, none⟩ = some (.slice a3 t3.L.length cap3) ∧ W16.cell? ⟨yb, 1, none⟩ = some (.int .i64 t3.lim) ∧ W16.cell? ⟨yb, 2, none⟩ = some (.int .i64 t3.mode) ∧ W16.cell? ⟨yb, 3, none⟩ = some (.int .i64 t3.A) ∧ W16.cell? ⟨yb, 4, none⟩ = some (.int .i64 t3.B) ∧ W16.cell? ⟨yb, 5, none⟩ = some (.int .i64 t3.C) ∧ W16.cell? ⟨yb, 6, none⟩ = some (.int .i64 t3.D) ∧ W16.cell? ⟨yb, 7, none⟩ = some (.int .i64 t3.coast) ∧ W16.cell? ⟨yb, 8, none⟩ = some (.int .i64 t3.fr) ∧ W16.cell? ⟨yb, 9, none⟩ = some (.int .i64 code3) := ⟨(yy HY6).y.cell 0 _ rfl, (yy HY6).y.cell 1 _ rfl, (yy HY6).y.cell 2 _ rfl, (yy HY6).y.cell 3 _ rfl, (yy HY6).y.cell 4 _ rfl, (yy HY6).y.cell 5 _ rfl, (yy HY6).y.cell 6 _ rfl, (yy HY6).y.cell 7 _ rfl, (yy HY6).y.cell 8 _ rfl, (yy HY6).y.cell 9 _ rfl⟩
     obtain ⟨x0, x1, x2, x3, x4, x5, x6, x7, x8⟩ : W16.cell? ⟨kb, 0, none⟩ = some (.slice a t.L.length cap) ∧ W16.cell? ⟨kb, 1, none⟩ = some (.int .i64 t.lim) ∧ W16.cell? ⟨kb, 2, none⟩ = some (.int .i64 t.mode) ∧ W16.cell? ⟨kb, 3, none⟩ = some (.int .i64 t.A) ∧ W16.cell? ⟨kb, 4, none⟩ = some (.int .i64 t.B) ∧ W16.cell? ⟨kb, 5, none⟩ = some (.int .i64 t.C) ∧ W16.cell? ⟨kb, 6, none⟩ = some (.int .i64 t.D) ∧ W16.cell? ⟨kb, 7, none⟩ = some (.int .i64 t.coast) ∧ W16.cell? ⟨kb, 8, none⟩ = some (.int .i64 t.fr) := ⟨(yy HY6).st.trk.cell 0 _ rfl, (yy HY6).st.trk.cell 1 _ rfl, (yy HY6).st.trk.cell 2 _ rfl, (yy HY6).st.trk.cell 3 _ rfl, (yy HY6).st.trk.cell 4 _ rfl, (yy HY6).st.trk.cell 5 _ rfl, (yy HY6).st.trk.cell 6 _ rfl, (yy HY6).st.trk.cell 7 _ rfl, (yy HY6).st.trk.cell 8 _ rfl⟩
     obtain ⟨z0, z1, z2, z3, z4, z5, z6, z7, z8⟩ : W16.frozen? ⟨kb, 0, none⟩ = false ∧ W16.frozen? ⟨kb, 1, none⟩ = false ∧ W16.frozen? ⟨kb, 2, none⟩ = false ∧ W16.frozen? ⟨kb, 3, none⟩ = false ∧ W16.frozen? ⟨kb, 4, none⟩ = false ∧ W16.frozen? ⟨kb, 5, none⟩ = false ∧ W16.frozen? ⟨kb, 6, none⟩ = false ∧ W16.frozen? ⟨kb, 7, none⟩ = false ∧ W16.frozen? ⟨kb, 8, none⟩ = false := ⟨(yy HY6).st.trk.free 0, (yy HY6).st.trk.free 1, (yy HY6).st.trk.free 2, (yy HY6).st.trk.free 3, (yy HY6).st.trk.free 4, (yy HY6).st.trk.free 5, (yy HY6).st.trk.free 6, (yy HY6).st.trk.free 7, (yy HY6).st.trk.free 8⟩
     have HE := yz ((yy HY6).st.putK (t2 := t3) (eQ W16 kb (.slice a3 t3.L.length cap3) (.int .i64 t3.lim) (.int .i64 t3.mode) (.int .i64 t3.A) (.int .i64 t3.B) (.int .i64 t3.C) (.int .i64 t3.D) (.int .i64 t3.coast) (.int .i64 t3.fr)) (kO (yy HY6).st.trk (.slice a3 t3.L.length cap3) (.int .i64 t3.lim) (.int .i64 t3.mode) (.int .i64 t3.A) (.int .i64 t3.B) (.int .i64 t3.C) (.int .i64 t3.D) (.int .i64 t3.coast) (.int .i64 t3.fr)) (yy HY6).sk (yy HY6).l2)
     go_wp2_with fail
     go_roundw
     case rel => exact ⟨k - 1, t3, u, a3, cap3, (by rw [show ((k - 1 : Nat) : Int) = (k : Int) - 1 by omega]), by omega, HE⟩
     case measure => simp [intOf] <;> omega
    ·have hcd' : (code3 == 0) = false := by simpa using hcd
     clear hcd
     have y9 := (yy HY6).y.cell 9 _ rfl
     have HE := yz (yy HY6).st
     go_wp2_with fail
     go_roundw
     case rel => exact ⟨k - 1, t, u, a, cap, (by rw [show ((k - 1 : Nat) : Int) = (k : Int) - 1 by omega]), by omega, HE⟩
     case measure => simp [intOf] <;> omega
   ·have hja' : (j == 0) = false := by simpa using hja
    have hjb' : (j == 1) = false := by simpa using hjb
    clear hja hjb
    go_upto_region 18 with fail
    by_cases hcd : code = 0
    ·have hcd' : (code == 0) = true := by simpa using hcd
     clear hcd
     obtain ⟨y0, y1, y2, y3, y4, y5, y6, y7, y8, y9⟩ : W12.cell? ⟨yb, 0, none⟩ = some (.slice a2 t2.L.length cap2) ∧ W12.cell? ⟨yb, 1, none⟩ = some (.int .i64 t2.lim) ∧ W12.cell? ⟨yb, 2, none⟩ = some (.int .i64 t2.mode) ∧ W12.cell? ⟨yb, 3, none⟩ = some (.int .i64 t2.A) ∧ W12.cell? ⟨yb, 4, none⟩ = some (.int .i64 t2.B) ∧ W12.cell? ⟨yb, 5, none⟩ = some (.int .i64 t2.C) ∧ W12.cell? ⟨yb, 6, none⟩ = some (.int .i64 t2.D) ∧ W12.cell? ⟨yb, 7, none⟩ = some (.int .i64 t2.coast) ∧ W12.cell? ⟨yb, 8, none⟩ = some (.int .i64 t2.fr) ∧ W12.cell? ⟨yb, 9, none⟩ = some (.int .i64 code) := ⟨(yy HY2).y.cell 0 _ rfl, (yy HY2).y.cell 1 _ rfl, (yy HY2).y.cell 2 _ rfl, (yy HY2).y.cell 3 _ rfl, (yy HY2).y.cell 4 _ rfl, (yy HY2).y.cell 5 _ rfl, (yy HY2).y.cell 6 _ rfl, (yy HY2).y.cell 7 _ rfl, (yy HY2).y.cell 8 _ rfl, (yy HY2).y.cell 9 _ rfl⟩
     obtain ⟨x0, x1, x2, x3, x4, x5, x6, x7, x8⟩ : W12.cell? ⟨kb, 0, none⟩ = some (.slice a t.L.length cap) ∧ W12.cell? ⟨kb, 1, none⟩ = some (.int .i64 t.lim) ∧ W12.cell? ⟨kb, 2, none⟩ = some (.int .i64 t.mode) ∧ W12.cell? ⟨kb, 3, none⟩ = some (.int .i64 t.A) ∧ W12.cell? ⟨kb, 4, none⟩ = some (.int .i64 t.B) ∧ W12.cell? ⟨kb, 5, none⟩ = some (.int .i64 t.C) ∧ W12.cell? ⟨kb, 6, none⟩ = some (.int .i64 t.D) ∧ W12.cell? ⟨kb, 7, none⟩ = some (.int .i64 t.coast) ∧ W12.cell? ⟨kb, 8, none⟩ = some (.int .i64 t.fr) := ⟨(yy HY2).st.trk.cell 0 _ rfl, (yy HY2).st.trk.cell 1 _ rfl, (yy HY2).st.trk.cell 2 _ rfl, (yy HY2).st.trk.cell 3 _ rfl, (yy HY2).st.trk.cell 4 _ rfl, (yy HY2).st.trk.cell 5 _ rfl, (yy HY2).st.trk.cell 6 _ rfl, (yy HY2).st.trk.cell 7 _ rfl, (yy HY2).st.trk.cell 8 _ rfl⟩
     obtain ⟨z0, z1, z2, z3, z4, z5, z6, z7, z8⟩ : W12.frozen? ⟨kb, 0, none⟩ = false ∧ W12.frozen? ⟨kb, 1, none⟩ = false ∧ W12.frozen? ⟨kb, 2, none⟩ = false ∧ W12.frozen? ⟨kb, 3, none⟩ = false ∧ W12.frozen? ⟨kb, 4, none⟩ = false ∧ W12.frozen? ⟨kb, 5, none⟩ = false ∧ W12.frozen? ⟨kb, 6, none⟩ = false ∧ W12.frozen? ⟨kb, 7, none⟩ = false ∧ W12.frozen? ⟨kb, 8, none⟩ = false := ⟨(yy HY2).st.trk.free 0, (yy HY2).st.trk.free 1, (yy HY2).st.trk.free 2, (yy HY2).st.trk.free 3, (yy HY2).st.trk.free 4, (yy HY2).st.trk.free 5, (yy HY2).st.trk.free 6, (yy HY2).st.trk.free 7, (yy HY2).st.trk.free 8⟩
     have HE := yz ((yy HY2).st.putK (t2 := t2) (eQ W12 kb (.slice a2 t2.L.length cap2) (.int .i64 t2.lim) (.int .i64 t2.mode) (.int .i64 t2.A) (.int .i64 t2.B) (.int .i64 t2.C) (.int .i64 t2.D) (.int .i64 t2.coast) (.int .i64 t2.fr)) (kO (yy HY2).st.trk (.slice a2 t2.L.length cap2) (.int .i64 t2.lim) (.int .i64 t2.mode) (.int .i64 t2.A) (.int .i64 t2.B) (.int .i64 t2.C) (.int .i64 t2.D) (.int .i64 t2.coast) (.int .i64 t2.fr)) (yy HY2).sk (yy HY2).l2)
     go_wp2_with fail
     go_roundw
     case rel => exact ⟨k - 1, t2, u, a2, cap2, (by rw [show ((k - 1 : Nat) : Int) = (k : Int) - 1 by omega]), by omega, HE⟩
     case measure => simp [intOf] <;> omega
    ·have hcd' : (code == 0) = false := by simpa using hcd
     clear hcd
     have y9 := (yy HY2).y.cell 9 _ rfl
     have HE := yz (yy HY2).st
     go_wp2_with fail
     go_roundw
     case rel => exact ⟨k - 1, t, u, a, cap, (by rw [show ((k - 1 : Nat) : Int) = (k : Int) - 1 by omega]), by omega, HE⟩
     case measure => simp [intOf] <;> omega
  ·skip
   obtain rfl : k = 0 := by omega
   go_wp2_with fail
   refine (bJ b 15 wr (yy HST).src (by decide)).mono ?_
   rintro e W20 ⟨y5, rfl, hS20, hg20⟩
   have HST2 := yz ((yy HST).call hS20 hg20)
   clear hS20 hg20 HST
   go_upto_if 70 with fail
   go_cut [5] (fun pv wx => pv = .pointer (some ⟨kb, 0, none⟩) ∧ ∃ (wv : World) (t : Tk) (a : Option Addr) (cap : Nat), wv = wx ∧ Hid (fL w b wx ub kb t u a cap))
   case first =>
    cases y5
    ·go_wp2_with fail
     go_meet
     exact ⟨rfl, _, t, a, cap, rfl, HST2⟩
    ·go_wp2_with fail
     refine (bp b 4 W20 (yy HST2).src (by decide)).mono ?_
     rintro e W21 ⟨j, rfl, hj0, hj4, _, hS21, hg21⟩
     replace hj4 := hj4 (by decide)
     have HST3 := yz ((yy HST2).call hS21 hg21)
     clear hS21 hg21 HST2
     rcases (by omega : j = 0 ∨ j = 1 ∨ j = 2 ∨ j = 3) with rfl | rfl | rfl | rfl
     ·skip
      go_wp2_with fail
      refine (bp b 5 W21 (yy HST3).src (by decide)).mono ?_
      rintro e W22 ⟨m, rfl, hm0, hm5, _, hS22, hg22⟩
      replace hm5 := hm5 (by decide)
      have hw : wrap64 (m - 1) = m - 1 := ap (by omega) (by omega)
      have HST4 := yz ((yy HST3).call hS22 hg22)
      clear hS22 hg22 HST3
      have x2 := (yy HST4).trk.cell 2 _ rfl
      have z2 := (yy HST4).trk.free 2
      have HE := yz ((yy HST4).putK (t2 := { t with mode := m - 1 }) (bu W22 kb 2 (.int .i64 (m - 1))) (Blk.set (yy HST4).trk 2 (.int .i64 (m - 1))) (yy HST4).sky (yy HST4).len)
      go_wp2_with fail
      go_meet
      exact ⟨rfl, _, { t with mode := m - 1 }, a, cap, rfl, HE⟩
     ·skip
      go_wp2_with fail
      refine (bp b 8 W21 (yy HST3).src (by decide)).mono ?_
      rintro e W22 ⟨m, rfl, hm0, hm5, _, hS22, hg22⟩
      replace hm5 := hm5 (by decide)
      have hw : wrap64 (m - 1) = m - 1 := ap (by omega) (by omega)
      have HST4 := yz ((yy HST3).call hS22 hg22)
      clear hS22 hg22 HST3
      have x2 := (yy HST4).trk.cell 7 _ rfl
      have z2 := (yy HST4).trk.free 7
      have HE := yz ((yy HST4).putK (t2 := { t with coast := m - 1 }) (bu W22 kb 7 (.int .i64 (m - 1))) (Blk.set (yy HST4).trk 7 (.int .i64 (m - 1))) (yy HST4).sky (yy HST4).len)
      go_wp2_with fail
      go_meet
      exact ⟨rfl, _, { t with coast := m - 1 }, a, cap, rfl, HE⟩
     ·have hy := an W21 (.cells #[.int .i64 (-1), .int .i64 1000000, .int .i64 1000001] 2)
      have H3 := yz (ug W21)
      have HST4 := yz ((yy HST3).below hy)
      have hb6 : b ≠ W21.heap.size := Nat.ne_of_lt (yy HST3).src.lt
      clear hy HST3
      go_wp2_with fail
      refine (bp b 3 _ (yy HST4).src (by decide)).mono ?_
      rintro e W22 ⟨m, rfl, hm0, hm4, _, hS22, hg22⟩
      replace hm4 := hm4 (by decide)
      obtain ⟨m, rfl⟩ := Int.eq_ofNat_of_zero_le hm0
      obtain ⟨zz, hzz⟩ := yy H3 m (by omega)
      have hzz6 : W22.cell? ⟨W21.heap.size, m, none⟩ = some (.int .i64 zz) := hg22.cell hzz (fun e => hb6 (Option.some.inj e).symm)
      have HST5 := yz ((yy HST4).call hS22 hg22)
      clear hS22 hg22 HST4 hzz H3
      have hm4' : (m : Int) < 3 := by omega
      have x2 := (yy HST5).trk.cell 8 _ rfl
      have z2 := (yy HST5).trk.free 8
      have HE := yz ((yy HST5).putK (t2 := { t with fr := zz }) (bu W22 kb 8 (.int .i64 zz)) (Blk.set (yy HST5).trk 8 (.int .i64 zz)) (yy HST5).sky (yy HST5).len)
      go_wp2_with fail
      go_meet
      exact ⟨rfl, _, { t with fr := zz }, a, cap, rfl, HE⟩
     ·go_wp2_with fail
      refine (fA b W21 (yy HST3).src).mono ?_
      rintro e W22 ⟨g1, g2, g3, g4, rfl, hS22, hg22⟩
      have HST4 := yz ((yy HST3).call hS22 hg22)
      clear hS22 hg22 HST3
      obtain ⟨x3, x4, x5, x6⟩ : W22.cell? ⟨kb, 3, none⟩ = some (.int .i64 t.A) ∧ W22.cell? ⟨kb, 4, none⟩ = some (.int .i64 t.B) ∧ W22.cell? ⟨kb, 5, none⟩ = some (.int .i64 t.C) ∧ W22.cell? ⟨kb, 6, none⟩ = some (.int .i64 t.D) := ⟨(yy HST4).trk.cell 3 _ rfl, (yy HST4).trk.cell 4 _ rfl, (yy HST4).trk.cell 5 _ rfl, (yy HST4).trk.cell 6 _ rfl⟩
      obtain ⟨z3, z4, z5, z6⟩ : W22.frozen? ⟨kb, 3, none⟩ = false ∧ W22.frozen? ⟨kb, 4, none⟩ = false ∧ W22.frozen? ⟨kb, 5, none⟩ = false ∧ W22.frozen? ⟨kb, 6, none⟩ = false := ⟨(yy HST4).trk.free 3, (yy HST4).trk.free 4, (yy HST4).trk.free 5, (yy HST4).trk.free 6⟩
      have HE := yz ((yy HST4).putK (t2 := { t with A := g1, B := g2, C := g3, D := g4 }) (ak (ak (ak (bu W22 kb 3 (.int .i64 g1)) (bu _ kb 4 (.int .i64 g2))) (bu _ kb 5 (.int .i64 g3))) (bu _ kb 6 (.int .i64 g4))) (Blk.set (Blk.set (Blk.set (Blk.set (yy HST4).trk 3 (.int .i64 g1)) 4 (.int .i64 g2)) 5 (.int .i64 g3)) 6 (.int .i64 g4)) (yy HST4).sky (yy HST4).len)
      go_wp2_with fail
      go_meet
      exact ⟨rfl, _, { t with A := g1, B := g2, C := g3, D := g4 }, a, cap, rfl, HE⟩
   case rest =>
   clear HST2
   obtain ⟨rfl, W30, t, a, cap, hw30, HST⟩ := hcut
   subst hw30
   have hlen := (yy HST).len
   have hu1 := (yy HST).u1
   have hk1 := (yy HST).k1
   have HR := yz (yy HST).res
   have HR2 := yz (yy HST).res2
   have HKK := yz (yy HST).trk
   have HUU := yz (yy HST).tur
   have HSRC := yz (yy HST).src
   have HCC := yz (yy HST).sky
   have HGG := yz (yy HST).gr
   have HKS : Hid (∀ w' : World, Blk w' kb [.slice a t.L.length cap, .int .i64 t.lim, .int .i64 t.mode, .int .i64 t.A, .int .i64 t.B, .int .i64 t.C, .int .i64 t.D, .int .i64 t.coast, .int .i64 t.fr] 27 → Blk w' ub [.int .i64 u.1, .int .i64 u.2.1, .int .i64 u.2.2.1, .int .i64 u.2.2.2] 25 → (w'.cell? ⟨kb, 0, none⟩ = some (.slice a t.L.length cap) ∧ w'.cell? ⟨kb, 1, none⟩ = some (.int .i64 t.lim) ∧ w'.cell? ⟨kb, 2, none⟩ = some (.int .i64 t.mode) ∧ w'.cell? ⟨kb, 3, none⟩ = some (.int .i64 t.A) ∧ w'.cell? ⟨kb, 4, none⟩ = some (.int .i64 t.B) ∧ w'.cell? ⟨kb, 5, none⟩ = some (.int .i64 t.C) ∧ w'.cell? ⟨kb, 6, none⟩ = some (.int .i64 t.D) ∧ w'.cell? ⟨kb, 7, none⟩ = some (.int .i64 t.coast) ∧ w'.cell? ⟨kb, 8, none⟩ = some (.int .i64 t.fr)) ∧ w'.cell? ⟨ub, 0, none⟩ = some (.int .i64 u.1) ∧ w'.cell? ⟨ub, 1, none⟩ = some (.int .i64 u.2.1) ∧ w'.cell? ⟨ub, 2, none⟩ = some (.int .i64 u.2.2.1) ∧ w'.cell? ⟨ub, 3, none⟩ = some (.int .i64 u.2.2.2)) := yz (fun w' hk hu => ⟨⟨hk.cell 0 _ rfl, hk.cell 1 _ rfl, hk.cell 2 _ rfl, hk.cell 3 _ rfl, hk.cell 4 _ rfl, hk.cell 5 _ rfl, hk.cell 6 _ rfl, hk.cell 7 _ rfl, hk.cell 8 _ rfl⟩, hu.cell 0 _ rfl, hu.cell 1 _ rfl, hu.cell 2 _ rfl, hu.cell 3 _ rfl⟩)
   clear HST
   go_upto_region 29 with fail
   refine wp_region_held_drew (S := (fun w' => (w'.cell? ⟨kb, 0, none⟩ = some (.slice a t.L.length cap) ∧ w'.cell? ⟨kb, 1, none⟩ = some (.int .i64 t.lim) ∧ w'.cell? ⟨kb, 2, none⟩ = some (.int .i64 t.mode) ∧ w'.cell? ⟨kb, 3, none⟩ = some (.int .i64 t.A) ∧ w'.cell? ⟨kb, 4, none⟩ = some (.int .i64 t.B) ∧ w'.cell? ⟨kb, 5, none⟩ = some (.int .i64 t.C) ∧ w'.cell? ⟨kb, 6, none⟩ = some (.int .i64 t.D) ∧ w'.cell? ⟨kb, 7, none⟩ = some (.int .i64 t.coast) ∧ w'.cell? ⟨kb, 8, none⟩ = some (.int .i64 t.fr)) ∧ w'.cell? ⟨ub, 0, none⟩ = some (.int .i64 u.1) ∧ w'.cell? ⟨ub, 1, none⟩ = some (.int .i64 u.2.1) ∧ w'.cell? ⟨ub, 2, none⟩ = some (.int .i64 u.2.2.1) ∧ w'.cell? ⟨ub, 3, none⟩ = some (.int .i64 u.2.2.2))) (by kernel_rfl) (yy HKS W30.drew (yy HKK) (yy HUU)) (fun hHeld => ?_)
   refine ab 0 rfl ?_
   try simp only [Act.put, ag, ah, ai]
   refine ab 1 rfl ?_
   try simp only [Act.put, ag, ah, ai]
   replace HR : Hid (Blk W30.drew _ _ _) := HR
   replace HR2 : Hid (Blk W30.drew _ _ _) := HR2
   replace HKK : Hid (Blk W30.drew _ _ _) := HKK
   replace HUU : Hid (Blk W30.drew _ _ _) := HUU
   replace HSRC := yz ((yy HSRC).below (Below.refl W30.heap.size W30).drew)
   replace HCC := yz ((yy HCC).kept (Below.refl W30.heap.size W30).drew)
   replace HGG := yz (ak (yy HGG) (aX (Below.refl W30.heap.size W30).drew (some b)))
   obtain ⟨V0, HYY⟩ : ∃ YY, YY = W30.drew := ⟨_, rfl⟩
   rw [← HYY] at HR HR2 HKK HUU HSRC HCC HGG hHeld ⊢
   clear HYY
   refine ae 2 rfl fun K hK => ?_
   have HRAW2 := yy HR
   obtain ⟨y0, y1, y2, y3, y4, y5, y6, y7, y8⟩ : V0.cell? ⟨w.heap.size, 0, none⟩ = some (.slice none 0 0) ∧ V0.cell? ⟨w.heap.size, 1, none⟩ = some (.int .i64 0) ∧ V0.cell? ⟨w.heap.size, 2, none⟩ = some (.int .i64 0) ∧ V0.cell? ⟨w.heap.size, 3, none⟩ = some (.int .i64 0) ∧ V0.cell? ⟨w.heap.size, 4, none⟩ = some (.int .i64 0) ∧ V0.cell? ⟨w.heap.size, 5, none⟩ = some (.int .i64 0) ∧ V0.cell? ⟨w.heap.size, 6, none⟩ = some (.int .i64 0) ∧ V0.cell? ⟨w.heap.size, 7, none⟩ = some (.int .i64 0) ∧ V0.cell? ⟨w.heap.size, 8, none⟩ = some (.int .i64 0) := ⟨(yy HR).cell 0 _ rfl, (yy HR).cell 1 _ rfl, (yy HR).cell 2 _ rfl, (yy HR).cell 3 _ rfl, (yy HR).cell 4 _ rfl, (yy HR).cell 5 _ rfl, (yy HR).cell 6 _ rfl, (yy HR).cell 7 _ rfl, (yy HR).cell 8 _ rfl⟩
   obtain ⟨z0, z1, z2, z3, z4, z5, z6, z7, z8⟩ : V0.frozen? ⟨w.heap.size, 0, none⟩ = false ∧ V0.frozen? ⟨w.heap.size, 1, none⟩ = false ∧ V0.frozen? ⟨w.heap.size, 2, none⟩ = false ∧ V0.frozen? ⟨w.heap.size, 3, none⟩ = false ∧ V0.frozen? ⟨w.heap.size, 4, none⟩ = false ∧ V0.frozen? ⟨w.heap.size, 5, none⟩ = false ∧ V0.frozen? ⟨w.heap.size, 6, none⟩ = false ∧ V0.frozen? ⟨w.heap.size, 7, none⟩ = false ∧ V0.frozen? ⟨w.heap.size, 8, none⟩ = false := ⟨(yy HR).free 0, (yy HR).free 1, (yy HR).free 2, (yy HR).free 3, (yy HR).free 4, (yy HR).free 5, (yy HR).free 6, (yy HR).free 7, (yy HR).free 8⟩
   go_simp
   have hgq := eQ V0 w.heap.size (.slice a t.L.length cap) (.int .i64 t.lim) (.int .i64 t.mode) (.int .i64 t.A) (.int .i64 t.B) (.int .i64 t.C) (.int .i64 t.D) (.int .i64 t.coast) (.int .i64 t.fr)
   replace HR2 := yz (ax (yy HR2) hgq (fun e => by have h1 := Option.some.inj e; omega))
   replace HR := yz (kO (yy HR) (.slice a t.L.length cap) (.int .i64 t.lim) (.int .i64 t.mode) (.int .i64 t.A) (.int .i64 t.B) (.int .i64 t.C) (.int .i64 t.D) (.int .i64 t.coast) (.int .i64 t.fr))
   replace HKK := yz (ax (yy HKK) hgq (fun e => by have h1 := Option.some.inj e; have h2 := hu1; have h3 := hk1; omega))
   replace HUU := yz (ax (yy HUU) hgq (fun e => by have h1 := Option.some.inj e; have h2 := hu1; omega))
   replace HSRC := yz ((yy HSRC).kept hgq (fun c e => by have h1 := Option.some.inj e; omega))
   replace HCC := yz (World.ownsRow.kept (yy HCC) hgq (bl (yy HCC) HRAW2 (by decide)))
   replace HGG := yz (bL (yy HGG) hgq (fun c e => by have h1 := Option.some.inj e; omega))
   refine hK.out _ _ (yy HKS _ (yy HKK) (yy HUU)) (fun hHeld2 => ?_)
   clear hK K hHeld hgq y0 y1 y2 y3 y4 y5 y6 y7 y8 z0 z1 z2 z3 z4 z5 z6 z7 z8
   have hHeld := hHeld2
   clear hHeld2
   clear HRAW2
   generalize (((((((((V0.setCell ⟨w.heap.size, 0, none⟩ (.slice a t.L.length cap)).setCell ⟨w.heap.size, 1, none⟩ (.int .i64 t.lim)).setCell ⟨w.heap.size, 2, none⟩ (.int .i64 t.mode)).setCell ⟨w.heap.size, 3, none⟩ (.int .i64 t.A)).setCell ⟨w.heap.size, 4, none⟩ (.int .i64 t.B)).setCell ⟨w.heap.size, 5, none⟩ (.int .i64 t.C)).setCell ⟨w.heap.size, 6, none⟩ (.int .i64 t.D)).setCell ⟨w.heap.size, 7, none⟩ (.int .i64 t.coast)).setCell ⟨w.heap.size, 8, none⟩ (.int .i64 t.fr)) = V1 at *
   have HRAW3 := yy HR2
   refine ae 3 rfl fun K hK => ?_
   obtain ⟨y0, y1, y2, y3⟩ : V1.cell? ⟨w.heap.size + 1, 0, none⟩ = some (.int .i64 0) ∧ V1.cell? ⟨w.heap.size + 1, 1, none⟩ = some (.int .i64 0) ∧ V1.cell? ⟨w.heap.size + 1, 2, none⟩ = some (.int .i64 0) ∧ V1.cell? ⟨w.heap.size + 1, 3, none⟩ = some (.int .i64 0) := ⟨(yy HR2).cell 0 _ rfl, (yy HR2).cell 1 _ rfl, (yy HR2).cell 2 _ rfl, (yy HR2).cell 3 _ rfl⟩
   obtain ⟨z0, z1, z2, z3⟩ : V1.frozen? ⟨w.heap.size + 1, 0, none⟩ = false ∧ V1.frozen? ⟨w.heap.size + 1, 1, none⟩ = false ∧ V1.frozen? ⟨w.heap.size + 1, 2, none⟩ = false ∧ V1.frozen? ⟨w.heap.size + 1, 3, none⟩ = false := ⟨(yy HR2).free 0, (yy HR2).free 1, (yy HR2).free 2, (yy HR2).free 3⟩
   go_simp
   have hgq := qF V1 (w.heap.size + 1) (.int .i64 u.1) (.int .i64 u.2.1) (.int .i64 u.2.2.1) (.int .i64 u.2.2.2)
   replace HR := yz (ax (yy HR) hgq (fun e => by have h1 := Option.some.inj e; omega))
   replace HR2 := yz (vi (yy HR2) (.int .i64 u.1) (.int .i64 u.2.1) (.int .i64 u.2.2.1) (.int .i64 u.2.2.2))
   replace HKK := yz (ax (yy HKK) hgq (fun e => by have h1 := Option.some.inj e; have h2 := hu1; have h3 := hk1; omega))
   replace HUU := yz (ax (yy HUU) hgq (fun e => by have h1 := Option.some.inj e; have h2 := hu1; omega))
   replace HSRC := yz ((yy HSRC).kept hgq (fun c e => by have h1 := Option.some.inj e; omega))
   replace HCC := yz (World.ownsRow.kept (yy HCC) hgq (bl (yy HCC) HRAW3 (by decide)))
   replace HGG := yz (bL (yy HGG) hgq (fun c e => by have h1 := Option.some.inj e; omega))
   refine hK.out _ _ (yy HKS _ (yy HKK) (yy HUU)) (fun hHeld2 => ?_)
   clear hK K hHeld hgq y0 y1 y2 y3 z0 z1 z2 z3
   have hHeld := hHeld2
   clear hHeld2
   refine wpAnyH_done (by kernel_rfl) ?_ _
   clear hHeld
   go_wp2_with fail
   refine bodyPost_ret (v := .tuple #[.agg #[.slice a t.L.length cap, .int .i64 t.lim, .int .i64 t.mode, .int .i64 t.A, .int .i64 t.B, .int .i64 t.C, .int .i64 t.D, .int .i64 t.coast, .int .i64 t.fr], .agg #[.int .i64 u.1, .int .i64 u.2.1, .int .i64 u.2.2.1, .int .i64 u.2.2.2]]) (vD _ _ w.heap.size (w.heap.size + 1) _ _ _ _ _ _ _ _ _ _ _ _ _ rfl rfl (yy HR) (yy HR2)) rfl ⟨t, u, a, cap, rfl, hlen, yy HCC, yy HSRC, yy HGG⟩
end
end Go.Proofs.YtgiodlllokdcdaaGreatDoor
