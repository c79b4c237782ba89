/- Several texts in one: DrP, PairW. -/
import Derived.WalkSmall
import Derived.Maps.AppendAt
import Derived.Test.YthoiooefclbecaaGreatDoorQFnSkyOwn31
import Derived.Test.YthoiooefclbecaaGreatDoorQFnSkyOwn3
import Derived.Test.YthoiooefclbecaaGreatDoorQFnSkyOwn17
import Derived.Test.YthoiooefclbecaaGreatDoorQFnSkyOwn19
import Derived.Test.YthoiooefclbecaaGreatDoorQFnSkyOwn2
import Derived.Test.YthoiooefclbecaaGreatDoorQFnSkyOwn34
namespace Go.Proofs.YthoiooefclbecaaGreatDoor
set_option linter.unusedVariables false
set_option linter.unusedSimpArgs false
set_option maxRecDepth 100000
set_option maxHeartbeats 8000000
section
open Go.RowKit Go.Sort
def vcL (v : D3) : List Value := [.int .i64 v.1, .int .i64 v.2.1, .int .i64 v.2.2]
def flL (S : List D3) : List Value := S.flatMap vcL
theorem mX (S : List D3) (v : D3) : flL (S ++ [v]) = flL S ++ vcL v := by unfold flL; rw [List.flatMap_append]; simp
structure jj (w : World) (b : Nat) (wr : World) (S : List D3) (a : Option Addr) (cap : Nat) (A B C D : Int) : Prop where
 src : aI b wr
 row : wr.ownsRow (w.heap.size + 1) 33 3 (.slice a S.length cap) S.length (flL S)
 gr : w.grownBy wr (some b)
 lb : b < w.heap.size
 box : Blk wr w.heap.size [.int .i64 A, .int .i64 B, .int .i64 C, .int .i64 D] 37
theorem jj.call {{w wr w2 : World}} {{b : Nat}} {{S : List D3}} {{a : Option Addr}} {{cap : Nat}} {{A B C D : Int}} (h : jj w b wr S a cap A B C D) (hS : aI b w2) (hg : wr.grownBy w2 (some b)) : jj w b w2 S a cap A B C D := by
 have := h.lb
 refine ⟨hS, World.ownsRow.kept h.row hg ?_, al h.gr hg, h.lb, an h.box hg (fun e => by have := Option.some.inj e; omega)⟩
 cases a with
 | none => exact .inl rfl
 | some y => exact .inr (fun e => by have h1 := (ft h.row y rfl).1; have h2 : y.block = b := Option.some.inj e; omega)
theorem jj.below {{w wr w2 : World}} {{b : Nat}} {{S : List D3}} {{a : Option Addr}} {{cap : Nat}} {{A B C D : Int}} (h : jj w b wr S a cap A B C D) (hx : Below wr.heap.size wr w2) : jj w b w2 S a cap A B C D :=
 ⟨h.src.below hx, dk h.row hx, al h.gr (bV hx _), h.lb, h.box.kept hx⟩
theorem jj.app {{w wr w2 : World}} {{b : Nat}} {{S : List D3}} {{a : Option Addr}} {{cap : Nat}} {{A B C D : Int}} {v : D3} {v' : Value} (h : jj w b wr S a cap A B C D) (hg : wr.grownBy w2 (Value.slice a S.length cap).ownBlock) (hr : w2.ownsRow (w.heap.size + 1) 33 3 v' (S.length + 1) (flL S ++ vcL v)) : ∃ a2 cap2, v' = .slice a2 (S.length + 1) cap2 ∧ jj w b w2 (S ++ [v]) a2 cap2 A B C D := by
 obtain ⟨a2, c2, rfl, _⟩ := em hr
 have := h.lb
 have hlo := h.row.lt
 refine ⟨a2, c2, rfl, h.src.kept hg (fun c e => by have := (hlo c e).1; omega), ?_, eW h.gr hg (fun c e => by have := (hlo c e).1; omega), h.lb, an h.box hg (fun e => by have := (hlo _ e.symm).1; omega)⟩
 rw [← mX] at hr
 rw [show (S ++ [v]).length = S.length + 1 by simp]
 exact hr
theorem jj.put {w wr : World} {b cap : Nat} {S : List D3} {A B C D : Int} {g : Nat} {S' : List D3} (h : jj w b wr S (some ⟨g, 0, none⟩) cap A B C D) (j : Nat) (u : Value) (hl : S'.length = S.length) (he : (flL S).set j u = flL S') : jj w b (wr.setCell ⟨g, j, none⟩ u) S' (some ⟨g, 0, none⟩) cap A B C D := by
 have hs := World.ownsRow.stored h.row j u
 have hgb : w.heap.size + 1 ≤ g := (ft h.row _ rfl).1
 have := h.lb
 refine ⟨h.src.kept hs.2 (fun c e => by have e2 : g = c := Option.some.inj e; omega), ?_, eW h.gr hs.2 (fun c e => by have e2 : g = c := Option.some.inj e; omega), h.lb, an h.box hs.2 (fun e => by have e2 : w.heap.size = g := Option.some.inj e; omega)⟩
 have h1 := hs.1
 rw [he] at h1
 rw [hl]
 exact h1
end
section
open Go.RowKit Go.Sort
def kS (L : List St) (a b : V3) (p : P2) : Bool := decide (jS a b (atV L L.length p.1) (atV L L.length p.2) = 0)
def qO (L : List St) (a b : V3) : List P2 := (dG L L.length).filter (kS L a b)
theorem pV {L : List St} {a b : V3} (h : aB L = true) (ha : bM a = true) (hb : bM b = true) : qO L a b = aP L a b := by
 obtain ⟨e, g⟩ := ed h L.length (Nat.le_refl _)
 rw [ik h ha hb]
 unfold qO
 rw [← e, List.filter_map]
 congr 1
 apply List.filter_congr
 intro s hs
 obtain ⟨i, j, hi, hj, rfl⟩ := g s hs
 have h1 : bU (stA L i).2 = true := ck ((aQ h).2 i hi)
 have h2 : bU (stA L j).2 = true := ck ((aQ h).2 j hj)
 show kS L a b (bP L i j).1 = _
 unfold kS bZ bP
 simp only
 rw [gm h hi, gm h hj, pw ha hb h1 h2]
 rfl
theorem rf (L : List St) (a b : V3) (O : List P2) (k : Nat) (hk : k < O.length) : (O.take (k + 1)).filter (kS L a b) = (O.take k).filter (kS L a b) ++ (if kS L a b (prA O k) = true then [prA O k] else []) := by
 have e : O.take (k + 1) = O.take k ++ [prA O k] := by
  rw [List.take_succ_eq_append_getElem hk]
  congr 2
  unfold prA
  rw [List.getD, List.getElem?_eq_getElem hk]
  rfl
 rw [e, List.filter_append]
 congr 1
 cases h : kS L a b (prA O k)
 ·rw [List.filter_cons_of_neg (by simp [h])]; rfl
 ·rw [List.filter_cons_of_pos h]; rfl
theorem dm.grown {w w2 : World} {B g cap : Nat} {O : List P2} {row : Option Nat} (h : dm w B g cap O) (hg : w.grownBy w2 row) (hne : row = some g → False) : dm w2 B g cap O :=
 World.ownsRow.kept (row := row) h hg (.inr (fun e => hne (by simpa [Value.ownBlock] using e.symm)))
theorem ol {w w2 : World} {B b : Nat} {v : Value} {t : TypeId} {n m : Nat} {xs : List Value} {x y z : Int} (h : av w b x y z) (ho : w.ownsRow B t m v n xs) (hg : w.grownBy w2 v.ownBlock) (hb : b < B) : av w2 b x y z := by
 have e := hg.block b (vlt h) (fun e => by have := (ho.lt b e.symm).1; omega)
 obtain ⟨h0, h1, h2⟩ := h
 exact ⟨(World.cell?_of_block (a := ⟨b, _, none⟩) e).trans h0, (World.cell?_of_block (a := ⟨b, _, none⟩) e).trans h1, (World.cell?_of_block (a := ⟨b, _, none⟩) e).trans h2⟩
theorem ql {B B' : Nat} {w w1 w2 : World} {v : Value} {t : TypeId} {n m : Nat} {xs : List Value} (h : Below B w w1) (ho : w1.ownsRow B' t m v n xs) (hg : w1.grownBy w2 v.ownBlock) (hbb : B ≤ B') (hB : B ≤ w1.heap.size) : Below B w w2 :=
 h.trans ⟨hg.os, hg.tape, hg.output, hg.size, fun k hk => hg.block k (by omega) (fun e => by have := (ho.lt k e.symm).1; omega)⟩
theorem qv (w : World) (B : Nat) (h : B ≤ w.heap.size) : (w.alloc (.cells #[] 52)).ownsRow B 52 2 (.slice (some ⟨w.heap.size, 0, none⟩) 0 0) 0 (aD []) := eO w B h
theorem lc (L : List St) (ar : Option Addr) (c : Nat) (a1 a2 a3 b1 b2 b3 : Int) (w : World) (hn : L.length ≤ 1048576) (hS : aA w ar L L.length) :
  Calls Tryz.prog 20 #[.slice ar L.length c, .agg #[.int .i64 a1, .int .i64 a2, .int .i64 a3], .agg #[.int .i64 b1, .int .i64 b2, .int .i64 b3]] w fun e w' => (∃ v, e = .returned v ∧ w'.ownsRow w.heap.size 52 2 v (aP L (a1, a2, a3) (b1, b2, b3)).length (aD (aP L (a1, a2, a3) (b1, b2, b3)))) ∧ Below w.heap.size w w' := by
 obtain ⟨i0, hi, hz0, hz1, hz2⟩ := info_parts iz
 have hm8 : 400 ≤ maxLen := by decide +kernel
 have cS := yz (fun (W : World) hW => bL L ar c W hn hW)
 have cA := yz (fun W => iW a1 a2 a3 W)
 have cB := yz (fun W => iW b1 b2 b3 W)
 have H12 : Hid (aB L = true → L.length ≤ 12) := yz (fun h => (aQ h).1)
 have cP : Hid (aB L = true → ∀ W : World, aA W ar L L.length → Calls Tryz.prog 59 #[.slice ar L.length c] W fun e w' => (∃ g cap, e = .returned (.slice (some ⟨g, 0, none⟩) (dG L L.length).length cap) ∧ dm w' W.heap.size g cap (dG L L.length)) ∧ Below W.heap.size W w') := yz (fun hk W hW => gU L ar c W (yy H12 hk) hW)
 have HAL : Hid (aB L = true → (dG L L.length).length ≤ 160) := yz (fun hk => by have := gF L (aQ hk).1 L.length (Nat.le_refl _); have := (aQ hk).1; omega)
 have HN1 : Hid (aB L = false → aP L (a1, a2, a3) (b1, b2, b3) = []) := yz li
 have HN2 : Hid (aO a1 a2 a3 = false → aP L (a1, a2, a3) (b1, b2, b3) = []) := yz (fun h => lj (b := (b1, b2, b3)) (show bM (a1, a2, a3) = false from h))
 have HN3 : Hid (aO b1 b2 b3 = false → aP L (a1, a2, a3) (b1, b2, b3) = []) := yz (fun h => lk (a := (a1, a2, a3)) (show bM (b1, b2, b3) = false from h))
 have HY : Hid (aB L = true → aO a1 a2 a3 = true → aO b1 b2 b3 = true → aP L (a1, a2, a3) (b1, b2, b3) = (dG L L.length).filter (kS L (a1, a2, a3) (b1, b2, b3))) := yz (fun h1 h2 h3 => (pV h1 (show bM (a1, a2, a3) = true from h2) (show bM (b1, b2, b3) = true from h3)).symm)
 have cT := yz (fun (W : World) (id : Int) hW => iB L L.length id ar c W (by omega) hW)
 have cC : Hid (∀ (x y : V3) (W : World), Calls Tryz.prog 62 #[.agg #[.int .i64 a1, .int .i64 a2, .int .i64 a3], .agg #[.int .i64 b1, .int .i64 b2, .int .i64 b3], dP x, dP y] W fun e w' => e = .returned (.int .i64 (jS (a1, a2, a3) (b1, b2, b3) x y)) ∧ Below W.heap.size W w') := yz (fun x y W => mP (a1, a2, a3) (b1, b2, b3) x y W)
 have HFB : Hid (∀ p, kS L (a1, a2, a3) (b1, b2, b3) p = decide (jS (a1, a2, a3) (b1, b2, b3) (atV L L.length p.1) (atV L L.length p.2) = 0)) := yz (fun p => rfl)
 have HFS := yz (rf L (a1, a2, a3) (b1, b2, b3))
 have HS := yz hS
 clear hS
 generalize aP L (a1, a2, a3) (b1, b2, b3) = R at *
 generalize dG L L.length = O at *
 generalize kS L (a1, a2, a3) (b1, b2, b3) = fit at *
 generalize L.length = n at *
 have A0 := (aw w a1 a2 a3 33).alloc (by simp) (.cells #[.int .i64 b1, .int .i64 b2, .int .i64 b3] 33)
 have D0 := aw (w.alloc (.cells #[.int .i64 a1, .int .i64 a2, .int .i64 a3] 33)) b1 b2 b3 33
 have e1 : (w.alloc (.cells #[.int .i64 a1, .int .i64 a2, .int .i64 a3] 33)).heap.size = w.heap.size + 1 := by simp
 rw [e1] at D0
 have e2 : ((w.alloc (.cells #[.int .i64 a1, .int .i64 a2, .int .i64 a3] 33)).alloc (.cells #[.int .i64 b1, .int .i64 b2, .int .i64 b3] 33)).heap.size = w.heap.size + 1 + 1 := by simp
 have O0 := qv ((w.alloc (.cells #[.int .i64 a1, .int .i64 a2, .int .i64 a3] 33)).alloc (.cells #[.int .i64 b1, .int .i64 b2, .int .i64 b3] 33)) (w.heap.size + 2) (by omega)
 rw [e2] at O0
 have A1 := yz (A0.alloc (vlt A0) (.cells #[] 52))
 have D1 := yz (D0.alloc (vlt D0) (.cells #[] 52))
 have O1 := yz O0
 have B1 := yz (fk w (.cells #[.int .i64 a1, .int .i64 a2, .int .i64 a3] 33) (.cells #[.int .i64 b1, .int .i64 b2, .int .i64 b3] 33) (.cells #[] 52))
 clear e1 e2 A0 D0 O0
 go_enter Tryz.func20, Tryz.ntmps20
 by_cases hbig : (400 : Int) < (n : Int)
 ·have hk : aB L = false := by
   cases h : aB L
   ·rfl
   ·have := yy H12 h; omega
  obtain rfl := yy HN1 hk
  go_wp2_with fail
  go_ret
  exact ⟨⟨_, rfl, cM (yy O1) (by omega)⟩, yy B1⟩
 have hbig' : decide ((400 : Int) < (n : Int)) = false := by simpa using hbig
 go_wp2_with fail
 generalize ((w.alloc (.cells #[.int .i64 a1, .int .i64 a2, .int .i64 a3] 33)).alloc (.cells #[.int .i64 b1, .int .i64 b2, .int .i64 b3] 33)).alloc (.cells #[] 52) = W1 at A1 D1 O1 B1 ⊢
 refine (yy cS _ ((yy HS).kept (yy B1))).mono ?_
 rintro e W2 ⟨rfl, hx⟩
 have A2 := yz ((yy A1).kept (vlt (yy A1)) hx)
 have D2 := yz ((yy D1).kept (vlt (yy D1)) hx)
 have O2 := yz (dt (yy O1) hx)
 have B2 := yz (ak (yy B1) hx)
 clear hx A1 D1 O1 B1
 cases hk : aB L
 ·obtain rfl := yy HN1 hk
  go_wp2_with fail
  go_ret
  exact ⟨⟨_, rfl, cM (yy O2) (by omega)⟩, yy B2⟩
 obtain ⟨x0, x1, x2⟩ := yy A2
 go_wp2_with fail
 refine (yy cA _).mono ?_
 rintro e W3 ⟨rfl, hx⟩
 have A3 := yz ((yy A2).kept (vlt (yy A2)) hx)
 have D3 := yz ((yy D2).kept (vlt (yy D2)) hx)
 have O3 := yz (dt (yy O2) hx)
 have B3 := yz (ak (yy B2) hx)
 clear hx A2 D2 O2 B2 x0 x1 x2
 cases ha : aO a1 a2 a3
 ·obtain rfl := yy HN2 ha
  go_wp2_with fail
  go_ret
  exact ⟨⟨_, rfl, cM (yy O3) (by omega)⟩, yy B3⟩
 obtain ⟨x0, x1, x2⟩ := yy D3
 go_wp2_with fail
 refine (yy cB _).mono ?_
 rintro e W4 ⟨rfl, hx⟩
 have A4 := yz ((yy A3).kept (vlt (yy A3)) hx)
 have D4 := yz ((yy D3).kept (vlt (yy D3)) hx)
 have O4 := yz (dt (yy O3) hx)
 have B4 := yz (ak (yy B3) hx)
 clear hx A3 D3 O3 B3 x0 x1 x2
 cases hb : aO b1 b2 b3
 ·obtain rfl := yy HN3 hb
  go_wp2_with fail
  go_ret
  exact ⟨⟨_, rfl, cM (yy O4) (by omega)⟩, yy B4⟩
 have cP' := yz (yy cP hk)
 have hAL := yy HAL hk
 have HR := yz (yy HY hk ha hb)
 clear hk ha hb HN1 HN2 HN3 HY HAL cP H12 cS cA cB
 go_wp2_with fail
 refine (yy cP' _ ((yy HS).kept (yy B4))).mono ?_
 rintro e W5 ⟨⟨g, cap, rfl, ho⟩, hx⟩
 have A5 := yz ((yy A4).kept (vlt (yy A4)) hx)
 have D5 := yz ((yy D4).kept (vlt (yy D4)) hx)
 have O5 := yz (dt (yy O4) hx)
 have P5 := yz ho
 have B5 := yz (ak (yy B4) hx)
 have hgl := ho.block
 have hW4 := (yy O4).lt
 clear hx ho A4 D4 O4 B4
 have hne0 : ∀ b0, (Value.slice (some ⟨w.heap.size + 1 + 1, 0, none⟩) 0 0).ownBlock = some b0 → b0 ≠ g := fun b0 h e => by have := hW4 b0 h; omega
 have HNE := yz (fun e => hne0 g e rfl)
 clear hne0 hW4
 generalize W4.heap.size = lo at *
 clear W4
 go_wp2_with fail
 go_loopw [7, 9] (fun v i wr => ∃ k : Nat, k ≤ O.length ∧ i = .int .i64 k ∧ Hid (wr.ownsRow (w.heap.size + 2) 52 2 v ((O.take k).filter fit).length (aD ((O.take k).filter fit))) ∧ Hid (v.ownBlock = some g → False) ∧ Hid (dm wr lo g cap O) ∧ Hid (av wr w.heap.size a1 a2 a3) ∧ Hid (av wr (w.heap.size + 1) b1 b2 b3) ∧ Hid (Below w.heap.size w wr)) (fun _ i _ => O.length - (intOf i).toNat)
 case atStart => exact ⟨0, by omega, rfl, O5, HNE, P5, A5, D5, B5⟩
 case round =>
  clear O5 HNE P5 A5 D5 B5
  obtain ⟨k, hk, rfl, HO, HNE, HP, HA, HD, HB⟩ := hrel
  by_cases hkn : k < O.length
  ·have hkn2 : (k : Int) < (O.length : Int) := by omega
   have HF := yz (yy HFS O k hkn)
   have HFV := yz (yy HFB (prA O k))
   obtain ⟨e1, e2⟩ := gL O k hkn
   have c0 := (yy HP).cells _ _ e1
   have c1 := (yy HP).cells _ _ e2
   obtain ⟨q, hq⟩ : ∃ q, q = prA O k := ⟨_, rfl⟩
   rw [← hq] at c0 c1 HF HFV
   have HQ := yz hq
   clear hq e1 e2
   obtain ⟨q1, q2⟩ := q
   obtain ⟨u0, u1, u2⟩ := yy HA
   obtain ⟨v0, v1, v2⟩ := yy HD
   have rc0 := cell_regrown c0
   have rc1 := cell_regrown c1
   have ru0 := cell_regrown u0
   have ru1 := cell_regrown u1
   have ru2 := cell_regrown u2
   have rv0 := cell_regrown v0
   have rv1 := cell_regrown v1
   have rv2 := cell_regrown v2
   clear c0 c1 u0 u1 u2 v0 v1 v2
   have c1' : Hid (∀ (dq : Nat) (osq : Array Obj), Calls Tryz.prog 63 #[.slice ar n c, .int .i64 q1] (grow (redrawn wr dq) osq) fun e w' => e = .returned (dP (atV L n q1)) ∧ Below (grow (redrawn wr dq) osq).heap.size (grow (redrawn wr dq) osq) w') := yz (fun dq osq => yy cT _ q1 (((yy HS).kept (yy HB)).kept (below_regrown wr dq osq)))
   have c2' : Hid (∀ (dq : Nat) (osq : Array Obj), Calls Tryz.prog 63 #[.slice ar n c, .int .i64 q2] (grow (redrawn wr dq) osq) fun e w' => e = .returned (dP (atV L n q2)) ∧ Below (grow (redrawn wr dq) osq).heap.size (grow (redrawn wr dq) osq) w') := yz (fun dq osq => yy cT _ q2 (((yy HS).kept (yy HB)).kept (below_regrown wr dq osq)))
   have c3' := yz (fun W => yy cC (atV L n q1) (atV L n q2) W)
   simp only at HFV
   generalize jS (a1, a2, a3) (b1, b2, b3) (atV L n q1) (atV L n q2) = cv at *
   generalize atV L n q1 = t1 at *
   generalize atV L n q2 = t2 at *
   go_wp2_with fail
   refine wp_region_quiet_below (by kernel_rfl) (by kernel_rfl) ?_
   repeat (go_big_quiet_step (first | (with_reducible exact Calls.regrown_of (yy c1' _ _)) | (with_reducible exact Calls.regrown_of (yy c2' _ _)) | (with_reducible exact Calls.regrown_of (yy c3' _))))
   refine wpQuiet_nil ?_
   intro _ hw'
   obtain ⟨⟨dq, osq⟩, hw''⟩ := hw'
   subst hw''
   have hx := below_regrown wr dq osq
   have HO2 := yz (dt (yy HO) hx)
   have HP2 := yz ((yy HP).kept hx)
   have HA2 := yz ((yy HA).kept (vlt (yy HA)) hx)
   have HD2 := yz ((yy HD).kept (vlt (yy HD)) hx)
   have HB2 := yz (ak (yy HB) hx)
   generalize grow (redrawn wr dq) osq = W6 at hx HO2 HP2 HA2 HD2 HB2 ⊢
   clear hx HO HP HA HD HB rc0 rc1 ru0 ru1 ru2 rv0 rv1 rv2 c1' c2' c3'
   by_cases hcv : cv = 0
   ·subst hcv
    rw [yy HFV] at HF
    rw [if_pos (by rfl)] at HF
    obtain ⟨e1, e2⟩ := gL O k hkn
    have c0 := (yy HP2).cells _ _ e1
    have c1 := (yy HP2).cells _ _ e2
    rw [← yy HQ] at c0 c1
    clear e1 e2
    have Z1 := am W6 (.cells #[.int .i64 q1, .int .i64 q2] 52)
    have hown := dt (yy HO2) Z1
    have P7 := yz ((yy HP2).kept Z1)
    have A7 := yz ((yy HA2).kept (vlt (yy HA2)) Z1)
    have D7 := yz ((yy HD2).kept (vlt (yy HD2)) Z1)
    have B7 := ak (yy HB2) Z1
    have hlen : ((O.take k).filter fit).length ≤ 160 := by
     have h1 := List.length_filter_le fit (O.take k)
     have h2 := List.length_take_le k O
     omega
    have hsz6 : w.heap.size + 2 ≤ W6.heap.size := by have := (yy HO2).lt; have := (yy HP2).block; have := vlt (yy HD2); omega
    have hgl6 := (yy HP2).block
    clear Z1 HO2 HP2 HA2 HD2 HB2
    generalize (O.take k).filter fit = Fk at *
    go_wp2_with (at_builtin; refine wpList_append_own_at _ rfl _ _ 30 rfl (w.heap.size + 2) 52 i0 (.agg #[.int .i64 0, .int .i64 0]) 2 16 Tryz.underlying30 hi hz0 hz1 hz2 rfl (by decide) _ _ _ rfl hown ⟨W6.heap.size, 0, none⟩ 1 1 (aD [(q1, q2)]) rfl rfl ?d2 (fun u hu => dK hu) ?d3 ?d4 ?d5 ?_)
    case d2 => exact fun j u h => h
    case d3 => omega
    case d4 => omega
    case d5 => omega
    intro v7 V7 hown7 hgrow7 _ hob
    have NE7 : Hid (v7.ownBlock = some g → False) := yz (fun e => by
     rcases hob with h | h
     ·exact yy HNE (by rw [← h]; exact e)
     ·rw [e] at h
      have h := Option.some.inj h
      first | omega | (simp at h; omega))
    have B8 := yz (ql B7 hown hgrow7 (by omega) (by simp; omega))
    have P8 := yz ((yy P7).grown hgrow7 (yy HNE))
    have A8 := yz (ol (yy A7) hown hgrow7 (by omega))
    have D8 := yz (ol (yy D7) hown hgrow7 (by omega))
    have O8 : Hid (V7.ownsRow (w.heap.size + 2) 52 2 v7 ((O.take (k + 1)).filter fit).length (aD ((O.take (k + 1)).filter fit))) := yz (by rw [yy HF, dY, List.length_append]; exact hown7)
    clear hown7 hgrow7 hob hown B7 P7 A7 D7 c0 c1
    go_wp2_with fail
    go_roundw
    case rel => exact ⟨k + 1, by omega, by go_num, O8, NE7, P8, A8, D8, B8⟩
    case measure => simp [intOf] <;> omega
   ·have hcv' : (cv == 0) = false := by simp [hcv]
    rw [yy HFV, if_neg (by simpa using hcv), List.append_nil] at HF
    have HO3 : Hid (W6.ownsRow (w.heap.size + 2) 52 2 u7 ((O.take (k + 1)).filter fit).length (aD ((O.take (k + 1)).filter fit))) := yz (by rw [yy HF]; exact yy HO2)
    go_wp2_with fail
    go_roundw
    case rel => exact ⟨k + 1, by omega, by go_num, HO3, HNE, HP2, HA2, HD2, HB2⟩
    case measure => simp [intOf] <;> omega
  ·have hke : k = O.length := by omega
   have HO3 : Hid (wr.ownsRow (w.heap.size + 2) 52 2 u7 R.length (aD R)) := yz (by
    have h := yy HO
    rw [hke, List.take_length, ← yy HR] at h
    exact h)
   go_wp2_with fail
   go_ret
   exact ⟨⟨_, rfl, cM (yy HO3) (by omega)⟩, yy HB⟩
end
end Go.Proofs.YthoiooefclbecaaGreatDoor
