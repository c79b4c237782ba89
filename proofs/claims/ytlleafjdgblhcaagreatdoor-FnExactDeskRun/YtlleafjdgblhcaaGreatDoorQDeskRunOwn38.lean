/- Several texts in one: ModN, DsF. -/
import Derived.Test.YtlleafjdgblhcaaGreatDoorQDeskRunOwn27
import Derived.Test.YtlleafjdgblhcaaGreatDoorQDeskRunOwn29
import Derived.Test.YtlleafjdgblhcaaGreatDoorQDeskRunOwn33
namespace Go.Proofs.YtlleafjdgblhcaaGreatDoor
set_option linter.unusedVariables false
set_option linter.unusedSimpArgs false
set_option maxRecDepth 100000
set_option maxHeartbeats 8000000
section
open Go.RowKit Go.Sort
theorem mc.row {w : World} {b n : Nat} {L : List St} (h : mc w b n L n) : wj w (some ⟨b, 0, none⟩) n (some b) := by
 obtain ⟨cur, hc, hn, hs⟩ := h
 refine .inr ⟨b, fun j => match j % 4 with | 0 => (stA L (j / 4)).1 | 1 => (stA L (j / 4)).2.1 | 2 => (stA L (j / 4)).2.2.1 | _ => (stA L (j / 4)).2.2.2, rfl, rfl, cur, hc, fun j hj => ?_⟩
 obtain ⟨h0, h1, h2, h3⟩ := hs (j / 4) (by omega)
 have h4 : j % 4 = 0 ∨ j % 4 = 1 ∨ j % 4 = 2 ∨ j % 4 = 3 := by omega
 rcases h4 with h4 | h4 | h4 | h4
 ·dsimp only; rw [h4]; rw [show j / 4 * 4 = j by omega] at h0; exact h0
 ·dsimp only; rw [h4]; rw [show j / 4 * 4 + 1 = j by omega] at h1; exact h1
 ·dsimp only; rw [h4]; rw [show j / 4 * 4 + 2 = j by omega] at h2; exact h2
 ·dsimp only; rw [h4]; rw [show j / 4 * 4 + 3 = j by omega] at h3; exact h3
theorem az.grown {w w' : World} {B : Nat} {L : List St} {a : Option Addr} {cap : Nat} {row : Option Nat} (h : az w B L a cap) (hg : w.grownBy w' row) (hne : ∀ g, row = some g → g < B) : az w' B L a cap := by
 obtain ⟨h1, h2⟩ := h
 refine ⟨h1, ?_⟩
 rcases h2 with h2 | ⟨g, c', cur, e, hb, hh, r⟩
 ·exact .inl h2
 ·exact .inr ⟨g, c', cur, e, hb, by rw [hg.block g (Array.getElem?_eq_some_iff.1 hh).1 (fun e => by have := hne g e.symm; omega)]; exact hh, r⟩
theorem aR.grown {w w' : World} {a : Option Addr} {L : List St} {n : Nat} {row : Option Nat} (h : aR w a L n) (hg : w.grownBy w' row) (hne : ∀ x g, a = some x → row = some g → x.block ≠ g) : aR w' a L n := by
 rcases h with h | ⟨b, o, rfl, hb, hc⟩
 ·exact .inl h
 ·refine .inr ⟨b, o, rfl, Nat.lt_of_lt_of_le hb hg.size, fun i hi => ?_⟩
  have e : w'.heap[b]? = w.heap[b]? := hg.block b hb (fun e => hne _ b rfl e.symm rfl)
  obtain ⟨c0, c1, c2, c3⟩ := hc i hi
  exact ⟨(World.cell?_of_block (a := ⟨b, _, none⟩) e).trans c0, (World.cell?_of_block (a := ⟨b, _, none⟩) e).trans c1, (World.cell?_of_block (a := ⟨b, _, none⟩) e).trans c2, (World.cell?_of_block (a := ⟨b, _, none⟩) e).trans c3⟩
theorem az.block {w : World} {B : Nat} {L : List St} {a : Option Addr} {cap : Nat} (h : az w B L a cap) (x : Addr) (e : a = some x) : B ≤ x.block ∧ x.block < w.heap.size := by
 rcases h.2 with ⟨h1, _⟩ | ⟨g, c', cur, e', hb, hh, r⟩
 ·injection h1 with h1; rw [h1] at e; cases e
 ·injection e' with e1; rw [e1] at e; cases e; exact ⟨hb, (Array.getElem?_eq_some_iff.1 hh).1⟩
end
section
open Go.RowKit
def lnC (l : Ln) : List Value := [fnV (eu l.k), bW l.t, .int .i64 l.n]
def gd (L : List Ln) : List Value := L.flatMap lnC
theorem vf (L : List Ln) (l : Ln) : gd (L ++ [l]) = gd L ++ lnC l := by unfold gd; rw [List.flatMap_append]; simp
def fX (s : ByteArray) : List Ln ⊕ Nat := dF 0 (pcs 10 s.data.toList)
def eA (s : ByteArray) : List Ln := if 8000 < s.size then [] else match fX s with | .inl ls => ls | .inr _ => []
def fZ (s : ByteArray) : Int := if 8000 < s.size then 0 else match fX s with | .inl _ => 0 | .inr i => (i : Int)
def fE (s : ByteArray) : Int := if 8000 < s.size then 2 else match fX s with | .inl _ => 0 | .inr _ => 3
def DL (s : ByteArray) (w' : World) (B : Nat) (e : Ending) : Prop := ∃ v, e = .returned (.tuple #[v, .agg #[.string ⟨#[]⟩, .int .i64 (fZ s), .int .i64 (fE s)]]) ∧ w'.ownsRow B 79 3 v (eA s).length (gd (eA s))
def gX (s : ByteArray) (done : List Ln) (rem : List UInt8) : Prop := fX s = match dF done.length (pcs 10 rem) with | .inl ls => .inl (done ++ ls) | .inr j => .inr j
theorem CC {s : ByteArray} {done : List Ln} (h : gX s done []) : fX s = .inl done := by
 unfold gX at h
 rw [h]
 show Sum.inl (done ++ []) = _
 rw [List.append_nil]
theorem lp (i : Nat) (a : List UInt8) (b : List UInt8) : dF i (a :: pcs 10 b) = match bh a with | none => .inr i | some l => if 40 ≤ i then .inr i else match dF (i + 1) (pcs 10 b) with | .inl ls => .inl (l :: ls) | .inr j => .inr j := by
 cases h : pcs 10 b with
 | nil => exact absurd h (jD _ _)
 | cons q r => rfl
theorem Cp {s : ByteArray} {done : List Ln} {a b : List UInt8} (ha : 10 ∉ a) (h : gX s done (a ++ 10 :: b)) (hl : bh a = none) : fX s = .inr done.length := by
 unfold gX at h
 rw [mL ha, lp, hl] at h
 exact h
theorem AC {s : ByteArray} {done : List Ln} {a b : List UInt8} {l : Ln} (ha : 10 ∉ a) (h : gX s done (a ++ 10 :: b)) (hl : bh a = some l) (h40 : 40 ≤ done.length) : fX s = .inr done.length := by
 unfold gX at h
 rw [mL ha, lp, hl] at h
 dsimp only at h
 rw [if_pos h40] at h
 exact h
theorem Aq {s : ByteArray} {done : List Ln} {a : List UInt8} (ha : 10 ∉ a) (hn : a ≠ []) (h : gX s done a) : fX s = .inr done.length := by
 unfold gX at h
 rw [pY ha] at h
 have e : dF done.length [a] = .inr done.length := by show (if a = [] then _ else _) = _; rw [if_neg hn]
 rw [e] at h
 exact h
theorem zN {s : ByteArray} {done : List Ln} {a b : List UInt8} {l : Ln} (ha : 10 ∉ a) (h : gX s done (a ++ 10 :: b)) (hl : bh a = some l) (h40 : ¬ 40 ≤ done.length) : gX s (done ++ [l]) b := by
 unfold gX at h ⊢
 rw [mL ha, lp, hl] at h
 dsimp only at h
 rw [if_neg h40] at h
 rw [h, show (done ++ [l]).length = done.length + 1 by simp]
 cases dF (done.length + 1) (pcs 10 b) with
 | inl ls => simp
 | inr j => rfl
theorem uU {s : ByteArray} (hs : ¬ 8000 < s.size) {i : Nat} (h : fX s = .inr i) : eA s = [] ∧ fZ s = (i : Int) ∧ fE s = 3 := by
 unfold eA fZ fE
 rw [if_neg hs, if_neg hs, if_neg hs, h]
 exact ⟨rfl, rfl, rfl⟩
theorem yx {s : ByteArray} (hs : ¬ 8000 < s.size) {L : List Ln} (h : fX s = .inl L) : eA s = L ∧ fZ s = 0 ∧ fE s = 0 := by
 unfold eA fZ fE
 rw [if_neg hs, if_neg hs, if_neg hs, h]
 exact ⟨rfl, rfl, rfl⟩
theorem AK {s : ByteArray} (hs : 8000 < s.size) : eA s = [] ∧ fZ s = 0 ∧ fE s = 2 := by
 unfold eA fZ fE
 rw [if_pos hs, if_pos hs, if_pos hs]
 exact ⟨rfl, rfl, rfl⟩
def Em : Value → Nat
 | .string b => b.size
 | _ => 0
theorem Do : ∃ i : TypeInfo, Tryz.prog.info? 79 = some i ∧ i.zero = some (.agg #[.nilFunc, .string ⟨#[]⟩, .int .i64 0]) ∧ i.size = 3 ∧ i.bytes = 32 := by
 have h : (Tryz.prog.info? 79).map (fun i => (i.zero, i.size, i.bytes)) = some (some (.agg #[.nilFunc, .string ⟨#[]⟩, .int .i64 0]), 3, 32) := by kernel_rfl
 cases hi : Tryz.prog.info? 79 with
 | none => rw [hi] at h; cases h
 | some i =>
  rw [hi] at h
  have := Option.some.inj h
  simp only [Prod.mk.injEq] at this
  exact ⟨i, rfl, this.1, this.2.1, this.2.2⟩
theorem lK (T : Array Value) (X : World) (b : Nat) (v : Value) (n c : Int) (hT2 : T.getD 2 undef = v) (hT : T.getD 3 undef = .pointer (some ⟨b, 0, none⟩)) (h : Blk X b [.string ⟨#[]⟩, .int .i64 n, .int .i64 c] 23) : (results Tryz.f12 T).run Tryz.prog X = .ok (.tuple #[v, .agg #[.string ⟨#[]⟩, .int .i64 n, .int .i64 c]]) X := by
 obtain ⟨h0, h1, h2⟩ := js (h)
 simp only [Array.getD_eq_getD_getElem?] at hT hT2
 simp [results, Tryz.results12, go_sem, hT, hT2, h0, h1, h2]
theorem Cy {w : World} {B n m b : Nat} {t : TypeId} {v : Value} {xs : List Value} (h : w.ownsRow B t m v n xs) (hb : b < B) (o : Nat) (x : Value) : (w.setCell ⟨b, o, none⟩ x).ownsRow B t m v n xs := by
 obtain ⟨h1, h2⟩ := h
 refine ⟨h1, ?_⟩
 rcases h2 with h2 | ⟨g, c', cur, e, hg, hh, r⟩
 ·exact .inl h2
 ·exact .inr ⟨g, c', cur, e, hg, by rw [Below.heap_setCell w ⟨b, o, none⟩ x g (by show g ≠ b; omega)]; exact hh, r⟩
theorem na (w : World) (vs : List Value) (t : TypeId) : ∀ (j : Nat) (u : Value), vs[j]? = some u → (w.alloc (.cells vs.toArray t)).cell? ((⟨w.heap.size, 0, none⟩ : Addr).add j) = some u := by
 intro j u hj
 have e : (⟨w.heap.size, 0, none⟩ : Addr).add j = ⟨w.heap.size, j, none⟩ := by cases j <;> simp [Addr.add]
 rw [e]
 simp [hj]
structure zr (w wr : World) (v : Value) (done : List Ln) : Prop where
 out : Blk wr w.heap.size [.string ⟨#[]⟩, .int .i64 0, .int .i64 0] 23
 row : wr.ownsRow (w.heap.size + 1) 79 3 v done.length (gd done)
 bel : Below w.heap.size w wr
 low : w.heap.size + 1 ≤ wr.heap.size
theorem zr.kept {w w1 w2 : World} {v : Value} {done : List Ln} (h : zr w w1 v done) (hx : Below w1.heap.size w1 w2) : zr w w2 v done :=
 ⟨h.out.kept hx, ze h.row hx, ak h.bel hx, Nat.le_trans h.low hx.size⟩
theorem ul (s : ByteArray) (w : World) (hs : s.size ≤ 1048576) (hm : rp w) :
  Calls Tryz.prog 12 #[.string s] w fun e w' => DL s w' w.heap.size e ∧ Below w.heap.size w w' := by
 have B0 := an w (.cells #[.string ⟨#[]⟩, .int .i64 0, .int .i64 0] 23)
 have R0 := ap w [.string ⟨#[]⟩, .int .i64 0, .int .i64 0] 23
 have HM := yz hm
 clear hm
 by_cases hb : 8000 < s.size
 ·have hb' : (8000 : Int) < (s.size : Int) := by omega
  have HO := yz (AK hb)
  go_enter Tryz.func12, Tryz.ntmps12
  go_wp2
  refine bodyPost_ret (v := .tuple #[.slice none 0 0, .agg #[.string ⟨#[]⟩, .int .i64 0, .int .i64 2]]) ?_ rfl ⟨⟨_, by rw [(yy HO).2.1, (yy HO).2.2], by rw [(yy HO).1]; exact World.ownsRow_nil _ _ _ _⟩, an _ _⟩
  ·simp [results, Tryz.results12, go_sem]
 have hb' : ¬ (8000 : Int) < (s.size : Int) := by omega
 have HG := yz (fun L h => yx (s := s) hb (L := L) h)
 have HFT := yz (fun i h => uU (s := s) hb (i := i) h)
 have HST : Hid (zr w (w.alloc (.cells #[.string ⟨#[]⟩, .int .i64 0, .int .i64 0] 23)) (.slice none 0 0) []) := yz ⟨R0, World.ownsRow_nil _ _ _ _, B0, by simp⟩
 have HP : Hid (gX s [] s.data.toList) := yz (by unfold gX fX; rw [show ([] : List Ln).length = 0 from rfl]; cases dF 0 (pcs 10 s.data.toList) <;> rfl)
 obtain ⟨i0, hinf, hz0, hz1, hz2⟩ := Do
 have hm8 : 10000 ≤ maxLen := by decide +kernel
 clear B0 R0
 go_enter Tryz.func12, Tryz.ntmps12
 go_wp2_with fail
 generalize w.alloc (.cells #[.string ⟨#[]⟩, .int .i64 0, .int .i64 0] 23) = W0 at *
 go_loopw [0, 4] (fun t v wr => ∃ (rem : ByteArray) (done : List Ln), t = .string rem ∧ rem.size ≤ 8000 ∧ done.length ≤ 40 ∧ Hid (gX s done rem.data.toList) ∧ Hid (zr w wr v done)) (fun t _ _ => Em t)
 case atStart => exact ⟨s, [], rfl, by omega, by simp, HP, HST⟩
 case round =>
  clear HP HST
  obtain ⟨rem, done, rfl, hrs, hd40, HP, HST⟩ := hrel
  obtain ⟨a4, c4, rfl⟩ : ∃ a4 c4, u4 = .slice a4 done.length c4 := by
   rcases (yy HST).row.2 with ⟨h1, h0⟩ | ⟨g, c', cur, e, _⟩
   ·exact ⟨none, 0, by rw [h1, h0]⟩
   ·exact ⟨_, _, e⟩
  by_cases hr0 : rem = ⟨#[]⟩
  ·subst hr0
   have HR := yz (yy HG done (CC (yy HP)))
   have r0 := (yy HST).out.cell 0 _ rfl
   have r1 := (yy HST).out.cell 1 _ rfl
   have r2 := (yy HST).out.cell 2 _ rfl
   have f0 := (yy HST).out.free 0
   have f1 := (yy HST).out.free 1
   have f2 := (yy HST).out.free 2
   go_wp2
   refine bodyPost_ret (v := .tuple #[.slice a4 done.length c4, .agg #[.string ⟨#[]⟩, .int .i64 0, .int .i64 0]]) ?_ rfl ⟨⟨_, by rw [(yy HR).2.1, (yy HR).2.2], ?_⟩, ?_⟩
   ·refine lK _ _ w.heap.size _ _ _ rfl rfl ?_
    exact (((yy HST).out.set 0 _).set 1 _).set 2 _
   ·rw [(yy HR).1]
    refine BJ (B := w.heap.size + 1) ?_ (by omega)
    iterate 3 (refine Cy ?_ (Nat.lt_succ_self w.heap.size) _ _)
    exact (yy HST).row
   ·iterate 3 (refine Below.setCell ?_ (Nat.le_refl w.heap.size) _)
    exact (yy HST).bel
  ·have hne : (rem.toList == []) = false := fe (l := []) hr0
   have hne2 : rem.data.toList ≠ [] := fun e => hr0 (ByteArray.ext (by have := congrArg List.toArray e; simpa using this))
   obtain ⟨n, hn⟩ : ∃ n, done.length = n := ⟨_, rfl⟩
   have HN := yz hn
   rw [hn] at hd40 ⊢
   clear hn
   have cC := yz (Da rem 10 wr hrs ((yy HM).kept (yy HST).bel))
   by_cases h10 : (10 : UInt8) ∈ rem.data.toList
   ·obtain ⟨a, b, hab, ha⟩ := qg h10
    rw [hab] at HP
    rw [hab, CZ ha] at cC
    dsimp only at cC
    have hsz : a.length + 1 + b.length = rem.size := by rw [← bg, hab]; simp; omega
    obtain ⟨ab, hab2⟩ : ∃ ab : ByteArray, (⟨a.toArray⟩ : ByteArray) = ab := ⟨_, rfl⟩
    obtain ⟨bb, hbb⟩ : ∃ bb : ByteArray, (⟨b.toArray⟩ : ByteArray) = bb := ⟨_, rfl⟩
    have hA : ab.data.toList = a := by rw [← hab2]
    have hBB : bb.data.toList = b := by rw [← hbb]
    have has : ab.size ≤ 8000 := by rw [← bg, hA]; omega
    have hbs : bb.size < rem.size := by rw [← bg, hBB]; omega
    unfold bW at cC
    rw [hab2, hbb] at cC
    have HA := yz hA
    have HBB := yz hBB
    clear hab hab2 hbb hsz h10 hA hBB hne2
    go_wp2_with fail
    refine (yy cC).mono ?_
    rintro e W1 ⟨rfl, hx⟩
    have HST1 := yz ((yy HST).kept hx)
    clear hx HST cC
    have cR := yz (mt ab W1 has ((yy HM).kept (yy HST1).bel))
    go_wp2_with fail
    refine (yy cR).mono ?_
    rintro e W2 ⟨he, hx⟩
    have HST2 := yz ((yy HST1).kept hx)
    clear hx HST1 cR
    unfold wo at he
    rw [yy HA] at he
    rcases he with ⟨l, hl, hlk, rfl⟩ | ⟨hl, f, t, nn, hf, rfl⟩
    ·obtain ⟨tb, htb⟩ : ∃ tb : ByteArray, (⟨l.t.toArray⟩ : ByteArray) = tb := ⟨_, rfl⟩
     have HTB : Hid (lnC l = [.func (.func (eu l.k)) #[] #[], .string tb, .int .i64 l.n]) := yz (by unfold lnC bW fnV; rw [htb])
     unfold bW fnV
     rw [htb]
     obtain ⟨ln, hln⟩ : ∃ ln, l.n = ln := ⟨_, rfl⟩
     obtain ⟨df, hdf⟩ : ∃ df, eu l.k = df := ⟨_, rfl⟩
     rw [hln, hdf] at HTB ⊢
     clear htb hln hdf
     have Z := an W2 (.cells #[.func (.func df) #[] #[], .string tb, .int .i64 ln] 79)
     have HST3 := yz ((yy HST2).kept Z)
     have D3 := yz (ap W2 [.func (.func df) #[] #[], .string tb, .int .i64 ln] 79)
     clear Z HST2
     go_upto_region 7 with fail
     generalize W2.alloc (.cells #[.func (.func df) #[] #[], .string tb, .int .i64 ln] 79) = W3 at *
     generalize W2.heap.size = lb at *
     by_cases h40 : n = 40
     ·subst h40
      have HR := yz (yy HFT done.length (AC ha (yy HP) hl (by rw [yy HN]; omega)))
      rw [yy HN] at HR
      have r0 := (yy HST3).out.cell 0 _ rfl
      have r1 := (yy HST3).out.cell 1 _ rfl
      have r2 := (yy HST3).out.cell 2 _ rfl
      have f0 := (yy HST3).out.free 0
      have f1 := (yy HST3).out.free 1
      have f2 := (yy HST3).out.free 2
      go_wp2
      refine bodyPost_ret (v := .tuple #[.slice none 0 0, .agg #[.string ⟨#[]⟩, .int .i64 40, .int .i64 3]]) ?_ rfl ⟨⟨_, by rw [(yy HR).2.1, (yy HR).2.2]; rfl, by rw [(yy HR).1]; exact World.ownsRow_nil _ _ _ _⟩, ?_⟩
      ·refine lK _ _ w.heap.size _ _ _ rfl rfl ?_
       exact (((yy HST3).out.set 0 _).set 1 _).set 2 _
      ·iterate 3 (refine Below.setCell ?_ (Nat.le_refl w.heap.size) _)
       exact (yy HST3).bel
     ·have h40' : ((n : Int) == 40) = false := by simpa using (show (n : Int) ≠ 40 by omega)
      have HP2 : Hid (gX s (done ++ [l]) bb.data.toList) := yz (by rw [yy HBB]; exact zN ha (yy HP) hl (by rw [yy HN]; omega))
      obtain ⟨d0, d1, d2⟩ := js (yy D3)
      have Z1 := an W3 (.cells #[.func (.func df) #[] #[], .string tb, .int .i64 ln] 79)
      have ST4 := (yy HST3).kept Z1
      have hown := ST4.row
      rw [yy HN] at hown
      clear Z1 HST3 HP
      go_wp2_with (at_builtin; refine wpList_append_own _ rfl _ _ 47 rfl (w.heap.size + 1) 79 i0 (.agg #[.nilFunc, .string ⟨#[]⟩, .int .i64 0]) 3 32 Tryz.underlying47 hinf hz0 hz1 hz2 rfl (by decide) _ _ _ rfl hown ⟨W3.heap.size, 0, none⟩ 1 1 [.func (.func df) #[] #[], .string tb, .int .i64 ln] rfl rfl ?d2 (fun u hu => by simp at hu; rcases hu with rfl | rfl | rfl <;> rfl) ?d3 ?d4 ?d5 ?_)
      case d2 => exact na _ _ _
      case d3 => omega
      case d4 => omega
      case d5 => exact ST4.low
      intro v7 V7 hown7 hgrow7 _
      have HST7 : Hid (zr w V7 v7 (done ++ [l])) := yz ⟨(hgrow7.block w.heap.size ST4.out.lt (fun e => by have := (hown.lt _ e.symm).1; omega)).trans ST4.out, by rw [vf, yy HTB, List.length_append, yy HN]; exact hown7, nu ST4.bel hgrow7 (by have := ST4.low; omega) (fun g e => by have := (hown.lt _ e).1; omega), Nat.le_trans ST4.low hgrow7.size⟩
      clear hown7 hgrow7 hown ST4 d0 d1 d2 D3
      go_wp2_with fail
      go_roundw
      case rel => exact ⟨bb, done ++ [l], rfl, by omega, by rw [List.length_append, yy HN]; show n + 1 ≤ 40; omega, HP2, HST7⟩
      case measure => show bb.size < rem.size; exact hbs
    ·have HR := yz (yy HFT done.length (Cp ha (yy HP) hl))
     rw [yy HN] at HR
     rcases hf with rfl | ⟨x, rfl⟩
     ·skip
      have Z := an W2 (.cells #[.nilFunc, .string t, .int .i64 nn] 79)
      have HST3 := yz ((yy HST2).kept Z)
      clear Z HST2
      go_upto_region 7 with fail
      generalize W2.alloc (.cells #[.nilFunc, .string t, .int .i64 nn] 79) = W3 at *
      generalize W2.heap.size = lb at *
      have r0 := (yy HST3).out.cell 0 _ rfl
      have r1 := (yy HST3).out.cell 1 _ rfl
      have r2 := (yy HST3).out.cell 2 _ rfl
      have f0 := (yy HST3).out.free 0
      have f1 := (yy HST3).out.free 1
      have f2 := (yy HST3).out.free 2
      go_wp2
      refine bodyPost_ret (v := .tuple #[.slice none 0 0, .agg #[.string ⟨#[]⟩, .int .i64 n, .int .i64 3]]) ?_ rfl ⟨⟨_, by rw [(yy HR).2.1, (yy HR).2.2], by rw [(yy HR).1]; exact World.ownsRow_nil _ _ _ _⟩, ?_⟩
      ·refine lK _ _ w.heap.size _ _ _ rfl rfl ?_
       exact (((yy HST3).out.set 0 _).set 1 _).set 2 _
      ·iterate 3 (refine Below.setCell ?_ (Nat.le_refl w.heap.size) _)
       exact (yy HST3).bel
     ·unfold fnV
      have Z := an W2 (.cells #[.func (.func x) #[] #[], .string t, .int .i64 nn] 79)
      have HST3 := yz ((yy HST2).kept Z)
      clear Z HST2
      go_upto_region 7 with fail
      generalize W2.alloc (.cells #[.func (.func x) #[] #[], .string t, .int .i64 nn] 79) = W3 at *
      generalize W2.heap.size = lb at *
      have r0 := (yy HST3).out.cell 0 _ rfl
      have r1 := (yy HST3).out.cell 1 _ rfl
      have r2 := (yy HST3).out.cell 2 _ rfl
      have f0 := (yy HST3).out.free 0
      have f1 := (yy HST3).out.free 1
      have f2 := (yy HST3).out.free 2
      go_wp2
      refine bodyPost_ret (v := .tuple #[.slice none 0 0, .agg #[.string ⟨#[]⟩, .int .i64 n, .int .i64 3]]) ?_ rfl ⟨⟨_, by rw [(yy HR).2.1, (yy HR).2.2], by rw [(yy HR).1]; exact World.ownsRow_nil _ _ _ _⟩, ?_⟩
      ·refine lK _ _ w.heap.size _ _ _ rfl rfl ?_
       exact (((yy HST3).out.set 0 _).set 1 _).set 2 _
      ·iterate 3 (refine Below.setCell ?_ (Nat.le_refl w.heap.size) _)
       exact (yy HST3).bel
   ·have HR := yz (yy HFT done.length (Aq h10 hne2 (yy HP)))
    rw [yy HN] at HR
    rw [AG h10] at cC
    dsimp only at cC
    unfold bW at cC
    rw [show (⟨rem.data.toList.toArray⟩ : ByteArray) = rem from ByteArray.ext (by simp)] at cC
    clear HP HFT HG
    go_wp2_with fail
    refine (yy cC).mono ?_
    rintro e W1 ⟨rfl, hx⟩
    have HST1 := yz ((yy HST).kept hx)
    clear hx HST cC
    have cR := yz (mt rem W1 hrs ((yy HM).kept (yy HST1).bel))
    go_wp2_with fail
    refine (yy cR).mono ?_
    rintro e W2 ⟨he, hx⟩
    have HST2 := yz ((yy HST1).kept hx)
    clear hx HST1 cR
    rcases he with ⟨l, hl, hlk, rfl⟩ | ⟨hl, f, t, nn, hf, rfl⟩
    ·obtain ⟨t, ht⟩ : ∃ tb : ByteArray, (⟨l.t.toArray⟩ : ByteArray) = tb := ⟨_, rfl⟩
     unfold bW fnV
     rw [ht]
     obtain ⟨nn, hln⟩ : ∃ ln, l.n = ln := ⟨_, rfl⟩
     obtain ⟨df, hdf⟩ : ∃ df, eu l.k = df := ⟨_, rfl⟩
     rw [hln, hdf]
     clear ht hln hdf
     have Z := an W2 (.cells #[.func (.func df) #[] #[], .string t, .int .i64 nn] 79)
     have HST3 := yz ((yy HST2).kept Z)
     clear Z HST2
     go_upto_region 7 with fail
     generalize W2.alloc (.cells #[.func (.func df) #[] #[], .string t, .int .i64 nn] 79) = W3 at *
     generalize W2.heap.size = lb at *
     have r0 := (yy HST3).out.cell 0 _ rfl
     have r1 := (yy HST3).out.cell 1 _ rfl
     have r2 := (yy HST3).out.cell 2 _ rfl
     have f0 := (yy HST3).out.free 0
     have f1 := (yy HST3).out.free 1
     have f2 := (yy HST3).out.free 2
     go_wp2
     refine bodyPost_ret (v := .tuple #[.slice none 0 0, .agg #[.string ⟨#[]⟩, .int .i64 n, .int .i64 3]]) ?_ rfl ⟨⟨_, by rw [(yy HR).2.1, (yy HR).2.2], by rw [(yy HR).1]; exact World.ownsRow_nil _ _ _ _⟩, ?_⟩
     ·refine lK _ _ w.heap.size _ _ _ rfl rfl ?_
      exact (((yy HST3).out.set 0 _).set 1 _).set 2 _
     ·iterate 3 (refine Below.setCell ?_ (Nat.le_refl w.heap.size) _)
      exact (yy HST3).bel
    ·rcases hf with rfl | ⟨x, rfl⟩
     ·skip
      have Z := an W2 (.cells #[.nilFunc, .string t, .int .i64 nn] 79)
      have HST3 := yz ((yy HST2).kept Z)
      clear Z HST2
      go_upto_region 7 with fail
      generalize W2.alloc (.cells #[.nilFunc, .string t, .int .i64 nn] 79) = W3 at *
      generalize W2.heap.size = lb at *
      have r0 := (yy HST3).out.cell 0 _ rfl
      have r1 := (yy HST3).out.cell 1 _ rfl
      have r2 := (yy HST3).out.cell 2 _ rfl
      have f0 := (yy HST3).out.free 0
      have f1 := (yy HST3).out.free 1
      have f2 := (yy HST3).out.free 2
      go_wp2
      refine bodyPost_ret (v := .tuple #[.slice none 0 0, .agg #[.string ⟨#[]⟩, .int .i64 n, .int .i64 3]]) ?_ rfl ⟨⟨_, by rw [(yy HR).2.1, (yy HR).2.2], by rw [(yy HR).1]; exact World.ownsRow_nil _ _ _ _⟩, ?_⟩
      ·refine lK _ _ w.heap.size _ _ _ rfl rfl ?_
       exact (((yy HST3).out.set 0 _).set 1 _).set 2 _
      ·iterate 3 (refine Below.setCell ?_ (Nat.le_refl w.heap.size) _)
       exact (yy HST3).bel
     ·unfold fnV
      have Z := an W2 (.cells #[.func (.func x) #[] #[], .string t, .int .i64 nn] 79)
      have HST3 := yz ((yy HST2).kept Z)
      clear Z HST2
      go_upto_region 7 with fail
      generalize W2.alloc (.cells #[.func (.func x) #[] #[], .string t, .int .i64 nn] 79) = W3 at *
      generalize W2.heap.size = lb at *
      have r0 := (yy HST3).out.cell 0 _ rfl
      have r1 := (yy HST3).out.cell 1 _ rfl
      have r2 := (yy HST3).out.cell 2 _ rfl
      have f0 := (yy HST3).out.free 0
      have f1 := (yy HST3).out.free 1
      have f2 := (yy HST3).out.free 2
      go_wp2
      refine bodyPost_ret (v := .tuple #[.slice none 0 0, .agg #[.string ⟨#[]⟩, .int .i64 n, .int .i64 3]]) ?_ rfl ⟨⟨_, by rw [(yy HR).2.1, (yy HR).2.2], by rw [(yy HR).1]; exact World.ownsRow_nil _ _ _ _⟩, ?_⟩
      ·refine lK _ _ w.heap.size _ _ _ rfl rfl ?_
       exact (((yy HST3).out.set 0 _).set 1 _).set 2 _
      ·iterate 3 (refine Below.setCell ?_ (Nat.le_refl w.heap.size) _)
       exact (yy HST3).bel
end
end Go.Proofs.YtlleafjdgblhcaaGreatDoor
