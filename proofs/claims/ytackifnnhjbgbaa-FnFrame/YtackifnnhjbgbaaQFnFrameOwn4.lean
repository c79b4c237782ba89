/- Several texts in one: BlC, SpD, DrG, DrH, DrI. -/
import Derived.Test.YtackifnnhjbgbaaQFnFrameOwn3
import Derived.Test.YtackifnnhjbgbaaQFnFrameOwn2
namespace Go.Proofs.Ytackifnnhjbgbaa
set_option linter.unusedVariables false
set_option linter.unusedSimpArgs false
set_option maxRecDepth 100000
set_option maxHeartbeats 8000000
section
open Go.RowKit Go.Sort
theorem eR : (Try.prog.info? 44).map (fun i => (i.zero, i.size, i.bytes)) = some (some (.agg #[.int .i64 0, .int .i64 0, .int .i64 0, .int .i64 0, .bool false]), 5, 40) := by kernel_rfl
theorem gZ : (Try.prog.info? 4).map (fun i => (i.zero, i.size, i.bytes)) = some (some (.bool false), 1, 1) := by kernel_rfl
theorem io (n : Nat) (h : n ≤ 281474976710656) : ∃ M : Array Value, (∀ j, j < n → M[j]? = some (.bool false)) ∧ ∀ W : World, (Instr.makeSlice 57 (.int .i64 (n : Int)) (.int .i64 (n : Int))).run Try.prog W = .ok (.slice (some ⟨W.heap.size, 0, none⟩) n n) (W.alloc (.cells M 4)) := by
 obtain ⟨i0, hi, hz0, hz1, hz2⟩ := info_parts gZ
 refine ⟨madeCells (Value.bool false).cells (((n : Nat) : Int).toNat * i0.size), fun j hj => ?_, fun W => ?_⟩
 ·rw [hz1, ← Array.getElem?_toList]
  have e : (Value.bool false).cells = #[.bool false] := rfl
  rw [e, toList_madeCells_one]
  simp [hj]
 ·have h := run_make (P := Try.prog) W 57 4 i0 (.bool false) Try.underlying57 hi hz0 .i64 .i64 (n : Int) (n : Int) (by omega) (by omega) (by rw [hz2]; omega) (by omega)
  simpa using h
def ba (S : List Bl) : List Value := S.flatMap aZ
theorem eP (A B : List Bl) : ba (A ++ B) = ba A ++ ba B := by unfold ba; rw [List.flatMap_append]
theorem dY {S : List Bl} {v : Value} (h : v ∈ ba S) : v.oneCell' = true := by
 unfold ba at h
 rw [List.mem_flatMap] at h
 obtain ⟨p, _, hp⟩ := h
 simp [aZ] at hp
 rcases hp with rfl | rfl | rfl | rfl | rfl <;> rfl
def dG (lv : Int) : Bool := decide (0 ≤ lv) && decide (lv ≤ 255)
def okB (wd ht : Int) (s : ByteArray) (lv : Int) : Bool := av wd ht s && dG lv
def cb (wd ht : Int) (s : ByteArray) (lv : Int) : List Bl := (ak (aK wd.toNat ht.toNat s lv) s.size).2
def bp (wd ht : Int) (s : ByteArray) (lv : Int) : List Bl := if okB wd ht s lv = true then (if (cb wd ht s lv).length ≤ 8 then cb wd ht s lv else []) else []
def bu (wd ht : Int) (s : ByteArray) (lv : Int) : Int := if okB wd ht s lv = true then (if (cb wd ht s lv).length ≤ 8 then 0 else 9) else 1
theorem dO {wd ht : Int} {s : ByteArray} {lv : Int} (h : okB wd ht s lv = false) : bp wd ht s lv = [] ∧ bu wd ht s lv = 1 := by unfold bp bu; rw [h]; exact ⟨rfl, rfl⟩
theorem eX {wd ht : Int} {s : ByteArray} {lv : Int} (h : okB wd ht s lv = true) (h2 : ¬ (cb wd ht s lv).length ≤ 8) : bp wd ht s lv = [] ∧ bu wd ht s lv = 9 := by unfold bp bu; rw [if_pos h, if_pos h, if_neg h2, if_neg h2]; exact ⟨rfl, rfl⟩
theorem di {wd ht : Int} {s : ByteArray} {lv : Int} (h : okB wd ht s lv = true) (h2 : (cb wd ht s lv).length ≤ 8) : bp wd ht s lv = cb wd ht s lv ∧ bu wd ht s lv = 0 := by unfold bp bu; rw [if_pos h, if_pos h, if_pos h2, if_pos h2]; exact ⟨rfl, rfl⟩
structure bj (w wx : World) (fb ob xb sb : Nat) (wd ht : Nat) (s : ByteArray) (lv : Int) (T1 : Nat → Bool) : Prop where
 seen : bk wx sb s.size T1
 look : cf wx xb wd ht s lv sb s.size
 fr : Blk wx fb [.int .i64 wd, .int .i64 ht, .string s] 26
 res : Blk wx ob [.slice none 0 0, .int .i64 0] 34
 bel : Below w.heap.size w wx
theorem bj.kept {w wx wy : World} {fb ob xb sb wd ht : Nat} {s : ByteArray} {lv : Int} {T1 : Nat → Bool} (h : bj w wx fb ob xb sb wd ht s lv T1) (hB : Below wx.heap.size wx wy) : bj w wy fb ob xb sb wd ht s lv T1 :=
 ⟨aH.kept h.seen hB, Blk.kept h.look hB, h.fr.kept hB, h.res.kept hB, aj h.bel hB⟩
theorem bj.byRow {w wx wy : World} {fb ob xb sb wd ht : Nat} {s : ByteArray} {lv : Int} {T1 : Nat → Bool} {row : Option Nat} {lo : Nat} (h : bj w wx fb ob xb sb wd ht s lv T1) (hg : wx.grownBy wy row) (hr : ∀ g, row = some g → lo ≤ g) (h1 : fb < lo) (h2 : ob < lo) (h3 : xb < lo) (h4 : sb < lo) (h5 : w.heap.size ≤ lo) : bj w wy fb ob xb sb wd ht s lv T1 := by
 have ne : ∀ b, b < lo → some b ≠ row := fun b hb e => by have := hr b e.symm; omega
 refine ⟨aH.grown h.seen hg (ne _ h4), Blk.grown h.look hg (ne _ h3), h.fr.grown hg (ne _ h1), h.res.grown hg (ne _ h2), h.bel.trans ⟨hg.os, hg.tape, hg.output, hg.size, fun k hk => hg.block k (Nat.lt_of_lt_of_le hk h.bel.size) (ne k (by omega))⟩⟩
theorem bj.seenBy {w wx wy : World} {fb ob xb sb wd ht : Nat} {s : ByteArray} {lv : Int} {T1 T2 : Nat → Bool} (h : bj w wx fb ob xb sb wd ht s lv T1) (hg : wx.grownBy wy (some sb)) (hs : bk wy sb s.size T2) (h1 : fb ≠ sb) (h2 : ob ≠ sb) (h3 : xb ≠ sb) (h5 : w.heap.size ≤ sb) : bj w wy fb ob xb sb wd ht s lv T2 :=
 ⟨hs, Blk.grown h.look hg (fun e => h3 (Option.some.inj e)), h.fr.grown hg (fun e => h1 (Option.some.inj e)), h.res.grown hg (fun e => h2 (Option.some.inj e)), h.bel.trans ⟨hg.os, hg.tape, hg.output, hg.size, fun k hk => hg.block k (Nat.lt_of_lt_of_le hk h.bel.size) (fun e => by have := Option.some.inj e; omega)⟩⟩
theorem ib (w : World) (B : Nat) (h : B ≤ w.heap.size) : (w.alloc (.cells #[] 44)).ownsRow B 44 5 (.slice (some ⟨w.heap.size, 0, none⟩) 0 0) 0 (ba []) :=
 ⟨rfl, .inr ⟨_, 0, #[], rfl, h, Array.getElem?_push_size, Nat.le_refl _, Nat.zero_le _, rfl, rfl⟩⟩
theorem cv {w : World} {B B' n m : Nat} {t : TypeId} {v : Value} {xs : List Value} (h : w.ownsRow B t m v n xs) (hb : B' ≤ B) : w.ownsRow B' t m v n xs := by
 obtain ⟨h1, h2⟩ := h
 refine ⟨h1, ?_⟩
 rcases h2 with h2 | ⟨g, cap, cur, e, hg, r⟩
 ·exact .inl h2
 ·exact .inr ⟨g, cap, cur, e, by omega, r⟩
theorem fW {w : World} {B n m : Nat} {t : TypeId} {v : Value} {xs : List Value} (h : w.ownsRow B t m v n xs) (b : Nat) (hne : ∀ z, v.ownBlock = some z → z ≠ b) (x y : Value) : ((w.setCell ⟨b, 0, none⟩ x).setCell ⟨b, 1, none⟩ y).ownsRow B t m v n xs := by
 have hg : ∀ (w : World) (i : Nat) (x : Value), w.grownBy (w.setCell ⟨b, i, none⟩ x) (some b) := fun w i x => ⟨rfl, rfl, rfl, by simp [World.setCell], fun k _ hk => Below.heap_setCell _ _ _ _ (fun e => hk (by rw [e]))⟩
 have ho : v.ownBlock = none ∨ v.ownBlock ≠ some b := by
  cases hv : v.ownBlock with
  | none => exact .inl rfl
  | some z => exact .inr (fun e => hne z hv (Option.some.inj e))
 exact (h.kept (hg w 0 x) ho).kept (hg _ 1 y) ho
theorem bQ (w : World) (vs : List Value) (t : TypeId) : ∀ (j : Nat) (u : Value), vs[j]? = some u → (w.alloc (.cells vs.toArray t)).cell? ((⟨w.heap.size, 0, none⟩ : Addr).add j) = some u := by
 intro j u hj
 have e : (⟨w.heap.size, 0, none⟩ : Addr).add j = ⟨w.heap.size, j, none⟩ := by cases j <;> simp [Addr.add]
 rw [e]
 simp [hj]
theorem dJ (wd ht : Int) (s : ByteArray) (lv : Int) (w : World) (hs : s.size ≤ maxLen) :
  Calls Try.prog 11 #[.agg #[.int .i64 wd, .int .i64 ht, .string s], .int .i64 lv] w fun e w' => (∃ v, e = .returned (.agg #[v, .int .i64 (bu wd ht s lv)]) ∧ w'.ownsRow w.heap.size 44 5 v (bp wd ht s lv).length (ba (bp wd ht s lv))) ∧ Below w.heap.size w w' := by
 have A0 := (al w [.int .i64 wd, .int .i64 ht, .string s] 26).alloc (.cells #[.slice none 0 0, .int .i64 0] 34)
 have R0 := al (w.alloc (.cells #[.int .i64 wd, .int .i64 ht, .string s] 26)) [.slice none 0 0, .int .i64 0] 34
 have e1 : (w.alloc (.cells #[.int .i64 wd, .int .i64 ht, .string s] 26)).heap.size = w.heap.size + 1 := by simp
 rw [e1] at R0
 have B0 := be w (.cells #[.int .i64 wd, .int .i64 ht, .string s] 26) (.cells #[.slice none 0 0, .int .i64 0] 34)
 clear e1
 have cF := yz (fun W => aJ wd ht s W)
 go_enter Try.func11, Try.ntmps11
 go_wp2_with fail
 generalize (w.alloc (.cells #[.int .i64 wd, .int .i64 ht, .string s] 26)).alloc (.cells #[.slice none 0 0, .int .i64 0] 34) = W0 at A0 R0 B0 ⊢
 obtain ⟨ob, hob⟩ : ∃ ob, ob = w.heap.size + 1 := ⟨_, rfl⟩
 obtain ⟨fb, hfb⟩ : ∃ fb, fb = w.heap.size := ⟨_, rfl⟩
 rw [← hob] at R0 ⊢
 rw [← hfb] at A0 ⊢
 have lfb : w.heap.size ≤ fb := by omega
 have lob : w.heap.size ≤ ob := by omega
 have lne : fb ≠ ob := by omega
 clear hob hfb
 refine (yx cF _).mono ?_
 rintro e W1 ⟨rfl, hx⟩
 have A1 := A0.kept hx
 have R1 := R0.kept hx
 have B1 := aj B0 hx
 clear hx A0 R0 B0
 have r0 := R1.cell 0 _ rfl
 have r1 := R1.cell 1 _ rfl
 have g0 := R1.free 0
 have g1 := R1.free 1
 cases k1 : av wd ht s
 case false =>
  have HV := yz (dO (wd := wd) (ht := ht) (s := s) (lv := lv) (by unfold okB; rw [k1]; rfl))
  go_wp2_with fail
  rw [(yx HV).1, (yx HV).2]
  exact bodyPost_ret (v := .agg #[.slice none 0 0, .int .i64 1]) (by simp [results, Try.results11, go_sem, r0, r1]) rfl ⟨⟨_, rfl, World.ownsRow_nil _ _ _ _⟩, (B1.setCell lob _).setCell lob _⟩
 obtain ⟨a0, a1, a2⟩ := cd (A1)
 go_wp2_with fail
 refine (dy lv 0 255 _).mono ?_
 rintro e W2 ⟨rfl, hw⟩
 rw [hw]
 clear hw W2
 rw [show (decide (0 ≤ lv) && decide (lv ≤ 255)) = dG lv from rfl]
 cases k2 : dG lv
 case false =>
  have HV := yz (dO (wd := wd) (ht := ht) (s := s) (lv := lv) (by unfold okB; rw [k1, k2]; rfl))
  go_wp2_with fail
  rw [(yx HV).1, (yx HV).2]
  exact bodyPost_ret (v := .agg #[.slice none 0 0, .int .i64 1]) (by simp [results, Try.results11, go_sem, r0, r1]) rfl ⟨⟨_, rfl, World.ownsRow_nil _ _ _ _⟩, (B1.setCell lob _).setCell lob _⟩
 have hok : okB wd ht s lv = true := by unfold okB; rw [k1, k2]; rfl
 obtain ⟨f1, f2, f3, f4, f5⟩ := au.1 k1
 obtain ⟨wn, hwn⟩ := Int.eq_ofNat_of_zero_le (show 0 ≤ wd by omega)
 obtain ⟨hn, hhn⟩ := Int.eq_ofNat_of_zero_le (show 0 ≤ ht by omega)
 subst hwn hhn
 have hsz : s.size = wn * hn := by
  have : ((s.size : Nat) : Int) = ((wn * hn : Nat) : Int) := by rw [f5]; exact (Int.natCast_mul _ _).symm
  omega
 have hn192 : s.size ≤ 192 := by have := Nat.mul_le_mul (show wn ≤ 16 by omega) (show hn ≤ 12 by omega); omega
 have HSZ := yz hsz
 have HOK := yz hok
 clear hsz hok k1 k2 f5 hs
 obtain ⟨M, hM, hmk⟩ := io s.size (by omega)
 obtain ⟨i0, hinf, hz0, hz1, hz2⟩ := info_parts eR
 have hm8 : 400 ≤ maxLen := by decide +kernel
 have hfl := A1.lt
 have hol := R1.lt
 go_upto_region 3 with fail
 go_region
 have Z2 := be W1 (.cells M 4) (.cells #[.int .i64 (wn : Int), .int .i64 (hn : Int), .string s, .int .i64 lv, .slice (some ⟨W1.heap.size, 0, none⟩) s.size s.size] 59)
 have s0 : bk (W1.alloc (.cells M 4)) W1.heap.size s.size (fun _ => false) := ⟨M, heap_alloc_new W1 _, hM⟩
 have x0 := al (W1.alloc (.cells M 4)) (jC wn hn s lv W1.heap.size s.size) 59
 have e1 : (W1.alloc (.cells M 4)).heap.size = W1.heap.size + 1 := by simp
 rw [e1] at x0
 have ST0 : bj w ((W1.alloc (.cells M 4)).alloc (.cells #[.int .i64 (wn : Int), .int .i64 (hn : Int), .string s, .int .i64 lv, .slice (some ⟨W1.heap.size, 0, none⟩) s.size s.size] 59)) fb ob (W1.heap.size + 1) W1.heap.size wn hn s lv (fun _ => false) :=
  ⟨aH.kept s0 (an _ _), x0, A1.kept Z2, R1.kept Z2, aj B1 Z2⟩
 have e2 : ((W1.alloc (.cells M 4)).alloc (.cells #[.int .i64 (wn : Int), .int .i64 (hn : Int), .string s, .int .i64 lv, .slice (some ⟨W1.heap.size, 0, none⟩) s.size s.size] 59)).heap.size = W1.heap.size + 1 + 1 := by simp
 have ST1 : bj w ((W1.alloc (.cells M 4)).alloc (.cells #[.int .i64 (wn : Int), .int .i64 (hn : Int), .string s, .int .i64 lv, .slice (some ⟨W1.heap.size, 0, none⟩) s.size s.size] 59)).drew fb ob (W1.heap.size + 1) W1.heap.size wn hn s lv (fun _ => false) := ⟨ST0.seen.drewn, Blk.drewn ST0.look, ST0.fr.drewn, ST0.res.drewn, ST0.bel.drew⟩
 have e3 : ((W1.alloc (.cells M 4)).alloc (.cells #[.int .i64 (wn : Int), .int .i64 (hn : Int), .string s, .int .i64 lv, .slice (some ⟨W1.heap.size, 0, none⟩) s.size s.size] 59)).drew.heap.size = W1.heap.size + 1 + 1 := e2
 clear ST0 Z2 s0 x0 e1 e2 hmk hM a0 a1 a2 r0 r1 g0 g1 A1 R1
 have hW1 := B1.size
 clear B1
 generalize ((W1.alloc (.cells M 4)).alloc (.cells #[.int .i64 (wn : Int), .int .i64 (hn : Int), .string s, .int .i64 lv, .slice (some ⟨W1.heap.size, 0, none⟩) s.size s.size] 59)).drew = W4 at ST1 e3 ⊢
 obtain ⟨sb, hsb⟩ : ∃ sb, sb = W1.heap.size := ⟨_, rfl⟩
 obtain ⟨xb, hxb⟩ : ∃ xb, xb = W1.heap.size + 1 := ⟨_, rfl⟩
 rw [← hxb, ← hsb] at ST1
 rw [← hxb]
 have hlt1 : fb < sb := by omega
 have hlt2 : ob < sb := by omega
 have hlt3 : sb < xb := by omega
 have hlt4 : w.heap.size ≤ sb := by omega
 have hlo : xb < W4.heap.size := by omega
 clear hsb hxb hfl hol hW1 e3
 have HST := yz (ST1.kept (an W4 (.cells #[] 44)))
 have HO := yz (ib W4 W4.heap.size (Nat.le_refl _))
 clear ST1
 generalize hfe : aK wn hn s lv = f
 have HF := yz hfe
 clear hfe
 have hfn : f.n = s.size := by rw [← yx HF]; exact (yx HSZ).symm
 have HFN := yz hfn
 clear hfn
 go_wp2_with fail
 generalize hlw : W4.heap.size = lo at *
 clear hlw
 generalize W4.alloc (.cells #[] 44) = W5 at HST HO ⊢
 go_loopw [6, 7] (fun v kk wr => ∃ k : Nat, k ≤ s.size ∧ kk = .int .i64 k ∧ Hid (wr.ownsRow lo 44 5 v (ak f k).2.length (ba (ak f k).2)) ∧ Hid (bj w wr fb ob xb sb wn hn s lv (ak f k).1) ∧ lo ≤ wr.heap.size) (fun _ kk _ => s.size - (intOf kk).toNat)
 case atStart => exact ⟨0, Nat.zero_le _, rfl, HO, HST, by have := ((yx HO).lt lo rfl).2; omega⟩
 case round =>
  clear HO HST
  obtain ⟨k, hk, rfl, HO, HST, hlow⟩ := hrel
  have a2 := (yx HST).fr.cell 2 _ rfl
  by_cases hkn : k < s.size
  ·have hkn2 : (k : Int) < (s.size : Int) := by omega
   have HSC : Hid (ak f (k + 1) = if bH f (ak f k).1 k = true then ((aB f (ak f k).1 k).1, (ak f k).2 ++ [aX f (aB f (ak f k).1 k).2]) else ak f k) := yz rfl
   have hsl := cN f k
   generalize ak f k = Sc at *
   obtain ⟨T1, S1⟩ := Sc
   simp only at *
   go_wp2_with fail
   refine (dE wn hn s lv xb sb s.size k T1 _ rfl hkn (yx HST).look (yx HST).seen).mono ?_
   rintro e W6 ⟨rfl, hx⟩
   rw [yx HF]
   have HST2 := yz ((yx HST).kept hx)
   have HO2 := yz (aq (yx HO) hx)
   have hlow2 := Nat.le_trans hlow hx.size
   clear HST HO hx a2 hlow
   cases hl : bH f T1 k
   ·rw [hl] at HSC
    have HSC2 : Hid (ak f (k + 1) = (T1, S1)) := HSC
    have HO3 : Hid (W6.ownsRow lo 44 5 u6 (ak f (k + 1)).2.length (ba (ak f (k + 1)).2)) := yz (by rw [yx HSC2]; exact yx HO2)
    have HST3 : Hid (bj w W6 fb ob xb sb wn hn s lv (ak f (k + 1)).1) := yz (by rw [yx HSC2]; exact yx HST2)
    go_wp2_with fail
    go_roundw
    case rel => exact ⟨k + 1, by omega, by go_num, HO3, HST3, hlow2⟩
    case measure => simp [intOf] <;> omega
   ·rw [hl, if_pos rfl] at HSC
    have hT := (eh hl).2
    have cG := yz (fun (W : World) h1 h2 => fG wn hn s lv xb sb k T1 W (by omega) (by omega) (by omega) (by omega) (yx HSZ) hkn hT (by omega) h1 h2)
    rw [yx HF] at cG
    clear hl hT
    generalize hbp : aB f T1 k = Bp at *
    clear hbp
    obtain ⟨T2, Ab⟩ := Bp
    simp only at HSC cG
    generalize aX f Ab = b at *
    obtain ⟨ar, su, sx, sy, ed⟩ := b
    have cG' : Hid (∀ W : World, cf W xb wn hn s lv sb s.size → bk W sb s.size T1 → Calls Try.prog 27 #[.pointer (some ⟨xb, 0, none⟩), .int .i64 k] W fun e w' => e = .returned (.agg #[.int .i64 ar, .int .i64 su, .int .i64 sx, .int .i64 sy, .bool ed]) ∧ bk w' sb s.size T2 ∧ W.grownBy w' (some sb)) := cG
    clear cG
    go_wp2_with fail
    refine (yx cG' _ (yx HST2).look (yx HST2).seen).mono ?_
    rintro e W7 ⟨rfl, hs7, hg7⟩
    have HST3 := yz ((yx HST2).seenBy hg7 hs7 (by omega) (by omega) (by omega) hlt4)
    have HO3 := yz ((yx HO2).kept hg7 (by
     cases hv : u6.ownBlock with
     | none => exact .inl rfl
     | some z => exact .inr (fun e => by have := ((yx HO2).lt z hv).1; have := Option.some.inj e; omega)))
    have hlow3 := Nat.le_trans hlow2 hg7.size
    clear hs7 hg7 HST2 HO2
    have Z1 := an W7 (.cells #[.int .i64 ar, .int .i64 su, .int .i64 sx, .int .i64 sy, .bool ed] 44)
    have hown := aq (yx HO3) Z1
    have ST4 := (yx HST3).kept Z1
    clear Z1
    go_wp2_with (at_builtin; refine wpList_append_own _ rfl _ _ 32 rfl lo 44 i0 (.agg #[.int .i64 0, .int .i64 0, .int .i64 0, .int .i64 0, .bool false]) 5 40 Try.underlying32 hinf hz0 hz1 hz2 rfl (by decide) _ _ _ rfl hown ⟨W7.heap.size, 0, none⟩ 1 1 (ba [⟨ar, su, sx, sy, ed⟩]) rfl rfl ?d2 (fun u hu => dY hu) ?d3 ?d4 ?d5 ?_)
    case d2 => first | exact fun j u h => h | exact bQ _ _ _
    case d3 => omega
    case d4 => omega
    case d5 => first | omega | (simp; omega)
    intro v7 V7 hown7 hgrow7 _
    have ST5 := ST4.byRow hgrow7 (fun q e => (hown.lt q e).1) (by omega) (by omega) (by omega) (by omega) (by omega)
    have hsz7 := hgrow7.size
    have HO5 : Hid (V7.ownsRow lo 44 5 v7 (ak f (k + 1)).2.length (ba (ak f (k + 1)).2)) := yz (by rw [yx HSC, eP, List.length_append]; exact hown7)
    have HST5 : Hid (bj w V7 fb ob xb sb wn hn s lv (ak f (k + 1)).1) := yz (by rw [yx HSC]; exact ST5)
    have hlow5 : lo ≤ V7.heap.size := by simp at hsz7; omega
    clear hown7 hgrow7 hown ST4 ST5 hsz7
    go_wp2_with fail
    go_roundw
    case rel => exact ⟨k + 1, by omega, by go_num, HO5, HST5, hlow5⟩
    case measure => simp [intOf] <;> omega
  ·have hke : k = s.size := by omega
   subst hke
   have HAL : Hid (cb wn hn s lv = (ak f s.size).2) := yz (by unfold cb; rw [← yx HF]; rfl)
   have r0 := (yx HST).res.cell 0 _ rfl
   have r1 := (yx HST).res.cell 1 _ rfl
   have g0 := (yx HST).res.free 0
   have g1 := (yx HST).res.free 1
   have hB := (yx HST).bel
   obtain ⟨a6, cap6, hv6⟩ := aF (yx HO)
   subst hv6
   by_cases h8 : (ak f s.size).2.length ≤ 8
   ·have HV := yz (di (yx HOK) (by rw [yx HAL]; exact h8))
    rw [yx HAL] at HV
    have h8' : ¬ (8 : Int) < ((ak f s.size).2.length : Int) := by omega
    have HO9 := cv (yx HO) (show w.heap.size ≤ lo by omega)
    have HO10 := fW HO9 ob (by
     intro z e
     have := ((yx HO).lt z e).1
     omega) (.slice a6 (ak f s.size).2.length cap6) (.int .i64 0)
    clear HO9
    generalize ak f s.size = Sf at *
    obtain ⟨T1, S1⟩ := Sf
    simp only at *
    go_wp2_with fail
    rw [(yx HV).1, (yx HV).2]
    exact bodyPost_ret (v := .agg #[.slice a6 S1.length cap6, .int .i64 0]) (by simp [results, Try.results11, go_sem, r0, r1]) rfl ⟨⟨_, rfl, HO10⟩, (hB.setCell lob _).setCell lob _⟩
   ·have HV := yz (eX (yx HOK) (by rw [yx HAL]; exact h8))
    have h8' : (8 : Int) < ((ak f s.size).2.length : Int) := by omega
    generalize ak f s.size = Sf at *
    obtain ⟨T1, S1⟩ := Sf
    simp only at *
    go_wp2_with fail
    rw [(yx HV).1, (yx HV).2]
    exact bodyPost_ret (v := .agg #[.slice none 0 0, .int .i64 9]) (by simp [results, Try.results11, go_sem, r0, r1]) rfl ⟨⟨_, rfl, World.ownsRow_nil _ _ _ _⟩, (hB.setCell lob _).setCell lob _⟩
structure StS (w wr : World) (fb lo : Nat) (wd ht : Int) (s : ByteArray) (a : Option Addr) (n c : Nat) (S : List Bl) : Prop where
 fr : Blk wr fb [.int .i64 wd, .int .i64 ht, .string s] 26
 bl : wr.ownsRow w.heap.size 44 5 (.slice a n c) n (ba S)
 lt : ∀ z, (Value.slice a n c).ownBlock = some z → z < lo
 lf : fb < lo
 lw : w.heap.size ≤ lo
 ll : lo ≤ wr.heap.size
 bel : Below w.heap.size w wr
theorem StS.kept {w wr wy : World} {fb lo : Nat} {wd ht : Int} {s : ByteArray} {a : Option Addr} {n c : Nat} {S : List Bl} (h : StS w wr fb lo wd ht s a n c S) (hB : Below wr.heap.size wr wy) : StS w wy fb lo wd ht s a n c S :=
 ⟨h.fr.kept hB, aq h.bl hB, h.lt, h.lf, h.lw, Nat.le_trans h.ll hB.size, aj h.bel hB⟩
theorem StS.byRow {w wr wy : World} {fb lo : Nat} {wd ht : Int} {s : ByteArray} {a : Option Addr} {n c : Nat} {S : List Bl} {row : Option Nat} (h : StS w wr fb lo wd ht s a n c S) (hg : wr.grownBy wy row) (hr : ∀ g, row = some g → lo ≤ g) : StS w wy fb lo wd ht s a n c S := by
 have ne : ∀ b, b < lo → some b ≠ row := fun b hb e => by have := hr b e.symm; omega
 refine ⟨h.fr.grown hg (ne _ h.lf), h.bl.kept hg ?_, h.lt, h.lf, h.lw, Nat.le_trans h.ll hg.size, h.bel.trans ⟨hg.os, hg.tape, hg.output, hg.size, fun k hk => hg.block k (Nat.lt_of_lt_of_le hk h.bel.size) (ne k (by have := h.lw; omega))⟩⟩
 cases hv : (Value.slice a n c).ownBlock with
 | none => exact .inl rfl
 | some z => exact .inr (fun e => by have := h.lt z hv; exact ne z this e)
end
section
open Go.RowKit Go.Sort
structure cU (w wr : World) (b rb : Nat) : Prop where
 src : aL b wr
 res : Blk wr rb [.int .i64 0, .int .i64 0, .int .i64 0, .int .i64 0, .bool false] 44
 gr : w.grownBy wr (some b)
 lb : b < w.heap.size
 lr : w.heap.size ≤ rb
theorem cU.call {w wr wy : World} {b rb : Nat} (h : cU w wr b rb) (hS : aL b wy) (hg : wr.grownBy wy (some b)) : cU w wy b rb :=
 ⟨hS, h.res.grownC hg (by have := h.lb; have := h.lr; omega), aR h.gr hg, h.lb, h.lr⟩
theorem cU.below {w wr wy : World} {b rb : Nat} (h : cU w wr b rb) (hB : Below wr.heap.size wr wy) : cU w wy b rb :=
 h.call (h.src.kept (row := none) ⟨hB.os, hB.tape, hB.output, hB.size, fun k hk _ => hB.block k hk⟩ (fun _ e => by cases e)) ⟨hB.os, hB.tape, hB.output, hB.size, fun k hk _ => hB.block k hk⟩
theorem cU.drewn {w wr : World} {b rb : Nat} (h : cU w wr b rb) : cU w wr.drew b rb :=
 ⟨h.src.kept (row := none) ⟨rfl, rfl, rfl, Nat.le_refl _, fun _ _ _ => rfl⟩ (fun _ e => by cases e), h.res, ⟨h.gr.os, h.gr.tape, h.gr.output, h.gr.size, h.gr.block⟩, h.lb, h.lr⟩
theorem dn {w W : World} {b rb : Nat} (h : aL b W ∧ w.grownBy W (some b)) (hb : b < rb) (hr : w.heap.size ≤ rb) (i : Nat) (v : Value) : aL b (W.setCell ⟨rb, i, none⟩ v) ∧ w.grownBy (W.setCell ⟨rb, i, none⟩ v) (some b) := by
 have one : W.grownBy (W.setCell ⟨rb, i, none⟩ v) (some rb) := ⟨rfl, rfl, rfl, by simp [World.setCell], fun k _ hk => heap_setCell_other W _ k _ (fun e => hk (by rw [e]))⟩
 refine ⟨h.1.kept one (fun c e => by have := Option.some.inj e; omega), ⟨h.2.os, h.2.tape, h.2.output, Nat.le_trans h.2.size one.size, fun k hk hne => ?_⟩⟩
 rw [one.block k (Nat.lt_of_lt_of_le hk h.2.size) (fun e => by have := Option.some.inj e; omega)]
 exact h.2.block k hk hne
theorem cU.ends {w wr : World} {b rb : Nat} (h : cU w wr b rb) (x y z u v : Value) : aL b (((((wr.setCell ⟨rb, 0, none⟩ x).setCell ⟨rb, 1, none⟩ y).setCell ⟨rb, 2, none⟩ z).setCell ⟨rb, 3, none⟩ u).setCell ⟨rb, 4, none⟩ v) ∧ w.grownBy (((((wr.setCell ⟨rb, 0, none⟩ x).setCell ⟨rb, 1, none⟩ y).setCell ⟨rb, 2, none⟩ z).setCell ⟨rb, 3, none⟩ u).setCell ⟨rb, 4, none⟩ v) (some b) := by
 have hb : b < rb := by have := h.lb; have := h.lr; omega
 exact dn (dn (dn (dn (dn ⟨h.src, h.gr⟩ hb h.lr 0 x) hb h.lr 1 y) hb h.lr 2 z) hb h.lr 3 u) hb h.lr 4 v
theorem cU.alloc {w wr : World} {b rb : Nat} (h : cU w wr b rb) (o : Obj) : cU w (wr.alloc o) b rb := h.below (an _ _)
theorem ch {w : World} {b k : Nat} {cs : List Value} {t : TypeId} (h : Blk w b cs t) (hall : ∀ v ∈ cs, ∃ z : Int, v = .int .i64 z) (hk : k < cs.length) : ∃ z : Int, w.cell? ⟨b, k, none⟩ = some (.int .i64 z) := by
 obtain ⟨z, hz⟩ := hall cs[k] (List.getElem_mem hk)
 exact ⟨z, h.cell k _ (by rw [List.getElem?_eq_getElem hk, hz])⟩
theorem Row.upF {w w' : World} {a : Option Addr} {len B B' : Nat} (h : Row w a len B) (hB : B ≤ B') (hk : ∀ k, k < B → w'.heap[k]? = w.heap[k]?) : Row w' a len B' := by
 have h' := h.kept hk
 rcases h' with h | ⟨bx, ox, rfl, hb, hz⟩
 ·exact .inl h
 ·exact .inr ⟨bx, ox, rfl, Nat.lt_of_lt_of_le hb hB, hz⟩
theorem Row.belowF {w w1 : World} {a : Option Addr} {len : Nat} (h : Row w a len w.heap.size) (hB : Below w.heap.size w w1) : Row w1 a len w1.heap.size := h.upF hB.size hB.block
theorem gj {B b : Nat} {w w1 w2 : World} (h : Below B w w1) (hg : w1.grownBy w2 (some b)) (hb : B ≤ b) (hB : B ≤ w1.heap.size) : Below B w w2 :=
 h.trans ⟨hg.os, hg.tape, hg.output, hg.size, fun k hk => hg.block k (by omega) (fun e => by have := Option.some.inj e; omega)⟩
theorem aL.drewF {b : Nat} {w : World} (h : aL b w) : aL b w.drew := h.kept (row := none) ⟨rfl, rfl, rfl, Nat.le_refl _, fun _ _ _ => rfl⟩ (fun _ e => by cases e)
structure Dw (w wr : World) (sb : Nat) (bs : List (Nat × List Value × TypeId)) : Prop where
 src : aL sb wr
 bel : Below w.heap.size w wr
 lo : w.heap.size ≤ sb
 bl : ∀ (k : Nat) (x : Nat × List Value × TypeId), bs[k]? = some x → Blk wr x.1 x.2.1 x.2.2 ∧ x.1 ≠ sb ∧ w.heap.size ≤ x.1
theorem Dw.at' {w wr : World} {sb : Nat} {bs : List (Nat × List Value × TypeId)} (h : Dw w wr sb bs) (k : Nat) (x : Nat × List Value × TypeId) (e : bs[k]? = some x) : Blk wr x.1 x.2.1 x.2.2 := (h.bl k x e).1
theorem Dw.call {w wr wy : World} {sb : Nat} {bs : List (Nat × List Value × TypeId)} (h : Dw w wr sb bs) (hS : aL sb wy) (hg : wr.grownBy wy (some sb)) : Dw w wy sb bs :=
 ⟨hS, gj h.bel hg h.lo h.bel.size, h.lo, fun k x e => ⟨(h.bl k x e).1.grownC hg (h.bl k x e).2.1, (h.bl k x e).2⟩⟩
theorem Dw.alloc {w wr : World} {sb : Nat} {bs : List (Nat × List Value × TypeId)} (h : Dw w wr sb bs) (cs : List Value) (t : TypeId) : Dw w (wr.alloc (.cells cs.toArray t)) sb ((wr.heap.size, cs, t) :: bs) :=
 ⟨h.src.allocsF _, h.bel.alloc h.bel.size _, h.lo, fun k x e => by
  cases k with
  | zero => cases e; exact ⟨al wr cs t, by have := h.src.lt; show wr.heap.size ≠ sb; omega, h.bel.size⟩
  | succ k => exact ⟨(h.bl k x e).1.alloc _, (h.bl k x e).2⟩⟩
theorem Dw.drewn {w wr : World} {sb : Nat} {bs : List (Nat × List Value × TypeId)} (h : Dw w wr sb bs) : Dw w wr.drew sb bs :=
 ⟨h.src.drewF, h.bel.drew, h.lo, h.bl⟩
theorem Dw.pick {w wr : World} {sb : Nat} {bs bs' : List (Nat × List Value × TypeId)} (h : Dw w wr sb bs) (hs : ∀ x ∈ bs', x ∈ bs) : Dw w wr sb bs' :=
 ⟨h.src, h.bel, h.lo, fun k x e => by obtain ⟨j, hj⟩ := List.mem_iff_getElem?.1 (hs x (List.mem_of_getElem? e)); exact h.bl j x hj⟩
structure Db (w wr : World) (bs : List (Nat × List Value × TypeId)) : Prop where
 bel : Below w.heap.size w wr
 bl : ∀ (k : Nat) (x : Nat × List Value × TypeId), bs[k]? = some x → Blk wr x.1 x.2.1 x.2.2 ∧ w.heap.size ≤ x.1
theorem Dw.db {w wr : World} {sb : Nat} {bs : List (Nat × List Value × TypeId)} (h : Dw w wr sb bs) : Db w wr bs := ⟨h.bel, fun k x e => ⟨(h.bl k x e).1, (h.bl k x e).2.2⟩⟩
theorem Db.at' {w wr : World} {bs : List (Nat × List Value × TypeId)} (h : Db w wr bs) (k : Nat) (x : Nat × List Value × TypeId) (e : bs[k]? = some x) : Blk wr x.1 x.2.1 x.2.2 := (h.bl k x e).1
theorem Db.pick {w wr : World} {bs bs' : List (Nat × List Value × TypeId)} (h : Db w wr bs) (hs : ∀ x ∈ bs', x ∈ bs) : Db w wr bs' :=
 ⟨h.bel, fun k x e => by obtain ⟨j, hj⟩ := List.mem_iff_getElem?.1 (hs x (List.mem_of_getElem? e)); exact h.bl j x hj⟩
theorem Db.alloc {w wr : World} {bs : List (Nat × List Value × TypeId)} (h : Db w wr bs) (cs : List Value) (t : TypeId) : Db w (wr.alloc (.cells cs.toArray t)) ((wr.heap.size, cs, t) :: bs) :=
 ⟨h.bel.alloc h.bel.size _, fun k x e => by
  cases k with
  | zero => cases e; exact ⟨al wr cs t, h.bel.size⟩
  | succ k => exact ⟨(h.bl k x e).1.alloc _, (h.bl k x e).2⟩⟩
theorem Db.set {w wr : World} {bs : List (Nat × List Value × TypeId)} {b : Nat} {cs : List Value} {t : TypeId} (h : Db w wr ((b, cs, t) :: bs)) (hy : ∀ x ∈ bs, x.1 ≠ b) (i : Nat) (v : Value) : Db w (wr.setCell ⟨b, i, none⟩ v) ((b, cs.set i v, t) :: bs) := by
 have h0 := h.bl 0 _ rfl
 refine ⟨h.bel.setCell h0.2 _, fun k x e => ?_⟩
 cases k with
 | zero => cases e; exact ⟨h0.1.set i v, h0.2⟩
 | succ k => exact ⟨(h.bl (k + 1) x e).1.other _ _ (hy x (List.mem_of_getElem? e)), (h.bl (k + 1) x e).2⟩
theorem fN {w w0 w1 : World} (hB : Below w.heap.size w w0) (bs : List (Nat × List Value × TypeId)) (hb : ∀ (k : Nat) (x : Nat × List Value × TypeId), bs[k]? = some x → Blk w0 x.1 x.2.1 x.2.2 ∧ w.heap.size ≤ x.1) (hS : aL w0.heap.size w1) (hx : Below w0.heap.size w0 w1) : Dw w w1 w0.heap.size bs :=
 ⟨hS, aj hB hx, hB.size, fun k x e => ⟨(hb k x e).1.kept hx, by have := (hb k x e).1.lt; omega, (hb k x e).2⟩⟩
end
end Go.Proofs.Ytackifnnhjbgbaa
