/- Several texts in one: BlC, VecB, VecC, VecD, VecF, VecG, SpA. -/
import Derived.Deep.RegionWith
import Derived.Deep.QuietTactic
import Derived.BigQuiet
import Derived.BigRegion
import Derived.Test.YteoonaanoenjiaaGreatDoorQObeyOwn2
import Derived.Test.YteoonaanoenjiaaGreatDoorQObeyOwn1
namespace Go.Proofs.YteoonaanoenjiaaGreatDoor
open Go.RowKit Go.Sort
set_option linter.unusedVariables false
theorem info_blob : (Tryz.prog.info? 163).map (fun i => (i.zero, i.size, i.bytes)) = some (some (.agg #[.int .i64 0, .int .i64 0, .int .i64 0, .int .i64 0, .bool false]), 5, 40) := by kernel_rfl
theorem info_bool : (Tryz.prog.info? 4).map (fun i => (i.zero, i.size, i.bytes)) = some (some (.bool false), 1, 1) := by kernel_rfl
theorem zeroBools (n : Nat) (h : n ≤ 281474976710656) : ∃ M : Array Value, (∀ j, j < n → M[j]? = some (.bool false)) ∧ ∀ W : World, (Instr.makeSlice 200 (.int .i64 (n : Int)) (.int .i64 (n : Int))).run Tryz.prog W = .ok (.slice (some ⟨W.heap.size, 0, none⟩) n n) (W.alloc (.cells M 4)) := by
  obtain ⟨i0, hi, hz0, hz1, hz2⟩ := info_parts info_bool
  refine ⟨madeCells (Value.bool false).cells (((n : Nat) : Int).toNat * i0.size), fun j hj => ?_, fun W => ?_⟩
  · rw [hz1, ← Array.getElem?_toList]
    have e : (Value.bool false).cells = #[.bool false] := rfl
    rw [e, toList_madeCells_one]
    simp [hj]
  · have h := run_make (P := Tryz.prog) W 200 4 i0 (.bool false) Tryz.underlying200 hi hz0 .i64 .i64 (n : Int) (n : Int) (by omega) (by omega) (by rw [hz2]; omega) (by omega)
    simpa using h
def flatB (S : List Bl) : List Value := S.flatMap blobL
theorem flatB_app (A B : List Bl) : flatB (A ++ B) = flatB A ++ flatB B := by unfold flatB; rw [List.flatMap_append]
theorem flatB_cell {S : List Bl} {v : Value} (h : v ∈ flatB S) : v.oneCell' = true := by
  unfold flatB at h
  rw [List.mem_flatMap] at h
  obtain ⟨p, _, hp⟩ := h
  simp [blobL] at hp
  rcases hp with rfl | rfl | rfl | rfl | rfl <;> rfl
def levB (lv : Int) : Bool := decide (0 ≤ lv) && decide (lv ≤ 255)
def okB (wd ht : Int) (s : ByteArray) (lv : Int) : Bool := frameB wd ht s && levB lv
def allB (wd ht : Int) (s : ByteArray) (lv : Int) : List Bl := (scanP (frOf wd.toNat ht.toNat s lv) s.size).2
def resB (wd ht : Int) (s : ByteArray) (lv : Int) : List Bl := if okB wd ht s lv = true then (if (allB wd ht s lv).length ≤ 8 then allB wd ht s lv else []) else []
def codeB (wd ht : Int) (s : ByteArray) (lv : Int) : Int := if okB wd ht s lv = true then (if (allB wd ht s lv).length ≤ 8 then 0 else 9) else 1
theorem resB_no {wd ht : Int} {s : ByteArray} {lv : Int} (h : okB wd ht s lv = false) : resB wd ht s lv = [] ∧ codeB wd ht s lv = 1 := by unfold resB codeB; rw [h]; exact ⟨rfl, rfl⟩
theorem resB_many {wd ht : Int} {s : ByteArray} {lv : Int} (h : okB wd ht s lv = true) (h2 : ¬ (allB wd ht s lv).length ≤ 8) : resB wd ht s lv = [] ∧ codeB wd ht s lv = 9 := by unfold resB codeB; rw [if_pos h, if_pos h, if_neg h2, if_neg h2]; exact ⟨rfl, rfl⟩
theorem resB_yes {wd ht : Int} {s : ByteArray} {lv : Int} (h : okB wd ht s lv = true) (h2 : (allB wd ht s lv).length ≤ 8) : resB wd ht s lv = allB wd ht s lv ∧ codeB wd ht s lv = 0 := by unfold resB codeB; rw [if_pos h, if_pos h, if_pos h2, if_pos h2]; exact ⟨rfl, rfl⟩
structure ScanSt (w wx : World) (fb ob xb sb : Nat) (wd ht : Nat) (s : ByteArray) (lv : Int) (T1 : Nat → Bool) : Prop where
  seen : SeenAt wx sb s.size T1
  look : LookAt wx xb wd ht s lv sb s.size
  fr : Blk wx fb [.int .i64 wd, .int .i64 ht, .string s] 43
  res : Blk wx ob [.slice none 0 0, .int .i64 0] 160
  bel : Below w.heap.size w wx
theorem ScanSt.kept {w wx wy : World} {fb ob xb sb wd ht : Nat} {s : ByteArray} {lv : Int} {T1 : Nat → Bool} (h : ScanSt w wx fb ob xb sb wd ht s lv T1) (hB : Below wx.heap.size wx wy) : ScanSt w wy fb ob xb sb wd ht s lv T1 :=
  ⟨RowV.kept h.seen hB, Blk.kept h.look hB, h.fr.kept hB, h.res.kept hB, below_call h.bel hB⟩
theorem ScanSt.byRow {w wx wy : World} {fb ob xb sb wd ht : Nat} {s : ByteArray} {lv : Int} {T1 : Nat → Bool} {row : Option Nat} {lo : Nat} (h : ScanSt w wx fb ob xb sb wd ht s lv T1) (hg : wx.grownBy wy row) (hr : ∀ g, row = some g → lo ≤ g) (h1 : fb < lo) (h2 : ob < lo) (h3 : xb < lo) (h4 : sb < lo) (h5 : w.heap.size ≤ lo) : ScanSt w wy fb ob xb sb wd ht s lv T1 := by
  have ne : ∀ b, b < lo → some b ≠ row := fun b hb e => by have := hr b e.symm; omega
  refine ⟨RowV.grown h.seen hg (ne _ h4), Blk.grown h.look hg (ne _ h3), h.fr.grown hg (ne _ h1), h.res.grown hg (ne _ h2), h.bel.trans ⟨hg.os, hg.tape, hg.output, hg.size, fun k hk => hg.block k (Nat.lt_of_lt_of_le hk h.bel.size) (ne k (by omega))⟩⟩
theorem ScanSt.seenBy {w wx wy : World} {fb ob xb sb wd ht : Nat} {s : ByteArray} {lv : Int} {T1 T2 : Nat → Bool} (h : ScanSt w wx fb ob xb sb wd ht s lv T1) (hg : wx.grownBy wy (some sb)) (hs : SeenAt wy sb s.size T2) (h1 : fb ≠ sb) (h2 : ob ≠ sb) (h3 : xb ≠ sb) (h5 : w.heap.size ≤ sb) : ScanSt w wy fb ob xb sb wd ht s lv T2 :=
  ⟨hs, Blk.grown h.look hg (fun e => h3 (Option.some.inj e)), h.fr.grown hg (fun e => h1 (Option.some.inj e)), h.res.grown hg (fun e => h2 (Option.some.inj e)), h.bel.trans ⟨hg.os, hg.tape, hg.output, hg.size, fun k hk => hg.block k (Nat.lt_of_lt_of_le hk h.bel.size) (fun e => by have := Option.some.inj e; omega)⟩⟩
theorem ownB_none (w : World) (B : Nat) (h : B ≤ w.heap.size) : (w.alloc (.cells #[] 163)).ownsRow B 163 5 (.slice (some ⟨w.heap.size, 0, none⟩) 0 0) 0 (flatB []) :=
  ⟨rfl, .inr ⟨_, 0, #[], rfl, h, Array.getElem?_push_size, Nat.le_refl _, Nat.zero_le _, rfl, rfl⟩⟩
theorem own_lower {w : World} {B B' n m : Nat} {t : TypeId} {v : Value} {xs : List Value} (h : w.ownsRow B t m v n xs) (hb : B' ≤ B) : w.ownsRow B' t m v n xs := by
  obtain ⟨h1, h2⟩ := h
  refine ⟨h1, ?_⟩
  rcases h2 with h2 | ⟨g, cap, cur, e, hg, r⟩
  · exact .inl h2
  · exact .inr ⟨g, cap, cur, e, by omega, r⟩
theorem own_set2 {w : World} {B n m : Nat} {t : TypeId} {v : Value} {xs : List Value} (h : w.ownsRow B t m v n xs) (b : Nat) (hne : ∀ z, v.ownBlock = some z → z ≠ b) (x y : Value) : ((w.setCell ⟨b, 0, none⟩ x).setCell ⟨b, 1, none⟩ y).ownsRow B t m v n xs := by
  have hg : ∀ (w : World) (i : Nat) (x : Value), w.grownBy (w.setCell ⟨b, i, none⟩ x) (some b) := fun w i x => ⟨rfl, rfl, rfl, by simp [World.setCell], fun k _ hk => Below.heap_setCell _ _ _ _ (fun e => hk (by rw [e]))⟩
  have ho : v.ownBlock = none ∨ v.ownBlock ≠ some b := by
    cases hv : v.ownBlock with
    | none => exact .inl rfl
    | some z => exact .inr (fun e => hne z hv (Option.some.inj e))
  exact (h.kept (hg w 0 x) ho).kept (hg _ 1 y) ho
theorem new_list (w : World) (vs : List Value) (t : TypeId) : ∀ (j : Nat) (u : Value), vs[j]? = some u → (w.alloc (.cells vs.toArray t)).cell? ((⟨w.heap.size, 0, none⟩ : Addr).add j) = some u := by
  intro j u hj
  have e : (⟨w.heap.size, 0, none⟩ : Addr).add j = ⟨w.heap.size, j, none⟩ := by cases j <;> simp [Addr.add]
  rw [e]
  simp [hj]
set_option maxHeartbeats 4000000 in
set_option maxRecDepth 100000 in
theorem specBlobsOf_any (wd ht : Int) (s : ByteArray) (lv : Int) (w : World) (hs : s.size ≤ maxLen) :
    Calls Tryz.prog 109 #[.agg #[.int .i64 wd, .int .i64 ht, .string s], .int .i64 lv] w fun e w' => (∃ v, e = .returned (.agg #[v, .int .i64 (codeB wd ht s lv)]) ∧ w'.ownsRow w.heap.size 163 5 v (resB wd ht s lv).length (flatB (resB wd ht s lv))) ∧ Below w.heap.size w w' := by
  have A0 := (blk_new w [.int .i64 wd, .int .i64 ht, .string s] 43).alloc (.cells #[.slice none 0 0, .int .i64 0] 160)
  have R0 := blk_new (w.alloc (.cells #[.int .i64 wd, .int .i64 ht, .string s] 43)) [.slice none 0 0, .int .i64 0] 160
  have e1 : (w.alloc (.cells #[.int .i64 wd, .int .i64 ht, .string s] 43)).heap.size = w.heap.size + 1 := by simp
  rw [e1] at R0
  have B0 := below2 w (.cells #[.int .i64 wd, .int .i64 ht, .string s] 43) (.cells #[.slice none 0 0, .int .i64 0] 160)
  clear e1
  have cF := yz (fun W => specFrameRight_any wd ht s W)
  go_enter Tryz.func109, Tryz.ntmps109
  go_wp2_with fail
  generalize (w.alloc (.cells #[.int .i64 wd, .int .i64 ht, .string s] 43)).alloc (.cells #[.slice none 0 0, .int .i64 0] 160) = W0 at A0 R0 B0 ⊢
  obtain ⟨ob, hob⟩ : ∃ ob, ob = w.heap.size + 1 := ⟨_, rfl⟩
  obtain ⟨fb, hfb⟩ : ∃ fb, fb = w.heap.size := ⟨_, rfl⟩
  rw [← hob] at R0 ⊢
  rw [← hfb] at A0 ⊢
  have lfb : w.heap.size ≤ fb := by omega
  have lob : w.heap.size ≤ ob := by omega
  have lne : fb ≠ ob := by omega
  clear hob hfb
  refine (yx cF _).mono ?_
  rintro e W1 ⟨rfl, hx⟩
  have A1 := A0.kept hx
  have R1 := R0.kept hx
  have B1 := below_call B0 hx
  clear hx A0 R0 B0
  have r0 := R1.cell 0 _ rfl
  have r1 := R1.cell 1 _ rfl
  have g0 := R1.free 0
  have g1 := R1.free 1
  cases k1 : frameB wd ht s
  case false =>
    have HV := yz (resB_no (wd := wd) (ht := ht) (s := s) (lv := lv) (by unfold okB; rw [k1]; rfl))
    go_wp2_with fail
    rw [(yx HV).1, (yx HV).2]
    exact bodyPost_ret (v := .agg #[.slice none 0 0, .int .i64 1]) (by simp [results, Tryz.results109, go_sem, r0, r1]) rfl ⟨⟨_, rfl, World.ownsRow_nil _ _ _ _⟩, (B1.setCell lob _).setCell lob _⟩
  obtain ⟨a0, a1, a2⟩ := bcs3 (A1)
  go_wp2_with fail
  refine (l02Is_any lv 0 255 _).mono ?_
  rintro e W2 ⟨rfl, hw⟩
  rw [hw]
  clear hw W2
  rw [show (decide (0 ≤ lv) && decide (lv ≤ 255)) = levB lv from rfl]
  cases k2 : levB lv
  case false =>
    have HV := yz (resB_no (wd := wd) (ht := ht) (s := s) (lv := lv) (by unfold okB; rw [k1, k2]; rfl))
    go_wp2_with fail
    rw [(yx HV).1, (yx HV).2]
    exact bodyPost_ret (v := .agg #[.slice none 0 0, .int .i64 1]) (by simp [results, Tryz.results109, go_sem, r0, r1]) rfl ⟨⟨_, rfl, World.ownsRow_nil _ _ _ _⟩, (B1.setCell lob _).setCell lob _⟩
  have hok : okB wd ht s lv = true := by unfold okB; rw [k1, k2]; rfl
  obtain ⟨f1, f2, f3, f4, f5⟩ := frameB_iff.1 k1
  obtain ⟨wn, hwn⟩ := Int.eq_ofNat_of_zero_le (show 0 ≤ wd by omega)
  obtain ⟨hn, hhn⟩ := Int.eq_ofNat_of_zero_le (show 0 ≤ ht by omega)
  subst hwn hhn
  have hsz : s.size = wn * hn := by
    have : ((s.size : Nat) : Int) = ((wn * hn : Nat) : Int) := by rw [f5]; exact (Int.natCast_mul _ _).symm
    omega
  have hn192 : s.size ≤ 192 := by have := Nat.mul_le_mul (show wn ≤ 16 by omega) (show hn ≤ 12 by omega); omega
  have HSZ := yz hsz
  have HOK := yz hok
  clear hsz hok k1 k2 f5 hs
  obtain ⟨M, hM, hmk⟩ := zeroBools s.size (by omega)
  obtain ⟨i0, hinf, hz0, hz1, hz2⟩ := info_parts info_blob
  have hm8 : 400 ≤ maxLen := by decide +kernel
  have hfl := A1.lt
  have hol := R1.lt
  go_upto_region 3 with fail
  go_region
  have Z2 := below2 W1 (.cells M 4) (.cells #[.int .i64 (wn : Int), .int .i64 (hn : Int), .string s, .int .i64 lv, .slice (some ⟨W1.heap.size, 0, none⟩) s.size s.size] 202)
  have s0 : SeenAt (W1.alloc (.cells M 4)) W1.heap.size s.size (fun _ => false) := ⟨M, heap_alloc_new W1 _, hM⟩
  have x0 := blk_new (W1.alloc (.cells M 4)) (lookL wn hn s lv W1.heap.size s.size) 202
  have e1 : (W1.alloc (.cells M 4)).heap.size = W1.heap.size + 1 := by simp
  rw [e1] at x0
  have ST0 : ScanSt w ((W1.alloc (.cells M 4)).alloc (.cells #[.int .i64 (wn : Int), .int .i64 (hn : Int), .string s, .int .i64 lv, .slice (some ⟨W1.heap.size, 0, none⟩) s.size s.size] 202)) fb ob (W1.heap.size + 1) W1.heap.size wn hn s lv (fun _ => false) :=
    ⟨RowV.kept s0 (below1 _ _), x0, A1.kept Z2, R1.kept Z2, below_call B1 Z2⟩
  have e2 : ((W1.alloc (.cells M 4)).alloc (.cells #[.int .i64 (wn : Int), .int .i64 (hn : Int), .string s, .int .i64 lv, .slice (some ⟨W1.heap.size, 0, none⟩) s.size s.size] 202)).heap.size = W1.heap.size + 1 + 1 := by simp
  have ST1 : ScanSt w ((W1.alloc (.cells M 4)).alloc (.cells #[.int .i64 (wn : Int), .int .i64 (hn : Int), .string s, .int .i64 lv, .slice (some ⟨W1.heap.size, 0, none⟩) s.size s.size] 202)).drew fb ob (W1.heap.size + 1) W1.heap.size wn hn s lv (fun _ => false) := ⟨ST0.seen.drewn, Blk.drewn ST0.look, ST0.fr.drewn, ST0.res.drewn, ST0.bel.drew⟩
  have e3 : ((W1.alloc (.cells M 4)).alloc (.cells #[.int .i64 (wn : Int), .int .i64 (hn : Int), .string s, .int .i64 lv, .slice (some ⟨W1.heap.size, 0, none⟩) s.size s.size] 202)).drew.heap.size = W1.heap.size + 1 + 1 := e2
  clear ST0 Z2 s0 x0 e1 e2 hmk hM a0 a1 a2 r0 r1 g0 g1 A1 R1
  have hW1 := B1.size
  clear B1
  generalize ((W1.alloc (.cells M 4)).alloc (.cells #[.int .i64 (wn : Int), .int .i64 (hn : Int), .string s, .int .i64 lv, .slice (some ⟨W1.heap.size, 0, none⟩) s.size s.size] 202)).drew = W4 at ST1 e3 ⊢
  obtain ⟨sb, hsb⟩ : ∃ sb, sb = W1.heap.size := ⟨_, rfl⟩
  obtain ⟨xb, hxb⟩ : ∃ xb, xb = W1.heap.size + 1 := ⟨_, rfl⟩
  rw [← hxb, ← hsb] at ST1
  rw [← hxb]
  have hlt1 : fb < sb := by omega
  have hlt2 : ob < sb := by omega
  have hlt3 : sb < xb := by omega
  have hlt4 : w.heap.size ≤ sb := by omega
  have hlo : xb < W4.heap.size := by omega
  clear hsb hxb hfl hol hW1 e3
  have HST := yz (ST1.kept (below1 W4 (.cells #[] 163)))
  have HO := yz (ownB_none W4 W4.heap.size (Nat.le_refl _))
  clear ST1
  generalize hfe : frOf wn hn s lv = f
  have HF := yz hfe
  clear hfe
  have hfn : f.n = s.size := by rw [← yx HF]; exact (yx HSZ).symm
  have HFN := yz hfn
  clear hfn
  go_wp2_with fail
  generalize hlw : W4.heap.size = lo at *
  clear hlw
  generalize W4.alloc (.cells #[] 163) = W5 at HST HO ⊢
  go_loopw [6, 7] (fun v kk wr => ∃ k : Nat, k ≤ s.size ∧ kk = .int .i64 k ∧ Hid (wr.ownsRow lo 163 5 v (scanP f k).2.length (flatB (scanP f k).2)) ∧ Hid (ScanSt w wr fb ob xb sb wn hn s lv (scanP f k).1) ∧ lo ≤ wr.heap.size) (fun _ kk _ => s.size - (intOf kk).toNat)
  case atStart => exact ⟨0, Nat.zero_le _, rfl, HO, HST, by have := ((yx HO).lt lo rfl).2; omega⟩
  case round =>
    clear HO HST
    obtain ⟨k, hk, rfl, HO, HST, hlow⟩ := hrel
    have a2 := (yx HST).fr.cell 2 _ rfl
    by_cases hkn : k < s.size
    · have hkn2 : (k : Int) < (s.size : Int) := by omega
      have HSC : Hid (scanP f (k + 1) = if litP f (scanP f k).1 k = true then ((blobP f (scanP f k).1 k).1, (scanP f k).2 ++ [sumP f (blobP f (scanP f k).1 k).2]) else scanP f k) := yz rfl
      have hsl := scanP_most f k
      generalize scanP f k = Sc at *
      obtain ⟨T1, S1⟩ := Sc
      simp only at *
      go_wp2_with fail
      refine (specLit_any wn hn s lv xb sb s.size k T1 _ rfl hkn (yx HST).look (yx HST).seen).mono ?_
      rintro e W6 ⟨rfl, hx⟩
      rw [yx HF]
      have HST2 := yz ((yx HST).kept hx)
      have HO2 := yz (own_kept (yx HO) hx)
      have hlow2 := Nat.le_trans hlow hx.size
      clear HST HO hx a2 hlow
      cases hl : litP f T1 k
      · rw [hl] at HSC
        have HSC2 : Hid (scanP f (k + 1) = (T1, S1)) := HSC
        have HO3 : Hid (W6.ownsRow lo 163 5 u6 (scanP f (k + 1)).2.length (flatB (scanP f (k + 1)).2)) := yz (by rw [yx HSC2]; exact yx HO2)
        have HST3 : Hid (ScanSt w W6 fb ob xb sb wn hn s lv (scanP f (k + 1)).1) := yz (by rw [yx HSC2]; exact yx HST2)
        go_wp2_with fail
        go_roundw
        case rel => exact ⟨k + 1, by omega, by go_num, HO3, HST3, hlow2⟩
        case measure => simp [intOf] <;> omega
      · rw [hl, if_pos rfl] at HSC
        have hT := (litP_yes hl).2
        have cG := yz (fun (W : World) h1 h2 => specGrow_any wn hn s lv xb sb k T1 W (by omega) (by omega) (by omega) (by omega) (yx HSZ) hkn hT (by omega) h1 h2)
        rw [yx HF] at cG
        clear hl hT
        generalize hbp : blobP f T1 k = Bp at *
        clear hbp
        obtain ⟨T2, Ab⟩ := Bp
        simp only at HSC cG
        generalize sumP f Ab = b at *
        obtain ⟨ar, su, sx, sy, ed⟩ := b
        have cG' : Hid (∀ W : World, LookAt W xb wn hn s lv sb s.size → SeenAt W sb s.size T1 → Calls Tryz.prog 146 #[.pointer (some ⟨xb, 0, none⟩), .int .i64 k] W fun e w' => e = .returned (.agg #[.int .i64 ar, .int .i64 su, .int .i64 sx, .int .i64 sy, .bool ed]) ∧ SeenAt w' sb s.size T2 ∧ W.grownBy w' (some sb)) := cG
        clear cG
        go_wp2_with fail
        refine (yx cG' _ (yx HST2).look (yx HST2).seen).mono ?_
        rintro e W7 ⟨rfl, hs7, hg7⟩
        have HST3 := yz ((yx HST2).seenBy hg7 hs7 (by omega) (by omega) (by omega) hlt4)
        have HO3 := yz ((yx HO2).kept hg7 (by
          cases hv : u6.ownBlock with
          | none => exact .inl rfl
          | some z => exact .inr (fun e => by have := ((yx HO2).lt z hv).1; have := Option.some.inj e; omega)))
        have hlow3 := Nat.le_trans hlow2 hg7.size
        clear hs7 hg7 HST2 HO2
        have Z1 := below1 W7 (.cells #[.int .i64 ar, .int .i64 su, .int .i64 sx, .int .i64 sy, .bool ed] 163)
        have hown := own_kept (yx HO3) Z1
        have ST4 := (yx HST3).kept Z1
        clear Z1
        go_wp2_with (at_builtin; refine wpList_append_own _ rfl _ _ 158 rfl lo 163 i0 (.agg #[.int .i64 0, .int .i64 0, .int .i64 0, .int .i64 0, .bool false]) 5 40 Tryz.underlying158 hinf hz0 hz1 hz2 rfl (by decide) _ _ _ rfl hown ⟨W7.heap.size, 0, none⟩ 1 1 (flatB [⟨ar, su, sx, sy, ed⟩]) rfl rfl ?d2 (fun u hu => flatB_cell hu) ?d3 ?d4 ?d5 ?_)
        case d2 => first | exact fun j u h => h | exact new_list _ _ _
        case d3 => omega
        case d4 => omega
        case d5 => first | omega | (simp; omega)
        intro v7 V7 hown7 hgrow7 _
        have ST5 := ST4.byRow hgrow7 (fun q e => (hown.lt q e).1) (by omega) (by omega) (by omega) (by omega) (by omega)
        have hsz7 := hgrow7.size
        have HO5 : Hid (V7.ownsRow lo 163 5 v7 (scanP f (k + 1)).2.length (flatB (scanP f (k + 1)).2)) := yz (by rw [yx HSC, flatB_app, List.length_append]; exact hown7)
        have HST5 : Hid (ScanSt w V7 fb ob xb sb wn hn s lv (scanP f (k + 1)).1) := yz (by rw [yx HSC]; exact ST5)
        have hlow5 : lo ≤ V7.heap.size := by simp at hsz7; omega
        clear hown7 hgrow7 hown ST4 ST5 hsz7
        go_wp2_with fail
        go_roundw
        case rel => exact ⟨k + 1, by omega, by go_num, HO5, HST5, hlow5⟩
        case measure => simp [intOf] <;> omega
    · have hke : k = s.size := by omega
      subst hke
      have HAL : Hid (allB wn hn s lv = (scanP f s.size).2) := yz (by unfold allB; rw [← yx HF]; rfl)
      have r0 := (yx HST).res.cell 0 _ rfl
      have r1 := (yx HST).res.cell 1 _ rfl
      have g0 := (yx HST).res.free 0
      have g1 := (yx HST).res.free 1
      have hB := (yx HST).bel
      obtain ⟨a6, cap6, hv6⟩ := own_slice (yx HO)
      subst hv6
      by_cases h8 : (scanP f s.size).2.length ≤ 8
      · have HV := yz (resB_yes (yx HOK) (by rw [yx HAL]; exact h8))
        rw [yx HAL] at HV
        have h8' : ¬ (8 : Int) < ((scanP f s.size).2.length : Int) := by omega
        have HO9 := own_lower (yx HO) (show w.heap.size ≤ lo by omega)
        have HO10 := own_set2 HO9 ob (by
          intro z e
          have := ((yx HO).lt z e).1
          omega) (.slice a6 (scanP f s.size).2.length cap6) (.int .i64 0)
        clear HO9
        generalize scanP f s.size = Sf at *
        obtain ⟨T1, S1⟩ := Sf
        simp only at *
        go_wp2_with fail
        rw [(yx HV).1, (yx HV).2]
        exact bodyPost_ret (v := .agg #[.slice a6 S1.length cap6, .int .i64 0]) (by simp [results, Tryz.results109, go_sem, r0, r1]) rfl ⟨⟨_, rfl, HO10⟩, (hB.setCell lob _).setCell lob _⟩
      · have HV := yz (resB_many (yx HOK) (by rw [yx HAL]; exact h8))
        have h8' : (8 : Int) < ((scanP f s.size).2.length : Int) := by omega
        generalize scanP f s.size = Sf at *
        obtain ⟨T1, S1⟩ := Sf
        simp only at *
        go_wp2_with fail
        rw [(yx HV).1, (yx HV).2]
        exact bodyPost_ret (v := .agg #[.slice none 0 0, .int .i64 9]) (by simp [results, Tryz.results109, go_sem, r0, r1]) rfl ⟨⟨_, rfl, World.ownsRow_nil _ _ _ _⟩, (hB.setCell lob _).setCell lob _⟩
end Go.Proofs.YteoonaanoenjiaaGreatDoor
namespace Go.Proofs.YteoonaanoenjiaaGreatDoor
open Go.RowKit
set_option linter.unusedVariables false
theorem out1 {m x : Int} (h : ¬ (-m ≤ x ∧ x ≤ m)) : inB m x = false := by simpa [inB] using h
set_option maxRecDepth 100000 in
theorem within_any (m x y z : Int) (w : World) (hm0 : 0 ≤ m) (hm : m ≤ 1000000) :
    Calls Tryz.prog 160 #[.agg #[.int .i64 x, .int .i64 y, .int .i64 z], .int .i64 m] w fun e w' => e = .returned (.bool (withinB m x y z)) ∧ Below w.heap.size w w' := by
  have i0 : ∀ w : World, (Instr.index 248 (.agg #[.int .i64 x, .int .i64 y, .int .i64 z]) (.int .i64 0)).run Tryz.prog w = .ok (.int .i64 x) w := fun _ => by kernel_rfl
  have i1 : ∀ w : World, (Instr.index 248 (.agg #[.int .i64 x, .int .i64 y, .int .i64 z]) (.int .i64 1)).run Tryz.prog w = .ok (.int .i64 y) w := fun _ => by kernel_rfl
  have i2 : ∀ w : World, (Instr.index 248 (.agg #[.int .i64 x, .int .i64 y, .int .i64 z]) (.int .i64 2)).run Tryz.prog w = .ok (.int .i64 z) w := fun _ => by kernel_rfl
  have hwr : wrap64 (-m) = -m := wrap_id (by omega) (by omega)
  go_enter Tryz.func160, Tryz.ntmps160
  go_wp2_with fail
  refine (parts_any x y z _).mono ?_
  rintro e w1 ⟨rfl, hB1⟩
  have hB : Below w.heap.size w w1 := below_call (below1 _ _) hB1
  clear hB1
  go_wp2_with fail
  go_loop [9] (fun i => ∃ k : Nat, k ≤ 3 ∧ i = .int .i64 k ∧ Hid (0 < k → inB m x = true) ∧ Hid (1 < k → inB m y = true) ∧ Hid (2 < k → inB m z = true)) (fun i => 3 - (intOf i).toNat)
  case atStart => exact ⟨0, Nat.zero_le _, rfl, yz (by omega), yz (by omega), yz (by omega)⟩
  case round =>
    obtain ⟨k, hk, rfl, hx, hy, hz⟩ := hrel
    have hk4 : k = 0 ∨ k = 1 ∨ k = 2 ∨ k = 3 := by omega
    rcases hk4 with rfl | rfl | rfl | rfl
    · by_cases q1 : -m ≤ x
      · by_cases q2 : x ≤ m
        · have HI := yz (inB_iff.2 ⟨q1, q2⟩)
          go_wp2
          go_round
          case rel => exact ⟨1, by omega, rfl, yz (fun _ => yx HI), yz (by omega), yz (by omega)⟩
          case measure => simp [intOf]
        · have HO := yz (out1 (m := m) (x := x) (fun h => q2 h.2))
          go_wp2
          go_ret
          exact ⟨by simp [withinB, yx HO], hB⟩
      · have HO := yz (out1 (m := m) (x := x) (fun h => q1 h.1))
        go_wp2
        go_ret
        exact ⟨by simp [withinB, yx HO], hB⟩
    · by_cases q1 : -m ≤ y
      · by_cases q2 : y ≤ m
        · have HI := yz (inB_iff.2 ⟨q1, q2⟩)
          go_wp2
          go_round
          case rel => exact ⟨2, by omega, rfl, yz (fun _ => yx hx (by omega)), yz (fun _ => yx HI), yz (by omega)⟩
          case measure => simp [intOf]
        · have HO := yz (out1 (m := m) (x := y) (fun h => q2 h.2))
          go_wp2
          go_ret
          exact ⟨by simp [withinB, yx HO], hB⟩
      · have HO := yz (out1 (m := m) (x := y) (fun h => q1 h.1))
        go_wp2
        go_ret
        exact ⟨by simp [withinB, yx HO], hB⟩
    · by_cases q1 : -m ≤ z
      · by_cases q2 : z ≤ m
        · have HI := yz (inB_iff.2 ⟨q1, q2⟩)
          go_wp2
          go_round
          case rel => exact ⟨3, by omega, rfl, yz (fun _ => yx hx (by omega)), yz (fun _ => yx hy (by omega)), yz (fun _ => yx HI)⟩
          case measure => simp [intOf]
        · have HO := yz (out1 (m := m) (x := z) (fun h => q2 h.2))
          go_wp2
          go_ret
          exact ⟨by simp [withinB, yx HO], hB⟩
      · have HO := yz (out1 (m := m) (x := z) (fun h => q1 h.1))
        go_wp2
        go_ret
        exact ⟨by simp [withinB, yx HO], hB⟩
    · go_wp2
      go_ret
      exact ⟨by simp [withinB, yx hx (by omega), yx hy (by omega), yx hz (by omega)], hB⟩
def eqB (a1 a2 a3 b1 b2 b3 : Int) : Bool := decide (a1 = b1 ∧ a2 = b2 ∧ a3 = b3)
theorem equal_vec (a1 a2 a3 b1 b2 b3 : Int) (w : World) : (Op.equalIn 10000 111 (.agg #[.int .i64 a1, .int .i64 a2, .int .i64 a3]) (.agg #[.int .i64 b1, .int .i64 b2, .int .i64 b3])).run Tryz.prog w = .ok (eqB a1 a2 a3 b1 b2 b3) w := by
  have h := run_equalIn_struct (P := Tryz.prog) w 9999 111 #[.int .i64 a1, .int .i64 a2, .int .i64 a3] #[.int .i64 b1, .int .i64 b2, .int .i64 b3] (by kernel_rfl) (by kernel_rfl)
  have hf : (Tryz.prog.fieldsOf 111).toList = (Tryz.prog.fieldsOf 111).toList := rfl
  refine h.trans ?_
  by_cases h1 : a1 = b1
  · by_cases h2 : a2 = b2
    · by_cases h3 : a3 = b3
      · simp [go_sem, eqB, h1, h2, h3]
      · simp [go_sem, eqB, h1, h2, h3]
    · simp [go_sem, eqB, h1, h2]
  · simp [go_sem, eqB, h1]
theorem neq_vec (a1 a2 a3 b1 b2 b3 : Int) (w : World) : (binOp .neq 111 (.agg #[.int .i64 a1, .int .i64 a2, .int .i64 a3]) (.agg #[.int .i64 b1, .int .i64 b2, .int .i64 b3])).run Tryz.prog w = .ok (.bool (!eqB a1 a2 a3 b1 b2 b3)) w := by
  rw [run_neq_struct, equal_vec]; rfl
theorem eql_vec (a1 a2 a3 b1 b2 b3 : Int) (w : World) : (binOp .eql 111 (.agg #[.int .i64 a1, .int .i64 a2, .int .i64 a3]) (.agg #[.int .i64 b1, .int .i64 b2, .int .i64 b3])).run Tryz.prog w = .ok (.bool (eqB a1 a2 a3 b1 b2 b3)) w := by
  rw [run_eql_struct, equal_vec]; rfl
set_option maxRecDepth 100000 in
theorem vecRight_any (x y z : Int) (w : World) :
    Calls Tryz.prog 159 #[.agg #[.int .i64 x, .int .i64 y, .int .i64 z]] w fun e w' => e = .returned (.bool (rightB x y z)) ∧ Below w.heap.size w w' := by
  have hn := fun w => neq_vec x y z 0 0 0 w
  cases hz : eqB x y z 0 0 0
  · rw [hz] at hn
    have HR : Hid (rightB x y z = withinB 1000000 x y z) := yz (by unfold rightB; rw [show zeroB x y z = false from hz]; simp)
    go_enter Tryz.func159, Tryz.ntmps159
    go_wp2_with fail
    refine (within_any 1000000 x y z _ (by omega) (by omega)).mono ?_
    rintro e w1 ⟨rfl, hB1⟩
    have hB : Below w.heap.size w w1 := below_call (below1 _ _) hB1
    clear hB1
    go_wp2_with fail
    go_ret
    exact ⟨by rw [yx HR]; rfl, hB⟩
  · rw [hz] at hn
    have HR : Hid (rightB x y z = false) := yz (by unfold rightB; rw [show zeroB x y z = true from hz]; simp)
    go_enter Tryz.func159, Tryz.ntmps159
    go_wp2_with fail
    go_ret
    exact ⟨by rw [yx HR]; rfl, below1 _ _⟩
theorem isB (m x : Int) : (decide (-m ≤ x) && decide (x ≤ m)) = inB m x := by unfold inB; rw [Bool.decide_and]
set_option maxRecDepth 100000 in
theorem l02Within_any (m x y z : Int) (w : World) (hm0 : 0 ≤ m) (hm : m ≤ 1000000) :
    Calls Tryz.prog 99 #[.agg #[.int .i64 x, .int .i64 y, .int .i64 z], .int .i64 m] w fun e w' => e = .returned (.bool (withinB m x y z)) ∧ Below w.heap.size w w' := by
  have hwr : wrap64 (-m) = -m := wrap_id (by omega) (by omega)
  go_enter Tryz.func99, Tryz.ntmps99
  go_wp2_with fail
  refine (l02Is_any x (-m) m _).mono ?_
  rintro e w1 ⟨rfl, rfl⟩
  rw [isB]
  cases hx : inB m x
  · go_wp2_with fail
    go_ret
    exact ⟨by simp [withinB, hx], below1 _ _⟩
  · go_wp2_with fail
    refine (l02Is_any y (-m) m _).mono ?_
    rintro e w1 ⟨rfl, rfl⟩
    rw [isB]
    cases hy : inB m y
    · go_wp2_with fail
      go_ret
      exact ⟨by simp [withinB, hy], below1 _ _⟩
    · go_wp2_with fail
      refine (l02Is_any z (-m) m _).mono ?_
      rintro e w1 ⟨rfl, rfl⟩
      rw [isB]
      go_wp2_with fail
      go_ret
      exact ⟨by simp [withinB, hx, hy], below1 _ _⟩
set_option maxRecDepth 100000 in
theorem specRight_any (x y z : Int) (w : World) :
    Calls Tryz.prog 98 #[.agg #[.int .i64 x, .int .i64 y, .int .i64 z]] w fun e w' => e = .returned (.bool (rightB x y z)) ∧ Below w.heap.size w w' := by
  have hn := fun w => neq_vec x y z 0 0 0 w
  go_enter Tryz.func98, Tryz.ntmps98
  go_wp2_with fail
  refine (l02Within_any 1000000 x y z _ (by omega) (by omega)).mono ?_
  rintro e w1 ⟨rfl, hB1⟩
  have hB : Below w.heap.size w w1 := below_call (below1 _ _) hB1
  have hc : ∀ i : Nat, w1.cell? ⟨w.heap.size, i, none⟩ = _ := fun i => hB1.cell (p := ⟨w.heap.size, i, none⟩) (by simp)
  have c0 := hc 0
  have c1 := hc 1
  have c2 := hc 2
  simp at c0 c1 c2
  clear hB1 hc
  cases hx : withinB 1000000 x y z
  · go_wp2_with fail
    go_ret
    exact ⟨by simp [rightB, hx], hB⟩
  · go_wp2_with fail
    go_ret
    exact ⟨by simp [rightB, hx]; rfl, hB⟩
def VecAt (w : World) (b : Nat) (x y z : Int) : Prop := w.cell? ⟨b, 0, none⟩ = some (.int .i64 x) ∧ w.cell? ⟨b, 1, none⟩ = some (.int .i64 y) ∧ w.cell? ⟨b, 2, none⟩ = some (.int .i64 z)
def FreeAt (w : World) (b : Nat) : Prop := w.frozen? ⟨b, 0, none⟩ = false ∧ w.frozen? ⟨b, 1, none⟩ = false ∧ w.frozen? ⟨b, 2, none⟩ = false
theorem VecAt.kept {w w' : World} {b : Nat} {x y z : Int} (h : VecAt w b x y z) (hb : b < w.heap.size) (hB : Below w.heap.size w w') : VecAt w' b x y z := by
  obtain ⟨h0, h1, h2⟩ := h
  exact ⟨by rw [hB.cell (p := ⟨b, 0, none⟩) hb]; exact h0, by rw [hB.cell (p := ⟨b, 1, none⟩) hb]; exact h1, by rw [hB.cell (p := ⟨b, 2, none⟩) hb]; exact h2⟩
theorem FreeAt.kept {w w' : World} {b : Nat} (h : FreeAt w b) (hb : b < w.heap.size) (hB : Below w.heap.size w w') : FreeAt w' b := by
  obtain ⟨h0, h1, h2⟩ := h
  exact ⟨by rw [hB.frozen (p := ⟨b, 0, none⟩) hb]; exact h0, by rw [hB.frozen (p := ⟨b, 1, none⟩) hb]; exact h1, by rw [hB.frozen (p := ⟨b, 2, none⟩) hb]; exact h2⟩
theorem vecAt_new (w : World) (x y z : Int) (t : TypeId) : VecAt (w.alloc (.cells #[.int .i64 x, .int .i64 y, .int .i64 z] t)) w.heap.size x y z := by
  refine ⟨?_, ?_, ?_⟩ <;> simp
theorem freeAt_new (w : World) (x y z : Int) (t : TypeId) : FreeAt (w.alloc (.cells #[.int .i64 x, .int .i64 y, .int .i64 z] t)) w.heap.size := by
  refine ⟨?_, ?_, ?_⟩ <;> simp
theorem VecAt.alloc {w : World} {b : Nat} {x y z : Int} (h : VecAt w b x y z) (hb : b < w.heap.size) (o : Obj) : VecAt (w.alloc o) b x y z := h.kept hb (below1 _ _)
theorem below_set3 {w w1 : World} {b : Nat} (h : Below w.heap.size w w1) (hb : w.heap.size ≤ b) (x y z : Value) : Below w.heap.size w (((w1.setCell ⟨b, 0, none⟩ x).setCell ⟨b, 1, none⟩ y).setCell ⟨b, 2, none⟩ z) := ((h.setCell hb _).setCell hb _).setCell hb _
theorem below4 (w : World) (a b c d : Obj) : Below w.heap.size w ((((w.alloc a).alloc b).alloc c).alloc d) := (below3 w a b c).alloc (by simp; omega) _
set_option maxRecDepth 100000 in
theorem dot_any (a1 a2 a3 b1 b2 b3 : Int) (w : World) :
    Calls Tryz.prog 190 #[.agg #[.int .i64 a1, .int .i64 a2, .int .i64 a3], .agg #[.int .i64 b1, .int .i64 b2, .int .i64 b3]] w fun e w' => e = .returned (.int .i64 (dotI a1 a2 a3 b1 b2 b3)) ∧ Below w.heap.size w w' := by
  go_enter Tryz.func190, Tryz.ntmps190
  go_wp2_with fail
  refine (vecRight_any a1 a2 a3 _).mono ?_
  rintro e w1 ⟨rfl, hB1⟩
  have hB : Below w.heap.size w w1 := below_call (below2 _ _ _) hB1
  have hs : w.heap.size + 2 ≤ w1.heap.size := by have := hB1.size; simpa [Nat.add_assoc] using this
  have va : VecAt w1 w.heap.size a1 a2 a3 := ((by simpa using vecAt_new w a1 a2 a3 _ : VecAt _ w.heap.size a1 a2 a3).alloc (by simp) _).kept (by simp; omega) hB1
  have vb : VecAt w1 (w.heap.size + 1) b1 b2 b3 := (by simpa using vecAt_new (w.alloc _) b1 b2 b3 _ : VecAt _ (w.heap.size + 1) b1 b2 b3).kept (by simp) hB1
  clear hB1
  have hva := va
  obtain ⟨ca0, ca1, ca2⟩ := va
  have hvb := vb
  obtain ⟨cb0, cb1, cb2⟩ := vb
  cases ha : rightB a1 a2 a3
  · go_wp2_with fail
    go_ret
    exact ⟨by simp [dotI, ha], hB⟩
  · go_wp2_with fail
    refine (vecRight_any b1 b2 b3 _).mono ?_
    rintro e w2 ⟨rfl, hB2⟩
    have va := hva.kept (by omega) hB2
    have vb := hvb.kept (by omega) hB2
    replace hs : w.heap.size + 2 ≤ w2.heap.size := by have := hB2.size; omega
    replace hB : Below w.heap.size w w2 := below_call hB hB2
    clear hva ca0 ca1 ca2 hvb cb0 cb1 cb2
    clear hB2
    have hva := va
    obtain ⟨ca0, ca1, ca2⟩ := va
    have hvb := vb
    obtain ⟨cb0, cb1, cb2⟩ := vb
    cases hb : rightB b1 b2 b3
    · go_wp2_with fail
      go_ret
      exact ⟨by simp [dotI, hb], hB⟩
    · go_wp2_with fail
      refine (times_any a1 a2 a3 b1 b2 b3 _).mono ?_
      rintro e w3 ⟨rfl, hB3⟩
      go_wp2_with fail
      go_ret
      exact ⟨by simp [dotI, ha, hb], below_call hB hB3⟩
set_option maxRecDepth 100000 in
theorem cross_any (a1 a2 a3 b1 b2 b3 : Int) (w : World) :
    Calls Tryz.prog 189 #[.agg #[.int .i64 a1, .int .i64 a2, .int .i64 a3], .agg #[.int .i64 b1, .int .i64 b2, .int .i64 b3]] w fun e w' => e = .returned (.agg #[.int .i64 (crI (rightB a1 a2 a3 && rightB b1 b2 b3) a2 a3 b2 b3), .int .i64 (crI (rightB a1 a2 a3 && rightB b1 b2 b3) a3 a1 b3 b1), .int .i64 (crI (rightB a1 a2 a3 && rightB b1 b2 b3) a1 a2 b1 b2)]) ∧ Below w.heap.size w w' := by
  go_enter Tryz.func189, Tryz.ntmps189
  go_wp2_with fail
  refine (vecRight_any a1 a2 a3 _).mono ?_
  rintro e w1 ⟨rfl, hB1⟩
  have hB : Below w.heap.size w w1 := below_call (below3 _ _ _ _) hB1
  have hs : w.heap.size + 3 ≤ w1.heap.size := by have := hB1.size; simpa [Nat.add_assoc] using this
  have va : VecAt w1 w.heap.size a1 a2 a3 := (((by simpa using vecAt_new w a1 a2 a3 _ : VecAt _ w.heap.size a1 a2 a3).alloc (by simp) _).alloc (by simp; omega) _).kept (by simp; omega) hB1
  have vb : VecAt w1 (w.heap.size + 1) b1 b2 b3 := ((by simpa using vecAt_new (w.alloc _) b1 b2 b3 _ : VecAt _ (w.heap.size + 1) b1 b2 b3).alloc (by simp) _).kept (by simp) hB1
  have vr : VecAt w1 (w.heap.size + 1 + 1) 0 0 0 := (by simpa using vecAt_new ((w.alloc _).alloc _) 0 0 0 _ : VecAt _ (w.heap.size + 1 + 1) 0 0 0).kept (by simp) hB1
  have fr : FreeAt w1 (w.heap.size + 1 + 1) := (by simpa using freeAt_new ((w.alloc _).alloc _) 0 0 0 _ : FreeAt _ (w.heap.size + 1 + 1)).kept (by simp) hB1
  clear hB1
  have hva := va
  obtain ⟨ca0, ca1, ca2⟩ := va
  have hvb := vb
  obtain ⟨cb0, cb1, cb2⟩ := vb
  have hvr := vr
  have hfr := fr
  obtain ⟨cr0, cr1, cr2⟩ := vr
  obtain ⟨fr0, fr1, fr2⟩ := fr
  cases ha : rightB a1 a2 a3
  · go_wp2_with fail
    exact bodyPost_ret (v := .agg #[.int .i64 0, .int .i64 0, .int .i64 0]) (by simp [results, Tryz.results189, go_sem, cr0, cr1, cr2]) rfl ⟨by simp [crI, ha], below_set3 hB (by omega) _ _ _⟩
  · go_wp2_with fail
    refine (vecRight_any b1 b2 b3 _).mono ?_
    rintro e w2 ⟨rfl, hB2⟩
    have va := hva.kept (by omega) hB2
    have vb := hvb.kept (by omega) hB2
    have vr := hvr.kept (by omega) hB2
    have fr := hfr.kept (by omega) hB2
    replace hs : w.heap.size + 3 ≤ w2.heap.size := by have := hB2.size; omega
    replace hB : Below w.heap.size w w2 := below_call hB hB2
    clear hva ca0 ca1 ca2 hvb cb0 cb1 cb2 hvr hfr cr0 cr1 cr2 fr0 fr1 fr2
    clear hB2
    have hva := va
    obtain ⟨ca0, ca1, ca2⟩ := va
    have hvb := vb
    obtain ⟨cb0, cb1, cb2⟩ := vb
    have hvr := vr
    have hfr := fr
    obtain ⟨cr0, cr1, cr2⟩ := vr
    obtain ⟨fr0, fr1, fr2⟩ := fr
    cases hb : rightB b1 b2 b3
    · go_wp2_with fail
      exact bodyPost_ret (v := .agg #[.int .i64 0, .int .i64 0, .int .i64 0]) (by simp [results, Tryz.results189, go_sem, cr0, cr1, cr2]) rfl ⟨by simp [crI, hb], below_set3 hB (by omega) _ _ _⟩
    · go_wp2_with fail
      exact bodyPost_ret (v := .agg #[.int .i64 (crW a2 a3 b2 b3), .int .i64 (crW a3 a1 b3 b1), .int .i64 (crW a1 a2 b1 b2)]) (by simp [results, Tryz.results189, go_sem, cr0, cr1, cr2, crW]) rfl ⟨by simp [crI, ha, hb], below_set3 hB (by omega) _ _ _⟩
set_option maxRecDepth 100000 in
theorem l02Cross_any (a1 a2 a3 b1 b2 b3 : Int) (w : World) :
    Calls Tryz.prog 138 #[.agg #[.int .i64 a1, .int .i64 a2, .int .i64 a3], .agg #[.int .i64 b1, .int .i64 b2, .int .i64 b3]] w fun e w' => e = .returned (.agg #[.int .i64 (crW a2 a3 b2 b3), .int .i64 (crW a3 a1 b3 b1), .int .i64 (crW a1 a2 b1 b2)]) ∧ Below w.heap.size w w' := by
  go_enter Tryz.func138, Tryz.ntmps138
  go_wp2
  exact bodyPost_ret (v := .agg #[.int .i64 (crW a2 a3 b2 b3), .int .i64 (crW a3 a1 b3 b1), .int .i64 (crW a1 a2 b1 b2)]) (by simp [results, Tryz.results138, go_sem, crW]) rfl ⟨rfl, below3 _ _ _ _⟩
theorem rem_fits {a b : Int} (h : b ≠ 0) (hb : -1000000 ≤ b ∧ b ≤ 1000000) : wrap64 (a.tmod b) = a.tmod b ∧ -1000000 ≤ a.tmod b ∧ a.tmod b ≤ 1000000 := by
  have := tmod_lt a b h
  have h2 : -1000000 ≤ a.tmod b ∧ a.tmod b ≤ 1000000 := by omega
  exact ⟨wrap_id (by omega) (by omega), h2⟩
theorem below_drewN (w : World) (n : Nat) : Below w.heap.size w (w.drewN n) := ⟨rfl, rfl, rfl, Nat.le_refl _, fun _ _ => rfl⟩
set_option maxRecDepth 100000 in
theorem shared_any (a b : Int) (w : World) (ha : -1000000 ≤ a ∧ a ≤ 1000000) (hb : -1000000 ≤ b ∧ b ≤ 1000000) :
    Calls Tryz.prog 158 #[.int .i64 a, .int .i64 b] w fun e w' => e = .returned (.int .i64 ((Int.gcd a b : Nat) : Int)) ∧ ∃ n, w' = w.drewN n := by
  go_enter Tryz.func158, Tryz.ntmps158
  go_wp2
  go_loopw [0, 1] (fun u v wr => ∃ p q : Int, u = .int .i64 p ∧ v = .int .i64 q ∧ Hid (-1000000 ≤ p ∧ p ≤ 1000000) ∧ Hid (-1000000 ≤ q ∧ q ≤ 1000000) ∧ Hid (Int.gcd p q = Int.gcd a b) ∧ ∃ n, wr = w.drewN n) (fun _ v _ => (intOf v).natAbs)
  case atStart => exact ⟨a, b, rfl, rfl, yz ha, yz hb, yz rfl, 0, rfl⟩
  case round =>
    obtain ⟨p, q, rfl, rfl, hp, hq, hg, nd, rfl⟩ := hrel
    by_cases h0 : q = 0
    · subst h0
      have HG := yz (gcd_zero p)
      by_cases hn : p < 0
      · have HW : Hid (wrap64 (-p) = -p) := yz (by have := yx hp; exact wrap_id (by omega) (by omega))
        have HR := yz (show ((Int.gcd a b : Nat) : Int) = -p by rw [← yx hg, yx HG, if_pos hn])
        go_wp2
        go_ret
        exact ⟨by rw [yx HR]; exact congrArg (fun x => Ending.returned (Value.int .i64 x)) (yx HW), nd, rfl⟩
      · have HR := yz (show ((Int.gcd a b : Nat) : Int) = p by rw [← yx hg, yx HG, if_neg hn])
        go_wp2
        go_ret
        exact ⟨by rw [yx HR]; rfl, nd, rfl⟩
    · have hz : (q == 0) = false := by simp [h0]
      have hr := rem_fits (a := p) h0 (yx hq)
      have HL := yz (tmod_lt p q h0)
      have HS := yz (gcd_step p q)
      obtain ⟨r, hre⟩ : ∃ r, p.tmod q = r := ⟨_, rfl⟩
      have hrw := hr.1
      have HRB := yz hr.2
      rw [hre] at hrw HRB HL HS
      clear hr
      go_wp2
      go_region
      go_wp2
      go_roundw
      case rel => exact ⟨q, r, rfl, rfl, hq, HRB, yz ((yx HS).trans (yx hg)), nd + 1, rfl⟩
      case measure => simp [intOf]; exact yx HL
set_option maxRecDepth 100000 in
theorem l02Gcd_any (a b : Int) (w : World) (ha : -1000000 ≤ a ∧ a ≤ 1000000) (hb : -1000000 ≤ b ∧ b ≤ 1000000) :
    Calls Tryz.prog 137 #[.int .i64 a, .int .i64 b] w fun e w' => e = .returned (.int .i64 ((Int.gcd a b : Nat) : Int)) ∧ ∃ n, w' = w.drewN n := by
  go_enter Tryz.func137, Tryz.ntmps137
  go_wp2
  go_loopw [0, 1] (fun u v wr => ∃ p q : Int, u = .int .i64 p ∧ v = .int .i64 q ∧ Hid (-1000000 ≤ p ∧ p ≤ 1000000) ∧ Hid (-1000000 ≤ q ∧ q ≤ 1000000) ∧ Hid (Int.gcd p q = Int.gcd a b) ∧ ∃ n, wr = w.drewN n) (fun _ v _ => (intOf v).natAbs)
  case atStart => exact ⟨a, b, rfl, rfl, yz ha, yz hb, yz rfl, 0, rfl⟩
  case round =>
    obtain ⟨p, q, rfl, rfl, hp, hq, hg, nd, rfl⟩ := hrel
    by_cases h0 : q = 0
    · subst h0
      have HG := yz (gcd_zero p)
      by_cases hn : p < 0
      · have HW : Hid (wrap64 (-p) = -p) := yz (by have := yx hp; exact wrap_id (by omega) (by omega))
        have HR := yz (show ((Int.gcd a b : Nat) : Int) = -p by rw [← yx hg, yx HG, if_pos hn])
        go_wp2
        go_ret
        exact ⟨by rw [yx HR]; exact congrArg (fun x => Ending.returned (Value.int .i64 x)) (yx HW), nd, rfl⟩
      · have HR := yz (show ((Int.gcd a b : Nat) : Int) = p by rw [← yx hg, yx HG, if_neg hn])
        go_wp2
        go_ret
        exact ⟨by rw [yx HR]; rfl, nd, rfl⟩
    · have hz : (q == 0) = false := by simp [h0]
      have hr := rem_fits (a := p) h0 (yx hq)
      have HL := yz (tmod_lt p q h0)
      have HS := yz (gcd_step p q)
      obtain ⟨r, hre⟩ : ∃ r, p.tmod q = r := ⟨_, rfl⟩
      have hrw := hr.1
      have HRB := yz hr.2
      rw [hre] at hrw HRB HL HS
      clear hr
      go_wp2
      go_roundw
      case rel => exact ⟨q, r, rfl, rfl, hq, HRB, yz ((yx HS).trans (yx hg)), nd, rfl⟩
      case measure => simp [intOf]; exact yx HL
set_option maxRecDepth 100000 in
theorem l02Prime_any (x y z : Int) (w : World) (hr : rightB x y z = true) :
    Calls Tryz.prog 100 #[.agg #[.int .i64 x, .int .i64 y, .int .i64 z]] w fun e w' => e = .returned (.agg #[.int .i64 (wrap64 (x.tdiv (gI x y z))), .int .i64 (wrap64 (y.tdiv (gI x y z))), .int .i64 (wrap64 (z.tdiv (gI x y z)))]) ∧ Below w.heap.size w w' := by
  obtain ⟨⟨hx, hy, hz⟩, _⟩ := rightB_iff.1 hr
  have hg1 := gcd_le hx hy
  have hpos := gI_pos hr
  go_enter Tryz.func100, Tryz.ntmps100
  go_wp2_with fail
  go_quiet (first | (go_at_call_of 137 (Value.int IntKind.i64 x); refine Calls.quiet_of (l02Gcd_any x y _ hx hy)) | (go_at_call 137; refine Calls.quiet_of (l02Gcd_any _ z _ ?_ hz); omega))
  have hz0 : (gI x y z == 0) = false := by simp; omega
  have hgi : ((Int.gcd ((Int.gcd x y : Nat) : Int) z : Nat) : Int) = gI x y z := rfl
  rw [hgi]
  clear hgi
  generalize hge : gI x y z = g at hpos hz0 ⊢
  have HG := yz hge
  clear hge
  have va : VecAt (((w.alloc (.cells #[.int .i64 x, .int .i64 y, .int .i64 z] 111)).alloc (.cells #[.int .i64 0, .int .i64 0, .int .i64 0] 111)).drewN nq) w.heap.size x y z := ((vecAt_new w x y z _).alloc (by simp) _)
  have vr : VecAt (((w.alloc (.cells #[.int .i64 x, .int .i64 y, .int .i64 z] 111)).alloc (.cells #[.int .i64 0, .int .i64 0, .int .i64 0] 111)).drewN nq) (w.heap.size + 1) 0 0 0 := (by simpa using vecAt_new (w.alloc (.cells #[.int .i64 x, .int .i64 y, .int .i64 z] 111)) 0 0 0 111 : VecAt ((w.alloc (.cells #[.int .i64 x, .int .i64 y, .int .i64 z] 111)).alloc (.cells #[.int .i64 0, .int .i64 0, .int .i64 0] 111)) (w.heap.size + 1) 0 0 0)
  have fr : FreeAt (((w.alloc (.cells #[.int .i64 x, .int .i64 y, .int .i64 z] 111)).alloc (.cells #[.int .i64 0, .int .i64 0, .int .i64 0] 111)).drewN nq) (w.heap.size + 1) := (by simpa using freeAt_new (w.alloc (.cells #[.int .i64 x, .int .i64 y, .int .i64 z] 111)) 0 0 0 111 : FreeAt ((w.alloc (.cells #[.int .i64 x, .int .i64 y, .int .i64 z] 111)).alloc (.cells #[.int .i64 0, .int .i64 0, .int .i64 0] 111)) (w.heap.size + 1))
  have hB : Below w.heap.size w (((w.alloc (.cells #[.int .i64 x, .int .i64 y, .int .i64 z] 111)).alloc (.cells #[.int .i64 0, .int .i64 0, .int .i64 0] 111)).drewN nq) := below_call (below2 _ _ _) (below_drewN _ _)
  generalize ((w.alloc (.cells #[.int .i64 x, .int .i64 y, .int .i64 z] 111)).alloc (.cells #[.int .i64 0, .int .i64 0, .int .i64 0] 111)).drewN nq = w1 at va vr fr hB ⊢
  obtain ⟨ca0, ca1, ca2⟩ := va
  obtain ⟨cr0, cr1, cr2⟩ := vr
  obtain ⟨fr0, fr1, fr2⟩ := fr
  clear hg1 hx hy hz hr
  go_wp2_with fail
  go_region
  go_wp2
  exact bodyPost_ret (v := .agg #[.int .i64 (wrap64 (x.tdiv g)), .int .i64 (wrap64 (y.tdiv g)), .int .i64 (wrap64 (z.tdiv g))]) (by simp [results, Tryz.results100, go_sem, cr0, cr1, cr2]) rfl ⟨by rw [yx HG], (below_set3 hB (by omega) _ _ _).drew⟩
def gS (x y z : Int) : Nat → Int
  | 0 => 0
  | 1 => ((Int.gcd 0 x : Nat) : Int)
  | 2 => ((Int.gcd ((Int.gcd 0 x : Nat) : Int) y : Nat) : Int)
  | _ => ((Int.gcd ((Int.gcd ((Int.gcd 0 x : Nat) : Int) y : Nat) : Int) z : Nat) : Int)
theorem gS_le {x y z : Int} (k : Nat) (h : (-1000000 ≤ x ∧ x ≤ 1000000) ∧ (-1000000 ≤ y ∧ y ≤ 1000000) ∧ (-1000000 ≤ z ∧ z ≤ 1000000)) : -1000000 ≤ gS x y z k ∧ gS x y z k ≤ 1000000 := by
  have h1 := gcd_le (a := 0) (m := 1000000) (by omega) h.1
  have h2 := gcd_le (m := 1000000) (a := ((Int.gcd 0 x : Nat) : Int)) (by omega) h.2.1
  have h3 := gcd_le (m := 1000000) (a := ((Int.gcd ((Int.gcd 0 x : Nat) : Int) y : Nat) : Int)) (by omega) h.2.2
  match k with
  | 0 => exact ⟨by show (-1000000 : Int) ≤ 0; omega, by show (0 : Int) ≤ 1000000; omega⟩
  | 1 => exact ⟨by show (-1000000 : Int) ≤ ((Int.gcd 0 x : Nat) : Int); omega, h1.2⟩
  | 2 => exact ⟨by show (-1000000 : Int) ≤ ((Int.gcd ((Int.gcd 0 x : Nat) : Int) y : Nat) : Int); omega, h2.2⟩
  | k + 3 => exact ⟨by show (-1000000 : Int) ≤ ((Int.gcd ((Int.gcd ((Int.gcd 0 x : Nat) : Int) y : Nat) : Int) z : Nat) : Int); omega, h3.2⟩
set_option maxRecDepth 100000 in
theorem prime_any (a1 a2 a3 : Int) (w : World) :
    Calls Tryz.prog 188 #[.agg #[.int .i64 a1, .int .i64 a2, .int .i64 a3]] w fun e w' => e = .returned (.agg #[.int .i64 (prI (rightB a1 a2 a3) (gI a1 a2 a3) a1), .int .i64 (prI (rightB a1 a2 a3) (gI a1 a2 a3) a2), .int .i64 (prI (rightB a1 a2 a3) (gI a1 a2 a3) a3)]) ∧ Below w.heap.size w w' := by
  go_enter Tryz.func188, Tryz.ntmps188
  go_wp2_with fail
  refine (vecRight_any a1 a2 a3 _).mono ?_
  rintro e w1 ⟨rfl, hB1⟩
  have hB : Below w.heap.size w w1 := below_call (below2 _ _ _) hB1
  have hs : w.heap.size + 2 ≤ w1.heap.size := by have := hB1.size; simpa [Nat.add_assoc] using this
  have va : VecAt w1 w.heap.size a1 a2 a3 := ((by simpa using vecAt_new w a1 a2 a3 _ : VecAt _ w.heap.size a1 a2 a3).alloc (by simp) _).kept (by simp; omega) hB1
  have vr : VecAt w1 (w.heap.size + 1) 0 0 0 := (by simpa using vecAt_new (w.alloc _) 0 0 0 _ : VecAt _ (w.heap.size + 1) 0 0 0).kept (by simp) hB1
  have fr : FreeAt w1 (w.heap.size + 1) := (by simpa using freeAt_new (w.alloc _) 0 0 0 _ : FreeAt _ (w.heap.size + 1)).kept (by simp) hB1
  clear hB1
  have hva := va
  obtain ⟨ca0, ca1, ca2⟩ := va
  have hvr := vr
  have hfr := fr
  obtain ⟨cr0, cr1, cr2⟩ := vr
  obtain ⟨fr0, fr1, fr2⟩ := fr
  cases ha : rightB a1 a2 a3
  · go_wp2_with fail
    exact bodyPost_ret (v := .agg #[.int .i64 0, .int .i64 0, .int .i64 0]) (by simp [results, Tryz.results188, go_sem, cr0, cr1, cr2]) rfl ⟨by simp [prI, ha], below_set3 hB (by omega) _ _ _⟩
  · go_wp2_with fail
    refine (parts_any a1 a2 a3 _).mono ?_
    rintro e w2 ⟨rfl, hB2⟩
    have va := hva.kept (by omega) hB2
    have vr := hvr.kept (by omega) hB2
    have fr := hfr.kept (by omega) hB2
    replace hs : w.heap.size + 2 ≤ w2.heap.size := by have := hB2.size; omega
    replace hB : Below w.heap.size w w2 := below_call hB hB2
    clear hB2 hva hvr hfr ca0 ca1 ca2 cr0 cr1 cr2 fr0 fr1 fr2
    have i0 : ∀ w : World, (Instr.index 248 (.agg #[.int .i64 a1, .int .i64 a2, .int .i64 a3]) (.int .i64 0)).run Tryz.prog w = .ok (.int .i64 a1) w := fun _ => by kernel_rfl
    have i1 : ∀ w : World, (Instr.index 248 (.agg #[.int .i64 a1, .int .i64 a2, .int .i64 a3]) (.int .i64 1)).run Tryz.prog w = .ok (.int .i64 a2) w := fun _ => by kernel_rfl
    have i2 : ∀ w : World, (Instr.index 248 (.agg #[.int .i64 a1, .int .i64 a2, .int .i64 a3]) (.int .i64 2)).run Tryz.prog w = .ok (.int .i64 a3) w := fun _ => by kernel_rfl
    have HR := yz (rightB_iff.1 ha).1
    have HP := yz (gI_pos ha)
    go_wp2_with fail
    go_loopw [3, 12] (fun u i wr => ∃ (k n : Nat), k ≤ 3 ∧ i = .int .i64 k ∧ u = .int .i64 (gS a1 a2 a3 k) ∧ wr = w2.drewN n) (fun _ i _ => 3 - (intOf i).toNat)
    case atStart => exact ⟨0, 0, by omega, rfl, rfl, rfl⟩
    case round =>
      obtain ⟨k, n, hk, rfl, rfl, rfl⟩ := hrel
      have hk4 : k = 0 ∨ k = 1 ∨ k = 2 ∨ k = 3 := by omega
      rcases hk4 with rfl | rfl | rfl | rfl
      · go_wp2_with fail
        refine (shared_any _ a1 _ (gS_le 0 (yx HR)) (yx HR).1).mono ?_
        rintro e w3 ⟨rfl, m, rfl⟩
        go_wp2_with fail
        go_roundw
        case rel => exact ⟨1, n + m, by omega, rfl, rfl, by simp⟩
        case measure => simp [intOf]
      · go_wp2_with fail
        refine (shared_any _ a2 _ (gS_le 1 (yx HR)) (yx HR).2.1).mono ?_
        rintro e w3 ⟨rfl, m, rfl⟩
        go_wp2_with fail
        go_roundw
        case rel => exact ⟨2, n + m, by omega, rfl, rfl, by simp⟩
        case measure => simp [intOf]
      · go_wp2_with fail
        refine (shared_any _ a3 _ (gS_le 2 (yx HR)) (yx HR).2.2).mono ?_
        rintro e w3 ⟨rfl, m, rfl⟩
        go_wp2_with fail
        go_roundw
        case rel => exact ⟨3, n + m, by omega, rfl, rfl, by simp⟩
        case measure => simp [intOf]
      · have hgs : gS a1 a2 a3 3 = gI a1 a2 a3 := gcd_three a1 a2 a3
        rw [hgs]
        clear hgs
        have hpos := yx HP
        have hz0 : (gI a1 a2 a3 == 0) = false := by simp; omega
        generalize hge : gI a1 a2 a3 = g at hpos hz0 ⊢
        have HG := yz hge
        clear hge i0 i1 i2
        have va' : VecAt (w2.drewN n) w.heap.size a1 a2 a3 := va
        have vr' : VecAt (w2.drewN n) (w.heap.size + 1) 0 0 0 := vr
        have fr' : FreeAt (w2.drewN n) (w.heap.size + 1) := fr
        have hB' : Below w.heap.size w (w2.drewN n) := below_call hB (below_drewN _ _)
        clear va vr fr hB hs
        go_wp2_with fail
        generalize w2.drewN n = w3 at va' vr' fr' hB' ⊢
        obtain ⟨ca0, ca1, ca2⟩ := va'
        obtain ⟨cr0, cr1, cr2⟩ := vr'
        obtain ⟨fr0, fr1, fr2⟩ := fr'
        go_region
        go_wp2
        exact bodyPost_ret (v := .agg #[.int .i64 (wrap64 (a1.tdiv g)), .int .i64 (wrap64 (a2.tdiv g)), .int .i64 (wrap64 (a3.tdiv g))]) (by simp [results, Tryz.results188, go_sem, cr0, cr1, cr2]) rfl ⟨by rw [yx HG]; simp [prI, ha], (below_set3 hB' (by omega) _ _ _).drew⟩
end Go.Proofs.YteoonaanoenjiaaGreatDoor
namespace Go.Proofs.YteoonaanoenjiaaGreatDoor
open Go.RowKit Go.Sort
set_option linter.unusedVariables false
def weighB (su sx sy : Int) : Bool := decide (1 ≤ su ∧ su ≤ 10000 ∧ 0 ≤ sx ∧ sx ≤ 15 * su ∧ 0 ≤ sy ∧ sy ≤ 11 * su)
def focB (fo : Int) : Bool := decide (1 ≤ fo ∧ fo ≤ 40)
theorem weighB_no {su sx sy : Int} (h : su < 1 ∨ 10000 < su ∨ sx < 0 ∨ 15 * su < sx ∨ sy < 0 ∨ 11 * su < sy) : weighB su sx sy = false := by
  unfold weighB
  exact decide_eq_false (by omega)
def spX (sx wd su : Int) : Int := 2 * sx - (wd - 1) * su
def spZ (fo su : Int) : Int := 2 * fo * su
def spOk (su sx sy wd ht : Int) (s : ByteArray) (fo : Int) : Bool := weighB su sx sy && frameB wd ht s && focB fo
def spI (ok : Bool) (x y z c : Int) : Int := if ok then prI true (gI x y z) c else 0
def spV (su sx sy wd ht : Int) (s : ByteArray) (fo : Int) : Value :=
  .agg #[.int .i64 (spI (spOk su sx sy wd ht s fo) (spX sx wd su) (spX sy ht su) (spZ fo su) (spX sx wd su)), .int .i64 (spI (spOk su sx sy wd ht s fo) (spX sx wd su) (spX sy ht su) (spZ fo su) (spX sy ht su)), .int .i64 (spI (spOk su sx sy wd ht s fo) (spX sx wd su) (spX sy ht su) (spZ fo su) (spZ fo su))]
theorem spV_no {su sx sy wd ht fo : Int} {s : ByteArray} (h : spOk su sx sy wd ht s fo = false) : spV su sx sy wd ht s fo = .agg #[.int .i64 0, .int .i64 0, .int .i64 0] := by unfold spV spI; rw [h]; rfl
theorem sp_bounds {su sx sy wd ht fo : Int} {s : ByteArray} (h : spOk su sx sy wd ht s fo = true) :
    (1 ≤ su ∧ su ≤ 10000 ∧ 0 ≤ sx ∧ sx ≤ 15 * su ∧ 0 ≤ sy ∧ sy ≤ 11 * su) ∧ (1 ≤ wd ∧ wd ≤ 16 ∧ 1 ≤ ht ∧ ht ≤ 12) ∧ (1 ≤ fo ∧ fo ≤ 40) ∧ (0 ≤ (wd - 1) * su ∧ (wd - 1) * su ≤ 150000) ∧ (0 ≤ (ht - 1) * su ∧ (ht - 1) * su ≤ 110000) ∧ (2 ≤ 2 * fo * su ∧ 2 * fo * su ≤ 800000) := by
  unfold spOk at h
  rw [Bool.and_eq_true, Bool.and_eq_true] at h
  obtain ⟨⟨h1, h2⟩, h3⟩ := h
  have a := of_decide_eq_true h1
  have b := frameB_iff.1 h2
  have c := of_decide_eq_true h3
  have m1 := Int.mul_le_mul (show wd - 1 ≤ 15 by omega) a.2.1 (by omega) (by omega)
  have m2 := Int.mul_le_mul (show ht - 1 ≤ 11 by omega) a.2.1 (by omega) (by omega)
  have m3 := Int.mul_le_mul (show 2 * fo ≤ 80 by omega) a.2.1 (by omega) (by omega)
  have m4 := Int.mul_le_mul (show 2 ≤ 2 * fo by omega) a.1 (by omega) (by omega)
  have n1 := Int.mul_nonneg (show 0 ≤ wd - 1 by omega) (show 0 ≤ su by omega)
  have n2 := Int.mul_nonneg (show 0 ≤ ht - 1 by omega) (show 0 ≤ su by omega)
  exact ⟨a, ⟨b.1, b.2.1, b.2.2.1, b.2.2.2.1⟩, c, ⟨n1, by omega⟩, ⟨n2, by omega⟩, ⟨by omega, by omega⟩⟩
theorem sp_right {su sx sy wd ht fo : Int} {s : ByteArray} (h : spOk su sx sy wd ht s fo = true) : rightB (spX sx wd su) (spX sy ht su) (spZ fo su) = true := by
  obtain ⟨a, b, c, d, e, f⟩ := sp_bounds h
  unfold spX spZ
  generalize (wd - 1) * su = p at *
  generalize (ht - 1) * su = q at *
  generalize 2 * fo * su = r at *
  rw [rightB_iff]
  refine ⟨⟨?_, ?_, ?_⟩, ?_⟩ <;> omega
theorem spV_yes {su sx sy wd ht fo : Int} {s : ByteArray} (h : spOk su sx sy wd ht s fo = true) : spV su sx sy wd ht s fo = .agg #[.int .i64 (prI true (gI (spX sx wd su) (spX sy ht su) (spZ fo su)) (spX sx wd su)), .int .i64 (prI true (gI (spX sx wd su) (spX sy ht su) (spZ fo su)) (spX sy ht su)), .int .i64 (prI true (gI (spX sx wd su) (spX sy ht su) (spZ fo su)) (spZ fo su))] := by
  unfold spV spI; rw [h]; rfl
set_option maxRecDepth 100000 in
theorem isFocal_any (fo : Int) (w : World) : Calls Tryz.prog 78 #[.int .i64 fo] w fun e w' => e = .returned (.bool (focB fo)) ∧ w' = w := by
  by_cases h : 1 ≤ fo
  · go_enter Tryz.func78, Tryz.ntmps78
    go_wp2_with fail
    go_ret
    exact ⟨by unfold focB; simp [h], rfl⟩
  · go_enter Tryz.func78, Tryz.ntmps78
    go_wp2_with fail
    go_ret
    exact ⟨by rw [show focB fo = false from decide_eq_false (by omega)]; rfl, rfl⟩
set_option maxRecDepth 100000 in
theorem isWeighed_any (ar su sx sy : Int) (ed : Bool) (w : World) :
    Calls Tryz.prog 187 #[.agg #[.int .i64 ar, .int .i64 su, .int .i64 sx, .int .i64 sy, .bool ed]] w fun e w' => e = .returned (.bool (weighB su sx sy)) ∧ Below w.heap.size w w' := by
  by_cases h1 : 1 ≤ su
  case neg =>
    go_enter Tryz.func187, Tryz.ntmps187
    go_wp2_with fail
    go_ret
    exact ⟨by rw [weighB_no (by omega)]; rfl, below1 _ _⟩
  by_cases h2 : su ≤ 10000
  case neg =>
    go_enter Tryz.func187, Tryz.ntmps187
    go_wp2_with fail
    go_ret
    exact ⟨by rw [weighB_no (by omega)]; rfl, below1 _ _⟩
  by_cases h3 : 0 ≤ sx
  case neg =>
    go_enter Tryz.func187, Tryz.ntmps187
    go_wp2_with fail
    go_ret
    exact ⟨by rw [weighB_no (by omega)]; rfl, below1 _ _⟩
  by_cases h4 : sx ≤ 15 * su
  case neg =>
    go_enter Tryz.func187, Tryz.ntmps187
    go_wp2_with fail
    go_ret
    exact ⟨by rw [weighB_no (by omega)]; rfl, below1 _ _⟩
  by_cases h5 : 0 ≤ sy
  case neg =>
    go_enter Tryz.func187, Tryz.ntmps187
    go_wp2_with fail
    go_ret
    exact ⟨by rw [weighB_no (by omega)]; rfl, below1 _ _⟩
  have HW : Hid (weighB su sx sy = decide (sy ≤ 11 * su)) := yz (by unfold weighB; simp [h1, h2, h3, h4, h5])
  go_enter Tryz.func187, Tryz.ntmps187
  go_wp2_with fail
  go_ret
  exact ⟨by rw [yx HW]; rfl, below1 _ _⟩
set_option maxHeartbeats 1000000 in
set_option maxRecDepth 100000 in
theorem l05Spot_any (ar su sx sy : Int) (ed : Bool) (wd ht : Int) (s : ByteArray) (fo : Int) (w : World) (h : spOk su sx sy wd ht s fo = true) :
    Calls Tryz.prog 147 #[.agg #[.int .i64 ar, .int .i64 su, .int .i64 sx, .int .i64 sy, .bool ed], .agg #[.int .i64 wd, .int .i64 ht, .string s], .int .i64 fo] w fun e w' => e = .returned (.agg #[.int .i64 (spX sx wd su), .int .i64 (spX sy ht su), .int .i64 (spZ fo su)]) ∧ Below w.heap.size w w' := by
  obtain ⟨⟨a1, a2, a3, a4, a5, a6⟩, ⟨b1, b2, b3, b4⟩, ⟨c1, c2⟩, ⟨d1, d2⟩, ⟨e1, e2⟩, ⟨f1, f2⟩⟩ := sp_bounds h
  unfold spX spZ
  have m1 : wrap64 ((wd - 1) * su) = (wd - 1) * su := wrap_id (by omega) (by omega)
  have m2 : wrap64 ((ht - 1) * su) = (ht - 1) * su := wrap_id (by omega) (by omega)
  have m3 : wrap64 (2 * fo * su) = 2 * fo * su := wrap_id (by omega) (by omega)
  clear h
  go_enter Tryz.func147, Tryz.ntmps147
  go_wp2_with fail
  exact bodyPost_ret (v := .agg #[.int .i64 (2 * sx - (wd - 1) * su), .int .i64 (2 * sy - (ht - 1) * su), .int .i64 (2 * fo * su)]) (by simp [results, Tryz.results147, go_sem]) rfl ⟨rfl, below3 _ _ _ _⟩
end Go.Proofs.YteoonaanoenjiaaGreatDoor
