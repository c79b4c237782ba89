/- BlobsOf: the specification's. -/
import Derived.Test.YtmacbegchdjdnaaBlB
namespace Go.Proofs.Ytmacbegchdjdnaa
open Go.RowKit Go.Sort
set_option linter.unusedVariables false

theorem info_blob : (Try.prog.info? 40).map (fun i => (i.zero, i.size, i.bytes)) = some (some (.agg #[.int .i64 0, .int .i64 0, .int .i64 0, .int .i64 0, .bool false]), 5, 40) := by kernel_rfl
theorem info_bool : (Try.prog.info? 4).map (fun i => (i.zero, i.size, i.bytes)) = some (some (.bool false), 1, 1) := by kernel_rfl
theorem zeroBools (n : Nat) (h : n ≤ 281474976710656) : ∃ M : Array Value, (∀ j, j < n → M[j]? = some (.bool false)) ∧ ∀ W : World, (Instr.makeSlice 66 (.int .i64 (n : Int)) (.int .i64 (n : Int))).run Try.prog W = .ok (.slice (some ⟨W.heap.size, 0, none⟩) n n) (W.alloc (.cells M 4)) := by
  obtain ⟨i0, hi, hz0, hz1, hz2⟩ := info_parts info_bool
  refine ⟨madeCells (Value.bool false).cells (((n : Nat) : Int).toNat * i0.size), fun j hj => ?_, fun W => ?_⟩
  · rw [hz1, ← Array.getElem?_toList]
    have e : (Value.bool false).cells = #[.bool false] := rfl
    rw [e, toList_madeCells_one]
    simp [hj]
  · have h := run_make (P := Try.prog) W 66 4 i0 (.bool false) Try.underlying66 hi hz0 .i64 .i64 (n : Int) (n : Int) (by omega) (by omega) (by rw [hz2]; omega) (by omega)
    simpa using h
def flatB (S : List Bl) : List Value := S.flatMap blobL
theorem flatB_app (A B : List Bl) : flatB (A ++ B) = flatB A ++ flatB B := by unfold flatB; rw [List.flatMap_append]
theorem flatB_cell {S : List Bl} {v : Value} (h : v ∈ flatB S) : v.oneCell' = true := by
  unfold flatB at h
  rw [List.mem_flatMap] at h
  obtain ⟨p, _, hp⟩ := h
  simp [blobL] at hp
  rcases hp with rfl | rfl | rfl | rfl | rfl <;> rfl
def levB (lv : Int) : Bool := decide (0 ≤ lv) && decide (lv ≤ 255)
def okB (wd ht : Int) (s : ByteArray) (lv : Int) : Bool := frameB wd ht s && levB lv
def allB (wd ht : Int) (s : ByteArray) (lv : Int) : List Bl := (scanP (frOf wd.toNat ht.toNat s lv) s.size).2
def resB (wd ht : Int) (s : ByteArray) (lv : Int) : List Bl := if okB wd ht s lv = true then (if (allB wd ht s lv).length ≤ 8 then allB wd ht s lv else []) else []
def codeB (wd ht : Int) (s : ByteArray) (lv : Int) : Int := if okB wd ht s lv = true then (if (allB wd ht s lv).length ≤ 8 then 0 else 9) else 1
theorem resB_no {wd ht : Int} {s : ByteArray} {lv : Int} (h : okB wd ht s lv = false) : resB wd ht s lv = [] ∧ codeB wd ht s lv = 1 := by unfold resB codeB; rw [h]; exact ⟨rfl, rfl⟩
theorem resB_many {wd ht : Int} {s : ByteArray} {lv : Int} (h : okB wd ht s lv = true) (h2 : ¬ (allB wd ht s lv).length ≤ 8) : resB wd ht s lv = [] ∧ codeB wd ht s lv = 9 := by unfold resB codeB; rw [if_pos h, if_pos h, if_neg h2, if_neg h2]; exact ⟨rfl, rfl⟩
theorem resB_yes {wd ht : Int} {s : ByteArray} {lv : Int} (h : okB wd ht s lv = true) (h2 : (allB wd ht s lv).length ≤ 8) : resB wd ht s lv = allB wd ht s lv ∧ codeB wd ht s lv = 0 := by unfold resB codeB; rw [if_pos h, if_pos h, if_pos h2, if_pos h2]; exact ⟨rfl, rfl⟩
/-- what lies in memory while it is looked along the rows -/
structure ScanSt (w wx : World) (fb ob xb sb : Nat) (wd ht : Nat) (s : ByteArray) (lv : Int) (T1 : Nat → Bool) : Prop where
  seen : SeenAt wx sb s.size T1
  look : LookAt wx xb wd ht s lv sb s.size
  fr : Blk wx fb [.int .i64 wd, .int .i64 ht, .string s] 24
  res : Blk wx ob [.slice none 0 0, .int .i64 0] 29
  bel : Below w.heap.size w wx
theorem ScanSt.kept {w wx wy : World} {fb ob xb sb wd ht : Nat} {s : ByteArray} {lv : Int} {T1 : Nat → Bool} (h : ScanSt w wx fb ob xb sb wd ht s lv T1) (hB : Below wx.heap.size wx wy) : ScanSt w wy fb ob xb sb wd ht s lv T1 :=
  ⟨RowV.kept h.seen hB, Blk.kept h.look hB, h.fr.kept hB, h.res.kept hB, below_call h.bel hB⟩
theorem ScanSt.byRow {w wx wy : World} {fb ob xb sb wd ht : Nat} {s : ByteArray} {lv : Int} {T1 : Nat → Bool} {row : Option Nat} {lo : Nat} (h : ScanSt w wx fb ob xb sb wd ht s lv T1) (hg : wx.grownBy wy row) (hr : ∀ g, row = some g → lo ≤ g) (h1 : fb < lo) (h2 : ob < lo) (h3 : xb < lo) (h4 : sb < lo) (h5 : w.heap.size ≤ lo) : ScanSt w wy fb ob xb sb wd ht s lv T1 := by
  have ne : ∀ b, b < lo → some b ≠ row := fun b hb e => by have := hr b e.symm; omega
  refine ⟨RowV.grown h.seen hg (ne _ h4), Blk.grown h.look hg (ne _ h3), h.fr.grown hg (ne _ h1), h.res.grown hg (ne _ h2), h.bel.trans ⟨hg.os, hg.tape, hg.output, hg.size, fun k hk => hg.block k (Nat.lt_of_lt_of_le hk h.bel.size) (ne k (by omega))⟩⟩
theorem ScanSt.seenBy {w wx wy : World} {fb ob xb sb wd ht : Nat} {s : ByteArray} {lv : Int} {T1 T2 : Nat → Bool} (h : ScanSt w wx fb ob xb sb wd ht s lv T1) (hg : wx.grownBy wy (some sb)) (hs : SeenAt wy sb s.size T2) (h1 : fb ≠ sb) (h2 : ob ≠ sb) (h3 : xb ≠ sb) (h5 : w.heap.size ≤ sb) : ScanSt w wy fb ob xb sb wd ht s lv T2 :=
  ⟨hs, Blk.grown h.look hg (fun e => h3 (Option.some.inj e)), h.fr.grown hg (fun e => h1 (Option.some.inj e)), h.res.grown hg (fun e => h2 (Option.some.inj e)), h.bel.trans ⟨hg.os, hg.tape, hg.output, hg.size, fun k hk => hg.block k (Nat.lt_of_lt_of_le hk h.bel.size) (fun e => by have := Option.some.inj e; omega)⟩⟩
theorem ownB_none (w : World) (B : Nat) (h : B ≤ w.heap.size) : (w.alloc (.cells #[] 40)).ownsRow B 40 5 (.slice (some ⟨w.heap.size, 0, none⟩) 0 0) 0 (flatB []) :=
  ⟨rfl, .inr ⟨_, 0, #[], rfl, h, Array.getElem?_push_size, Nat.le_refl _, Nat.zero_le _, rfl, rfl⟩⟩

theorem own_lower {w : World} {B B' n m : Nat} {t : TypeId} {v : Value} {xs : List Value} (h : w.ownsRow B t m v n xs) (hb : B' ≤ B) : w.ownsRow B' t m v n xs := by
  obtain ⟨h1, h2⟩ := h
  refine ⟨h1, ?_⟩
  rcases h2 with h2 | ⟨g, cap, cur, e, hg, r⟩
  · exact .inl h2
  · exact .inr ⟨g, cap, cur, e, by omega, r⟩
/-- two cells of another block are set -/
theorem own_set2 {w : World} {B n m : Nat} {t : TypeId} {v : Value} {xs : List Value} (h : w.ownsRow B t m v n xs) (b : Nat) (hne : ∀ z, v.ownBlock = some z → z ≠ b) (x y : Value) : ((w.setCell ⟨b, 0, none⟩ x).setCell ⟨b, 1, none⟩ y).ownsRow B t m v n xs := by
  have hg : ∀ (w : World) (i : Nat) (x : Value), w.grownBy (w.setCell ⟨b, i, none⟩ x) (some b) := fun w i x => ⟨rfl, rfl, rfl, by simp [World.setCell], fun k _ hk => Below.heap_setCell _ _ _ _ (fun e => hk (by rw [e]))⟩
  have ho : v.ownBlock = none ∨ v.ownBlock ≠ some b := by
    cases hv : v.ownBlock with
    | none => exact .inl rfl
    | some z => exact .inr (fun e => hne z hv (Option.some.inj e))
  exact (h.kept (hg w 0 x) ho).kept (hg _ 1 y) ho
theorem new_list (w : World) (vs : List Value) (t : TypeId) : ∀ (j : Nat) (u : Value), vs[j]? = some u → (w.alloc (.cells vs.toArray t)).cell? ((⟨w.heap.size, 0, none⟩ : Addr).add j) = some u := by
  intro j u hj
  have e : (⟨w.heap.size, 0, none⟩ : Addr).add j = ⟨w.heap.size, j, none⟩ := by cases j <;> simp [Addr.add]
  rw [e]
  simp [hj]
set_option maxHeartbeats 4000000 in
set_option maxRecDepth 100000 in
theorem specBlobsOf_any (wd ht : Int) (s : ByteArray) (lv : Int) (w : World) (hs : s.size ≤ maxLen) :
    Calls Try.prog 7 #[.agg #[.int .i64 wd, .int .i64 ht, .string s], .int .i64 lv] w fun e w' => (∃ v, e = .returned (.agg #[v, .int .i64 (codeB wd ht s lv)]) ∧ w'.ownsRow w.heap.size 40 5 v (resB wd ht s lv).length (flatB (resB wd ht s lv))) ∧ Below w.heap.size w w' := by
  have A0 := (blk_new w [.int .i64 wd, .int .i64 ht, .string s] 24).alloc (.cells #[.slice none 0 0, .int .i64 0] 29)
  have R0 := blk_new (w.alloc (.cells #[.int .i64 wd, .int .i64 ht, .string s] 24)) [.slice none 0 0, .int .i64 0] 29
  have e1 : (w.alloc (.cells #[.int .i64 wd, .int .i64 ht, .string s] 24)).heap.size = w.heap.size + 1 := by simp
  rw [e1] at R0
  have B0 := below2 w (.cells #[.int .i64 wd, .int .i64 ht, .string s] 24) (.cells #[.slice none 0 0, .int .i64 0] 29)
  clear e1
  have cF := hide (fun W => specFrameRight_any wd ht s W)
  go_enter Try.func7, Try.ntmps7
  go_wp2_with fail
  generalize (w.alloc (.cells #[.int .i64 wd, .int .i64 ht, .string s] 24)).alloc (.cells #[.slice none 0 0, .int .i64 0] 29) = W0 at A0 R0 B0 ⊢
  obtain ⟨ob, hob⟩ : ∃ ob, ob = w.heap.size + 1 := ⟨_, rfl⟩
  obtain ⟨fb, hfb⟩ : ∃ fb, fb = w.heap.size := ⟨_, rfl⟩
  rw [← hob] at R0 ⊢
  rw [← hfb] at A0 ⊢
  have lfb : w.heap.size ≤ fb := by omega
  have lob : w.heap.size ≤ ob := by omega
  have lne : fb ≠ ob := by omega
  clear hob hfb
  refine (unhide cF _).mono ?_
  rintro e W1 ⟨rfl, hx⟩
  have A1 := A0.kept hx
  have R1 := R0.kept hx
  have B1 := below_call B0 hx
  clear hx A0 R0 B0
  have r0 := R1.cell 0 _ rfl
  have r1 := R1.cell 1 _ rfl
  have g0 := R1.free 0
  have g1 := R1.free 1
  cases k1 : frameB wd ht s
  case false =>
    have HV := hide (resB_no (wd := wd) (ht := ht) (s := s) (lv := lv) (by unfold okB; rw [k1]; rfl))
    go_wp2_with fail
    rw [(unhide HV).1, (unhide HV).2]
    exact bodyPost_ret (v := .agg #[.slice none 0 0, .int .i64 1]) (by simp [results, Try.results7, go_sem, r0, r1]) rfl ⟨⟨_, rfl, World.ownsRow_nil _ _ _ _⟩, (B1.setCell lob _).setCell lob _⟩
  have a0 := A1.cell 0 _ rfl
  have a1 := A1.cell 1 _ rfl
  have a2 := A1.cell 2 _ rfl
  go_wp2_with fail
  refine (l02Is_any lv 0 255 _).mono ?_
  rintro e W2 ⟨rfl, hw⟩
  rw [hw]
  clear hw W2
  rw [show (decide (0 ≤ lv) && decide (lv ≤ 255)) = levB lv from rfl]
  cases k2 : levB lv
  case false =>
    have HV := hide (resB_no (wd := wd) (ht := ht) (s := s) (lv := lv) (by unfold okB; rw [k1, k2]; rfl))
    go_wp2_with fail
    rw [(unhide HV).1, (unhide HV).2]
    exact bodyPost_ret (v := .agg #[.slice none 0 0, .int .i64 1]) (by simp [results, Try.results7, go_sem, r0, r1]) rfl ⟨⟨_, rfl, World.ownsRow_nil _ _ _ _⟩, (B1.setCell lob _).setCell lob _⟩
  have hok : okB wd ht s lv = true := by unfold okB; rw [k1, k2]; rfl
  obtain ⟨f1, f2, f3, f4, f5⟩ := frameB_iff.1 k1
  obtain ⟨wn, hwn⟩ := Int.eq_ofNat_of_zero_le (show 0 ≤ wd by omega)
  obtain ⟨hn, hhn⟩ := Int.eq_ofNat_of_zero_le (show 0 ≤ ht by omega)
  subst hwn hhn
  have hsz : s.size = wn * hn := by
    have : ((s.size : Nat) : Int) = ((wn * hn : Nat) : Int) := by rw [f5]; exact (Int.natCast_mul _ _).symm
    omega
  have hn192 : s.size ≤ 192 := by have := Nat.mul_le_mul (show wn ≤ 16 by omega) (show hn ≤ 12 by omega); omega
  have HSZ := hide hsz
  have HOK := hide hok
  clear hsz hok k1 k2 f5 hs
  obtain ⟨M, hM, hmk⟩ := zeroBools s.size (by omega)
  obtain ⟨i0, hinf, hz0, hz1, hz2⟩ := info_parts info_blob
  have hm8 : 400 ≤ maxLen := by decide +kernel
  have hfl := A1.lt
  have hol := R1.lt
  go_upto_region 3 with fail
  go_region
  have Z2 := below2 W1 (.cells M 4) (.cells #[.int .i64 (wn : Int), .int .i64 (hn : Int), .string s, .int .i64 lv, .slice (some ⟨W1.heap.size, 0, none⟩) s.size s.size] 68)
  have s0 : SeenAt (W1.alloc (.cells M 4)) W1.heap.size s.size (fun _ => false) := ⟨M, heap_alloc_new W1 _, hM⟩
  have x0 := blk_new (W1.alloc (.cells M 4)) (lookL wn hn s lv W1.heap.size s.size) 68
  have e1 : (W1.alloc (.cells M 4)).heap.size = W1.heap.size + 1 := by simp
  rw [e1] at x0
  have ST0 : ScanSt w ((W1.alloc (.cells M 4)).alloc (.cells #[.int .i64 (wn : Int), .int .i64 (hn : Int), .string s, .int .i64 lv, .slice (some ⟨W1.heap.size, 0, none⟩) s.size s.size] 68)) fb ob (W1.heap.size + 1) W1.heap.size wn hn s lv (fun _ => false) :=
    ⟨RowV.kept s0 (below1 _ _), x0, A1.kept Z2, R1.kept Z2, below_call B1 Z2⟩
  have e2 : ((W1.alloc (.cells M 4)).alloc (.cells #[.int .i64 (wn : Int), .int .i64 (hn : Int), .string s, .int .i64 lv, .slice (some ⟨W1.heap.size, 0, none⟩) s.size s.size] 68)).heap.size = W1.heap.size + 1 + 1 := by simp
  have ST1 : ScanSt w ((W1.alloc (.cells M 4)).alloc (.cells #[.int .i64 (wn : Int), .int .i64 (hn : Int), .string s, .int .i64 lv, .slice (some ⟨W1.heap.size, 0, none⟩) s.size s.size] 68)).drew fb ob (W1.heap.size + 1) W1.heap.size wn hn s lv (fun _ => false) := ⟨ST0.seen.drewn, Blk.drewn ST0.look, ST0.fr.drewn, ST0.res.drewn, ST0.bel.drew⟩
  have e3 : ((W1.alloc (.cells M 4)).alloc (.cells #[.int .i64 (wn : Int), .int .i64 (hn : Int), .string s, .int .i64 lv, .slice (some ⟨W1.heap.size, 0, none⟩) s.size s.size] 68)).drew.heap.size = W1.heap.size + 1 + 1 := e2
  clear ST0 Z2 s0 x0 e1 e2 hmk hM a0 a1 a2 r0 r1 g0 g1 A1 R1
  have hW1 := B1.size
  clear B1
  generalize ((W1.alloc (.cells M 4)).alloc (.cells #[.int .i64 (wn : Int), .int .i64 (hn : Int), .string s, .int .i64 lv, .slice (some ⟨W1.heap.size, 0, none⟩) s.size s.size] 68)).drew = W4 at ST1 e3 ⊢
  obtain ⟨sb, hsb⟩ : ∃ sb, sb = W1.heap.size := ⟨_, rfl⟩
  obtain ⟨xb, hxb⟩ : ∃ xb, xb = W1.heap.size + 1 := ⟨_, rfl⟩
  rw [← hxb, ← hsb] at ST1
  rw [← hxb]
  have hlt1 : fb < sb := by omega
  have hlt2 : ob < sb := by omega
  have hlt3 : sb < xb := by omega
  have hlt4 : w.heap.size ≤ sb := by omega
  have hlo : xb < W4.heap.size := by omega
  clear hsb hxb hfl hol hW1 e3
  have HST := hide (ST1.kept (below1 W4 (.cells #[] 40)))
  have HO := hide (ownB_none W4 W4.heap.size (Nat.le_refl _))
  clear ST1
  generalize hfe : frOf wn hn s lv = f
  have HF := hide hfe
  clear hfe
  have hfn : f.n = s.size := by rw [← unhide HF]; exact (unhide HSZ).symm
  have HFN := hide hfn
  clear hfn
  go_wp2_with fail
  generalize hlw : W4.heap.size = lo at *
  clear hlw
  generalize W4.alloc (.cells #[] 40) = W5 at HST HO ⊢
  go_loopw [6, 7] (fun v kk wr => ∃ k : Nat, k ≤ s.size ∧ kk = .int .i64 k ∧ Hid (wr.ownsRow lo 40 5 v (scanP f k).2.length (flatB (scanP f k).2)) ∧ Hid (ScanSt w wr fb ob xb sb wn hn s lv (scanP f k).1) ∧ lo ≤ wr.heap.size) (fun _ kk _ => s.size - (intOf kk).toNat)
  case atStart => exact ⟨0, Nat.zero_le _, rfl, HO, HST, by have := ((unhide HO).lt lo rfl).2; omega⟩
  case round =>
    clear HO HST
    obtain ⟨k, hk, rfl, HO, HST, hlow⟩ := hrel
    have a2 := (unhide HST).fr.cell 2 _ rfl
    by_cases hkn : k < s.size
    · have hkn2 : (k : Int) < (s.size : Int) := by omega
      have HSC : Hid (scanP f (k + 1) = if litP f (scanP f k).1 k = true then ((blobP f (scanP f k).1 k).1, (scanP f k).2 ++ [sumP f (blobP f (scanP f k).1 k).2]) else scanP f k) := hide rfl
      have hsl := scanP_most f k
      generalize scanP f k = Sc at *
      obtain ⟨T1, S1⟩ := Sc
      simp only at *
      go_wp2_with fail
      refine (specLit_any wn hn s lv xb sb s.size k T1 _ rfl hkn (unhide HST).look (unhide HST).seen).mono ?_
      rintro e W6 ⟨rfl, hx⟩
      rw [unhide HF]
      have HST2 := hide ((unhide HST).kept hx)
      have HO2 := hide (own_kept (unhide HO) hx)
      have hlow2 := Nat.le_trans hlow hx.size
      clear HST HO hx a2 hlow
      cases hl : litP f T1 k
      · rw [hl] at HSC
        have HSC2 : Hid (scanP f (k + 1) = (T1, S1)) := HSC
        have HO3 : Hid (W6.ownsRow lo 40 5 u6 (scanP f (k + 1)).2.length (flatB (scanP f (k + 1)).2)) := hide (by rw [unhide HSC2]; exact unhide HO2)
        have HST3 : Hid (ScanSt w W6 fb ob xb sb wn hn s lv (scanP f (k + 1)).1) := hide (by rw [unhide HSC2]; exact unhide HST2)
        go_wp2_with fail
        go_roundw
        case rel => exact ⟨k + 1, by omega, by go_num, HO3, HST3, hlow2⟩
        case measure => simp [intOf] <;> omega
      · rw [hl, if_pos rfl] at HSC
        have hT := (litP_yes hl).2
        have cG := hide (fun (W : World) h1 h2 => specGrow_any wn hn s lv xb sb k T1 W (by omega) (by omega) (by omega) (by omega) (unhide HSZ) hkn hT (by omega) h1 h2)
        rw [unhide HF] at cG
        clear hl hT
        generalize hbp : blobP f T1 k = Bp at *
        clear hbp
        obtain ⟨T2, Ab⟩ := Bp
        simp only at HSC cG
        generalize sumP f Ab = b at *
        obtain ⟨ar, su, sx, sy, ed⟩ := b
        have cG' : Hid (∀ W : World, LookAt W xb wn hn s lv sb s.size → SeenAt W sb s.size T1 → Calls Try.prog 35 #[.pointer (some ⟨xb, 0, none⟩), .int .i64 k] W fun e w' => e = .returned (.agg #[.int .i64 ar, .int .i64 su, .int .i64 sx, .int .i64 sy, .bool ed]) ∧ SeenAt w' sb s.size T2 ∧ W.grownBy w' (some sb)) := cG
        clear cG
        go_wp2_with fail
        refine (unhide cG' _ (unhide HST2).look (unhide HST2).seen).mono ?_
        rintro e W7 ⟨rfl, hs7, hg7⟩
        have HST3 := hide ((unhide HST2).seenBy hg7 hs7 (by omega) (by omega) (by omega) hlt4)
        have HO3 := hide ((unhide HO2).kept hg7 (by
          cases hv : u6.ownBlock with
          | none => exact .inl rfl
          | some z => exact .inr (fun e => by have := ((unhide HO2).lt z hv).1; have := Option.some.inj e; omega)))
        have hlow3 := Nat.le_trans hlow2 hg7.size
        clear hs7 hg7 HST2 HO2
        have Z1 := below1 W7 (.cells #[.int .i64 ar, .int .i64 su, .int .i64 sx, .int .i64 sy, .bool ed] 40)
        have hown := own_kept (unhide HO3) Z1
        have ST4 := (unhide HST3).kept Z1
        clear Z1
        go_wp2_with (at_builtin; refine wpList_append_own _ rfl _ _ 27 rfl lo 40 i0 (.agg #[.int .i64 0, .int .i64 0, .int .i64 0, .int .i64 0, .bool false]) 5 40 Try.underlying27 hinf hz0 hz1 hz2 rfl (by decide) _ _ _ rfl hown ⟨W7.heap.size, 0, none⟩ 1 1 (flatB [⟨ar, su, sx, sy, ed⟩]) rfl rfl ?d2 (fun u hu => flatB_cell hu) ?d3 ?d4 ?d5 ?_)
        case d2 => first | exact fun j u h => h | exact new_list _ _ _
        case d3 => omega
        case d4 => omega
        case d5 => first | omega | (simp; omega)
        intro v7 V7 hown7 hgrow7 _
        have ST5 := ST4.byRow hgrow7 (fun q e => (hown.lt q e).1) (by omega) (by omega) (by omega) (by omega) (by omega)
        have hsz7 := hgrow7.size
        have HO5 : Hid (V7.ownsRow lo 40 5 v7 (scanP f (k + 1)).2.length (flatB (scanP f (k + 1)).2)) := hide (by rw [unhide HSC, flatB_app, List.length_append]; exact hown7)
        have HST5 : Hid (ScanSt w V7 fb ob xb sb wn hn s lv (scanP f (k + 1)).1) := hide (by rw [unhide HSC]; exact ST5)
        have hlow5 : lo ≤ V7.heap.size := by simp at hsz7; omega
        clear hown7 hgrow7 hown ST4 ST5 hsz7
        go_wp2_with fail
        go_roundw
        case rel => exact ⟨k + 1, by omega, by go_num, HO5, HST5, hlow5⟩
        case measure => simp [intOf] <;> omega
    · have hke : k = s.size := by omega
      subst hke
      have HAL : Hid (allB wn hn s lv = (scanP f s.size).2) := hide (by unfold allB; rw [← unhide HF]; rfl)
      have r0 := (unhide HST).res.cell 0 _ rfl
      have r1 := (unhide HST).res.cell 1 _ rfl
      have g0 := (unhide HST).res.free 0
      have g1 := (unhide HST).res.free 1
      have hB := (unhide HST).bel
      obtain ⟨a6, cap6, hv6⟩ := own_slice (unhide HO)
      subst hv6
      by_cases h8 : (scanP f s.size).2.length ≤ 8
      · have HV := hide (resB_yes (unhide HOK) (by rw [unhide HAL]; exact h8))
        rw [unhide HAL] at HV
        have h8' : ¬ (8 : Int) < ((scanP f s.size).2.length : Int) := by omega
        have HO9 := own_lower (unhide HO) (show w.heap.size ≤ lo by omega)
        have HO10 := own_set2 HO9 ob (by
          intro z e
          have := ((unhide HO).lt z e).1
          omega) (.slice a6 (scanP f s.size).2.length cap6) (.int .i64 0)
        clear HO9
        generalize scanP f s.size = Sf at *
        obtain ⟨T1, S1⟩ := Sf
        simp only at *
        go_wp2_with fail
        rw [(unhide HV).1, (unhide HV).2]
        exact bodyPost_ret (v := .agg #[.slice a6 S1.length cap6, .int .i64 0]) (by simp [results, Try.results7, go_sem, r0, r1]) rfl ⟨⟨_, rfl, HO10⟩, (hB.setCell lob _).setCell lob _⟩
      · have HV := hide (resB_many (unhide HOK) (by rw [unhide HAL]; exact h8))
        have h8' : (8 : Int) < ((scanP f s.size).2.length : Int) := by omega
        generalize scanP f s.size = Sf at *
        obtain ⟨T1, S1⟩ := Sf
        simp only at *
        go_wp2_with fail
        rw [(unhide HV).1, (unhide HV).2]
        exact bodyPost_ret (v := .agg #[.slice none 0 0, .int .i64 9]) (by simp [results, Try.results7, go_sem, r0, r1]) rfl ⟨⟨_, rfl, World.ownsRow_nil _ _ _ _⟩, (hB.setCell lob _).setCell lob _⟩
end Go.Proofs.Ytmacbegchdjdnaa
