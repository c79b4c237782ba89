/- Several texts in one: DsS, DsV, SkyW, DkW, DrW. -/
import Derived.Lib.AppendStr
import Derived.Test.YtofpjlhoppofdaaGreatDoorRows
import Derived.Deep.Slices
import Derived.Deep.Strs
import Derived.Stop.LaidErr
import Derived.LaidHandle
import Derived.LaidMore
import Derived.ProofKit
import Derived.Lay
import Derived.Test.YtofpjlhoppofdaaGreatDoorQDeskFaultOwn16
import Derived.Test.YtofpjlhoppofdaaGreatDoorQDeskFaultOwn3
import Derived.Test.YtofpjlhoppofdaaGreatDoorQDeskFaultOwn1
import Derived.Test.YtofpjlhoppofdaaGreatDoorQDeskFaultOwn15
namespace Go.Proofs.YtofpjlhoppofdaaGreatDoor
open Go.RowKit Go.Sort
set_option linter.unusedVariables false
set_option linter.unusedSimpArgs false
theorem txt_at {w : World} {B g n c : Nat} {D : List (List UInt8)} (h : TxtRow w B (.slice (some ⟨g, 0, none⟩) n c) D) {j : Nat} {x : List UInt8} (hj : D[j]? = some x) : w.cell? ⟨g, j, none⟩ = some (strB x) := by
  have hn : D ≠ [] := fun e => by rw [e] at hj; cases hj
  obtain ⟨g', cap, e, _, _, _, _, h2⟩ := txt_cells h hn
  injection e with e1 e2 e3
  injection e1 with e1
  injection e1 with e1
  subst e1
  exact h2 j x hj
theorem deskTx_none {s : ByteArray} (h : deskLs s = []) : deskTx s = ⟨#[]⟩ := by unfold deskTx; rw [h]; rfl
theorem res_sdesk (T : Array Value) (X : World) (b : Nat) (t : ByteArray) (n c : Int) (hT : T.getD 2 undef = .pointer (some ⟨b, 0, none⟩)) (h : Blk X b [.string t, .int .i64 n, .int .i64 c] 23) : (results Tryz.f13 T).run Tryz.prog X = .ok (.agg #[.string t, .int .i64 n, .int .i64 c]) X := by
  obtain ⟨h0, h1, h2⟩ := bcs3 (h)
  simp only [Array.getD_eq_getD_getElem?] at hT
  simp [results, Tryz.results13, go_sem, hT, h0, h1, h2]
theorem ownDk_none (w : World) (B : Nat) (h : B ≤ w.heap.size) : (w.alloc (.cells #[] 5)).ownsRow B 5 1 (.slice (some ⟨w.heap.size, 0, none⟩) 0 0) 0 (Lib.strCells ⟨#[]⟩) :=
  ⟨rfl, .inr ⟨_, 0, #[], rfl, h, Array.getElem?_push_size, Nat.le_refl _, Nat.zero_le _, rfl, rfl⟩⟩
theorem own_string {w : World} {B : Nat} {v : Value} {tx : ByteArray} (h : w.ownsRow B 5 1 v tx.size (Lib.strCells tx)) (hn : v ≠ .slice none 0 0) : (convert 55 9 v).run Tryz.prog w = .ok (.string tx) w := by
  rcases h.2 with ⟨e, _⟩ | ⟨g, cap, cur, rfl, hb, hg, h1, h2, h3, h4⟩
  · exact absurd e hn
  · have hl : tx.data.toList.length = tx.size := by simp
    have := run_convert_bytes_back (P := Tryz.prog) w 55 9 5 ⟨g, 0, none⟩ cap tx.data.toList Tryz.underlying55 Tryz.underlying5 Tryz.underlying9 (fun j hj => by
      have e : (Lib.strCells tx)[j]? = some (.int .u8 (tx.data.toList[j]).toNat) := by unfold Lib.strCells; rw [List.getElem?_map, List.getElem?_eq_getElem hj]; rfl
      rw [← h4, List.getElem?_take, if_pos (by omega)] at e
      rw [show (⟨g, 0, none⟩ : Addr).add j = ⟨g, j, none⟩ by cases j <;> simp [Addr.add]]
      rw [cell_of_row w g j cur _ _ hg]
      simpa using e)
    rw [hl] at this
    simpa using this
structure RnSt (w : World) (db B : Nat) (v3 : Value) (D : List (List UInt8)) (wr : World) (v : Value) (d : Tk × U4) (tx : ByteArray) (a : Option Addr) (cap : Nat) : Prop where
  out : Blk wr w.heap.size [.string ⟨#[]⟩, .int .i64 0, .int .i64 0] 23
  txt : TxtRow wr (w.heap.size + 1) v3 D
  dsk : DeskAt wr db B d.1 d.2 a cap
  row : wr.ownsRow (w.heap.size + 1) 5 1 v tx.size (Lib.strCells tx)
  nn : v ≠ .slice none 0 0
  bel : Below w.heap.size w wr
  low : w.heap.size + 1 ≤ wr.heap.size
  dbl : w.heap.size + 1 ≤ db
  lob : B ≤ wr.heap.size
theorem RnSt.kept {w wr w2 : World} {db B : Nat} {v3 v : Value} {D : List (List UInt8)} {d : Tk × U4} {tx : ByteArray} {a : Option Addr} {cap : Nat} (h : RnSt w db B v3 D wr v d tx a cap) (hx : Below wr.heap.size wr w2) : RnSt w db B v3 D w2 v d tx a cap :=
  ⟨h.out.kept hx, own_kept h.txt hx, h.dsk.kept hx, own_kept h.row hx, h.nn, below_call h.bel hx, Nat.le_trans h.low hx.size, h.dbl, Nat.le_trans h.lob hx.size⟩
theorem RnSt.line {w wr w2 : World} {db B : Nat} {v3 v : Value} {D : List (List UInt8)} {d d2 : Tk × U4} {tx : ByteArray} {a a2 : Option Addr} {cap cap2 : Nat} (h : RnSt w db B v3 D wr v d tx a cap) (hg : wr.grownBy w2 (some db)) (hD : DeskAt w2 db B d2.1 d2.2 a2 cap2) : RnSt w db B v3 D w2 v d2 tx a2 cap2 :=
  ⟨h.out.grown hg (fun e => by have := h.dbl; have := Option.some.inj e; omega), World.ownsRow.kept h.txt hg (own_blk h.txt h.dsk.blk (by decide)), hD, World.ownsRow.kept h.row hg (own_blk h.row h.dsk.blk (by decide)), h.nn, belowB h.bel hg (Nat.le_of_succ_le h.low) (fun g e => by have := Option.some.inj e; have := h.dbl; omega), Nat.le_trans h.low hg.size, h.dbl, Nat.le_trans h.lob hg.size⟩
theorem RnSt.app {w wr w2 : World} {db B : Nat} {v3 v v' : Value} {D : List (List UInt8)} {d : Tk × U4} {tx tx' : ByteArray} {a : Option Addr} {cap : Nat} (h : RnSt w db B v3 D wr v d tx a cap) (hg : wr.grownBy w2 v.ownBlock) (hr : w2.ownsRow (w.heap.size + 1) 5 1 v' tx'.size (Lib.strCells tx')) (hn : v' ≠ .slice none 0 0) : RnSt w db B v3 D w2 v' d tx' a cap := by
  have hlt := own_lt2 h.row
  refine ⟨h.out.grown hg (fun e => by have := hlt _ e.symm; omega), World.ownsRow.kept h.txt hg (own_apart h.txt h.row (by decide)), ⟨h.dsk.blk.grown hg ?_, World.ownsRow.kept h.dsk.sky hg (own_apart h.dsk.sky h.row (by decide)), h.dsk.far⟩, hr, hn, belowB h.bel hg (Nat.le_of_succ_le h.low) (fun g e => by have := hlt g e; omega), Nat.le_trans h.low hg.size, h.dbl, Nat.le_trans h.lob hg.size⟩
  rcases own_blk h.row h.dsk.blk (by decide) with e | e
  · rw [e]; intro e2; cases e2
  · exact fun e2 => e e2.symm
set_option maxHeartbeats 8000000 in
set_option maxRecDepth 100000 in
theorem specDeskRun_any (s : ByteArray) (w : World) (hs : s.size ≤ 1048576) :
    Calls Tryz.prog 13 #[.string s] w fun e w' => e = .returned (.agg #[.string (deskTx s), .int .i64 (deskLn s), .int .i64 (deskCd s)]) ∧ Below w.heap.size w w' := by
  have R0 := blk_new w [.string ⟨#[]⟩, .int .i64 0, .int .i64 0] 23
  by_cases hb : 8000 < s.size
  · have hb' : (8000 : Int) < (s.size : Int) := by omega
    have HO := yz (rd_big hb)
    go_enter Tryz.func13, Tryz.ntmps13
    go_wp2
    refine bodyPost_ret (v := .agg #[.string ⟨#[]⟩, .int .i64 0, .int .i64 2]) ?_ rfl ⟨by rw [(yy HO).2.1, (yy HO).2.2, deskTx_none (yy HO).1], below1 _ _⟩
    · simp [results, Tryz.results13, go_sem]
  have hb' : ¬ (8000 : Int) < (s.size : Int) := by omega
  have HG := yz (fun L h => rd_good (s := s) hb (L := L) h)
  have HFT := yz (fun i h => rd_fault (s := s) hb (i := i) h)
  have HL0 := yz (left_start s)
  have hDn : pcs 10 s.data.toList ≠ [] := pcs_ne _ _
  have HSH := yz (fun p h => pcs_short (c := 10) (s := s.data.toList) (p := p) h)
  have hDm := pcs_many 10 s.data.toList
  rw [len_size] at hDm
  obtain ⟨i0, hinf, hz0, hz1, hz2⟩ := infoByte
  have hm8 : 10000 ≤ maxLen := by decide +kernel
  have H0 : Hid (desk0 = (newT deskL 2, (1, 0, 0, 0))) := yz rfl
  have hok0 := ok_desk0
  have HB0 := yz (below1 w (.cells #[.string ⟨#[]⟩, .int .i64 0, .int .i64 0] 23))
  have hW0 : (w.alloc (.cells #[.string ⟨#[]⟩, .int .i64 0, .int .i64 0] 23)).heap.size = w.heap.size + 1 := by simp
  have cS : Hid (Calls Tryz.prog 17 #[.string s, .int .u8 10] (w.alloc (.cells #[.string ⟨#[]⟩, .int .i64 0, .int .i64 0] 23)) fun e w' => (∃ v, e = .returned v ∧ TxtRow w' (w.alloc (.cells #[.string ⟨#[]⟩, .int .i64 0, .int .i64 0] 23)).heap.size v (pcs 10 s.data.toList)) ∧ Below (w.alloc (.cells #[.string ⟨#[]⟩, .int .i64 0, .int .i64 0] 23)).heap.size (w.alloc (.cells #[.string ⟨#[]⟩, .int .i64 0, .int .i64 0] 23)) w') := yz (l01SplitC_any s 10 (w.alloc (.cells #[.string ⟨#[]⟩, .int .i64 0, .int .i64 0] 23)) (by omega))
  have cN : Hid (∀ W : World, Calls Tryz.prog 18 #[.slice (some ⟨W.heap.size, 0, none⟩) 6 6, .int .i64 2] (W.alloc deskO) fun e w' => OutT w' (W.alloc deskO).heap.size (newT deskL 2) (newC deskL 2) e ∧ Below (W.alloc deskO).heap.size (W.alloc deskO) w') := yz (fun W => specNew_any deskL 2 W.heap.size 0 6 (W.alloc deskO) (by decide) (deskStars (deskRow W)))
  have HR0 := yz R0
  clear R0
  have HLE : Hid (∀ done, leftP s done → leftP s done) := yz (fun _ h => h)
  obtain ⟨D, HDD⟩ : ∃ D, Hid (pcs 10 s.data.toList = D) := ⟨_, yz rfl⟩
  rw [yy HDD] at hDn HSH hDm cS
  obtain ⟨t0, ht0⟩ : ∃ t0, newT deskL 2 = t0 := ⟨_, rfl⟩
  rw [ht0] at cN H0
  rw [yy H0] at hok0
  clear ht0
  generalize newC deskL 2 = c0 at *
  obtain ⟨L0, i1, i2, i3, i4, i5, i6, i7, i8⟩ := t0
  go_enter Tryz.func13, Tryz.ntmps13
  go_wp2_with fail
  refine (yy cS).mono ?_
  rintro e W1 ⟨⟨v3, rfl, hT⟩, hx⟩
  obtain ⟨g3, c3, rfl, _, _, _, hg3, _⟩ := txt_cells hT hDn
  have HT1 : Hid (TxtRow W1 (w.heap.size + 1) (.slice (some ⟨g3, 0, none⟩) D.length c3) D) := yz (by rw [← hW0]; exact hT)
  have HR1 := yz ((yy HR0).kept hx)
  have HB1 := yz (below_call (yy HB0) hx)
  have hs1 : w.heap.size + 1 ≤ W1.heap.size := by have := hx.size; omega
  clear hT hx cS HB0 HR0
  go_wp2_with fail
  refine (specDesk_any W1).mono ?_
  rintro e W2 ⟨rfl, rfl⟩
  go_wp2_with fail
  refine ((yy cN) W1).mono ?_
  rintro e W2 ⟨⟨a2, cap2, rfl, hC⟩, hx⟩
  have hx' := below_call (below1 W1 deskO) hx
  have HC2 := yz (own_lower hC (show W1.heap.size ≤ (W1.alloc deskO).heap.size by simp))
  have HT2 := yz (own_kept (yy HT1) hx')
  have HR2 := yz ((yy HR1).kept hx')
  have HB2 := yz (below_call (yy HB1) hx')
  have hs2 : W1.heap.size ≤ W2.heap.size := hx'.size
  have HF2 : Hid (∀ x, a2 = some x → x.block ≠ W2.heap.size) := yz (fun x e => Nat.ne_of_lt (own_far hC x e).2)
  clear hC hx hx' HT1 HR1 HB1 cN
  have hft := fieldT W2 a2 L0.length cap2 i1 i2 i3 i4 i5 i6 i7 i8 c0
  go_wp2_with fail
  have hy := below2 W2 (.cells #[.slice a2 L0.length cap2, .int .i64 i1, .int .i64 i2, .int .i64 i3, .int .i64 i4, .int .i64 i5, .int .i64 i6, .int .i64 i7, .int .i64 i8, .int .i64 1, .int .i64 0, .int .i64 0, .int .i64 0] 54) (.cells #[] 5)
  have HST0 : Hid (RnSt w W2.heap.size W1.heap.size (.slice (some ⟨g3, 0, none⟩) D.length c3) D ((W2.alloc (.cells #[.slice a2 L0.length cap2, .int .i64 i1, .int .i64 i2, .int .i64 i3, .int .i64 i4, .int .i64 i5, .int .i64 i6, .int .i64 i7, .int .i64 i8, .int .i64 1, .int .i64 0, .int .i64 0, .int .i64 0] 54)).alloc (.cells #[] 5)) (.slice (some ⟨(W2.alloc (.cells #[.slice a2 L0.length cap2, .int .i64 i1, .int .i64 i2, .int .i64 i3, .int .i64 i4, .int .i64 i5, .int .i64 i6, .int .i64 i7, .int .i64 i8, .int .i64 1, .int .i64 0, .int .i64 0, .int .i64 0] 54)).heap.size, 0, none⟩) 0 0) (runD []).1 (runD []).2 a2 cap2) := yz (by
    have e : runD [] = ((⟨L0, i1, i2, i3, i4, i5, i6, i7, i8⟩, (1, 0, 0, 0)), ⟨#[]⟩) := by show (desk0, _) = _; rw [yy H0]
    rw [e]
    exact ⟨(yy HR2).kept hy, own_kept (yy HT2) hy, ⟨(blk_new W2 [.slice a2 L0.length cap2, .int .i64 i1, .int .i64 i2, .int .i64 i3, .int .i64 i4, .int .i64 i5, .int .i64 i6, .int .i64 i7, .int .i64 i8, .int .i64 1, .int .i64 0, .int .i64 0, .int .i64 0] 54).alloc _, own_kept (yy HC2) hy, yy HF2⟩, ownDk_none _ _ (by simp; omega), (fun e => by cases e), below_call (yy HB2) hy, by simp; omega, by omega, by simp; omega⟩)
  have hok1 : DeskOk (runD []).1.1 := by show DeskOk desk0.1; rw [yy H0]; exact hok0
  have hsz1 : (W2.alloc (.cells #[.slice a2 L0.length cap2, .int .i64 i1, .int .i64 i2, .int .i64 i3, .int .i64 i4, .int .i64 i5, .int .i64 i6, .int .i64 i7, .int .i64 i8, .int .i64 1, .int .i64 0, .int .i64 0, .int .i64 0] 54)).heap.size = W2.heap.size + 1 := by simp
  try rw [hsz1] at HST0
  clear hy HT2 HR2 HB2 HC2 HF2 H0 hok0 hsz1
  generalize (W2.alloc (.cells #[.slice a2 L0.length cap2, .int .i64 i1, .int .i64 i2, .int .i64 i3, .int .i64 i4, .int .i64 i5, .int .i64 i6, .int .i64 i7, .int .i64 i8, .int .i64 1, .int .i64 0, .int .i64 0, .int .i64 0] 54)).alloc (.cells #[] 5) = W3 at *
  generalize W2.heap.size = db at *
  generalize W1.heap.size = B at *
  have hDp : 0 < D.length := List.length_pos_iff.2 hDn
  go_loopw [5, 6] (fun v kk wr => ∃ (k : Nat) (done : List Ln) (a : Option Addr) (cap : Nat), Hid (done.length = k) ∧ kk = .int .i64 k ∧ k < D.length ∧ k ≤ 40 ∧ Hid (leftP s done) ∧ DeskOk (runD done).1.1 ∧ Hid ((runD done).2.size ≤ 71 * k) ∧ Hid (RnSt w db B (.slice (some ⟨g3, 0, none⟩) D.length c3) D wr v (runD done).1 (runD done).2 a cap)) (fun _ kk _ => D.length - (intOf kk).toNat)
  case atStart => exact ⟨0, [], a2, cap2, yz rfl, rfl, hDp, by omega, HL0, hok1, yz (Nat.zero_le _), HST0⟩
  case round =>
    clear HST0 hok1 HL0
    obtain ⟨k, done, a', cap', HN, rfl, hkD, hk40, HL, hok, HSZ, HS⟩ := hrel
    obtain ⟨p, hp⟩ : ∃ p, D[k]? = some p := ⟨_, List.getElem?_eq_getElem hkD⟩
    have cl := txt_at (yy HS).txt hp
    have hps : p.length ≤ 8000 := by have := yy HSH p (List.mem_of_getElem? hp); rw [len_size] at this; omega
    have cR := yz (fun W => l09Read_any ⟨p.toArray⟩ W (by show p.toArray.size ≤ 8000; simpa using hps))
    have HDR : Hid (D.drop k = p :: D.drop (k + 1)) := yz (by rw [List.drop_eq_getElem_cons hkD]; rw [List.getElem?_eq_getElem hkD] at hp; rw [Option.some.inj hp])
    unfold strB at cl
    clear hp
    obtain ⟨pb, hpb⟩ : ∃ pb : ByteArray, (⟨p.toArray⟩ : ByteArray) = pb := ⟨_, rfl⟩
    have HPB : Hid (pb.data.toList = p) := yz (by rw [← hpb])
    have HPE : Hid (p ≠ [] → pb.toList.isEmpty = false ∧ (pb.toList == []) = false) := yz (fun h => by
      have e : pb.toList = p := by rw [ByteArray.toList_eq, ← hpb]
      rw [e]
      cases p with
      | nil => exact absurd rfl h
      | cons x xs => exact ⟨rfl, rfl⟩)
    have HPN : Hid (p = [] → pb = ⟨#[]⟩) := yz (fun h => by rw [← hpb, h])
    rw [hpb] at cl cR
    clear hpb
    by_cases hlast : k + 1 = D.length
    · have el : ((k : Int) == (D.length : Int) - 1) = true := by simp; omega
      have HDR1 : Hid ((pcs 10 s.data.toList).drop done.length = [p]) := yz (by rw [yy HDD, yy HN, yy HDR, List.drop_of_length_le (by omega)])
      by_cases hpe : p = []
      · have hpb0 := yy HPN hpe
        subst hpb0
        rw [hpe] at HDR1
        have hDP := yz (left_end (yy HL) (yy HDR1))
        have HR := yz (yy HG done (yy hDP))
        have hcv := own_string (yy HS).row (yy HS).nn
        have r0 := (yy HS).out.cell 0 _ rfl
        have f0 := (yy HS).out.free 0
        have r1 := (yy HS).out.cell 1 _ rfl
        have f1 := (yy HS).out.free 1
        have r2 := (yy HS).out.cell 2 _ rfl
        have f2 := (yy HS).out.free 2
        have HTX : Hid (deskTx s = (runD done).2) := yz (by unfold deskTx; rw [(yy HR).1])
        generalize (runD done).2 = tx at *
        go_wp2_with fail
        refine bodyPost_ret (v := .agg #[.string tx, .int .i64 0, .int .i64 0]) ?_ rfl ⟨?_, ?_⟩
        · refine res_sdesk _ _ w.heap.size _ _ _ rfl ?_
          exact (((yy HS).out.set 0 _).set 1 _).set 2 _
        · rw [(yy HR).2.1, (yy HR).2.2, yy HTX]
        · exact ((((yy HS).bel.setCell (Nat.le_refl _) _).setCell (Nat.le_refl _) _).setCell (Nat.le_refl _) _)
      · obtain ⟨hpe1, hpe2⟩ := yy HPE hpe
        have hDP := yz (left_open (yy HL) hpe (yy HDR1))
        rw [yy HN] at hDP
        go_wp2_with fail
        refine ((yy cR) _).mono ?_
        rintro e V1 ⟨hle, hx⟩
        have ST1 := yz ((yy HS).kept hx)
        clear hx
        unfold LineEnd at hle
        rcases hle with ⟨l, _, rfl⟩ | ⟨_, xa, xb, xn, rfl⟩
        · obtain ⟨wb, hwb⟩ : ∃ wb : ByteArray, strB (wordK l.k) = .string wb := ⟨_, rfl⟩
          obtain ⟨tb, htb⟩ : ∃ tb : ByteArray, strB l.t = .string tb := ⟨_, rfl⟩
          rw [hwb, htb]
          clear hwb htb
          have ST3 := yz ((yy ST1).kept (below1 V1 (.cells #[.string wb, .string tb, .int .i64 l.n] 57)))
          have r0 := (yy ST3).out.cell 0 _ rfl
          have f0 := (yy ST3).out.free 0
          have r1 := (yy ST3).out.cell 1 _ rfl
          have f1 := (yy ST3).out.free 1
          have r2 := (yy ST3).out.cell 2 _ rfl
          have f2 := (yy ST3).out.free 2
          have HR := yz (yy HFT k (yy hDP))
          go_wp2_with fail
          refine bodyPost_ret (v := .agg #[.string ⟨#[]⟩, .int .i64 k, .int .i64 3]) ?_ rfl ⟨?_, ?_⟩
          · refine res_sdesk _ _ w.heap.size _ _ _ rfl ?_
            exact (((yy ST3).out.set 0 _).set 1 _).set 2 _
          · rw [(yy HR).2.1, (yy HR).2.2, deskTx_none (yy HR).1]
          · exact ((((yy ST3).bel.setCell (Nat.le_refl _) _).setCell (Nat.le_refl _) _).setCell (Nat.le_refl _) _)
        · have ST3 := yz ((yy ST1).kept (below1 V1 (.cells #[.string xa, .string xb, .int .i64 xn] 57)))
          have r0 := (yy ST3).out.cell 0 _ rfl
          have f0 := (yy ST3).out.free 0
          have r1 := (yy ST3).out.cell 1 _ rfl
          have f1 := (yy ST3).out.free 1
          have r2 := (yy ST3).out.cell 2 _ rfl
          have f2 := (yy ST3).out.free 2
          have HR := yz (yy HFT k (yy hDP))
          go_wp2_with fail
          refine bodyPost_ret (v := .agg #[.string ⟨#[]⟩, .int .i64 k, .int .i64 3]) ?_ rfl ⟨?_, ?_⟩
          · refine res_sdesk _ _ w.heap.size _ _ _ rfl ?_
            exact (((yy ST3).out.set 0 _).set 1 _).set 2 _
          · rw [(yy HR).2.1, (yy HR).2.2, deskTx_none (yy HR).1]
          · exact ((((yy ST3).bel.setCell (Nat.le_refl _) _).setCell (Nat.le_refl _) _).setCell (Nat.le_refl _) _)
    · have el : ((k : Int) == (D.length : Int) - 1) = false := by simp; omega
      obtain ⟨q, r, HDR2⟩ : ∃ q r, Hid ((pcs 10 s.data.toList).drop done.length = p :: q :: r) := ⟨_, _, yz (by rw [yy HDD, yy HN, yy HDR, List.drop_eq_getElem_cons (show k + 1 < D.length by omega)])⟩
      go_wp2_with fail
      refine ((yy cR) _).mono ?_
      rintro e V1 ⟨hle, hx⟩
      have ST1 := yz ((yy HS).kept hx)
      clear hx cl
      unfold LineEnd at hle
      rw [yy HPB] at hle
      rcases hle with ⟨l, hl, rfl⟩ | ⟨hl, xa, xb, xn, rfl⟩
      case inr =>
        have hDP := yz (left_bad (yy HL) (yy HDR2) hl)
        rw [yy HN] at hDP
        have ST3 := yz ((yy ST1).kept (below1 V1 (.cells #[.string xa, .string xb, .int .i64 xn] 57)))
        by_cases h40 : 40 ≤ k
        · have h40' : (40 : Int) ≤ (k : Int) := by omega
          have r0 := (yy ST3).out.cell 0 _ rfl
          have f0 := (yy ST3).out.free 0
          have r1 := (yy ST3).out.cell 1 _ rfl
          have f1 := (yy ST3).out.free 1
          have r2 := (yy ST3).out.cell 2 _ rfl
          have f2 := (yy ST3).out.free 2
          have HR := yz (yy HFT k (yy hDP))
          go_wp2_with fail
          refine bodyPost_ret (v := .agg #[.string ⟨#[]⟩, .int .i64 k, .int .i64 3]) ?_ rfl ⟨?_, ?_⟩
          · refine res_sdesk _ _ w.heap.size _ _ _ rfl ?_
            exact (((yy ST3).out.set 0 _).set 1 _).set 2 _
          · rw [(yy HR).2.1, (yy HR).2.2, deskTx_none (yy HR).1]
          · exact ((((yy ST3).bel.setCell (Nat.le_refl _) _).setCell (Nat.le_refl _) _).setCell (Nat.le_refl _) _)
        · have h40' : ¬ (40 : Int) ≤ (k : Int) := by omega
          have r0 := (yy ST3).out.cell 0 _ rfl
          have f0 := (yy ST3).out.free 0
          have r1 := (yy ST3).out.cell 1 _ rfl
          have f1 := (yy ST3).out.free 1
          have r2 := (yy ST3).out.cell 2 _ rfl
          have f2 := (yy ST3).out.free 2
          have HR := yz (yy HFT k (yy hDP))
          go_wp2_with fail
          refine bodyPost_ret (v := .agg #[.string ⟨#[]⟩, .int .i64 k, .int .i64 3]) ?_ rfl ⟨?_, ?_⟩
          · refine res_sdesk _ _ w.heap.size _ _ _ rfl ?_
            exact (((yy ST3).out.set 0 _).set 1 _).set 2 _
          · rw [(yy HR).2.1, (yy HR).2.2, deskTx_none (yy HR).1]
          · exact ((((yy ST3).bel.setCell (Nat.le_refl _) _).setCell (Nat.le_refl _) _).setCell (Nat.le_refl _) _)
      have HLN := yz (fun (W : World) db B d a cap => specLine_any W db B d a cap l)
      obtain ⟨wb, hwb⟩ : ∃ wb : ByteArray, strB (wordK l.k) = .string wb := ⟨_, rfl⟩
      obtain ⟨tb, htb⟩ : ∃ tb : ByteArray, strB l.t = .string tb := ⟨_, rfl⟩
      rw [hwb, htb] at HLN ⊢
      clear hwb htb
      have ST3 := yz ((yy ST1).kept (below1 V1 (.cells #[.string wb, .string tb, .int .i64 l.n] 57)))
      by_cases h40 : 40 ≤ k
      · have hDP := yz (left_full (yy HL) (yy HDR2) hl (by rw [yy HN]; exact h40))
        rw [yy HN] at hDP
        have h40' : (40 : Int) ≤ (k : Int) := by omega
        have r0 := (yy ST3).out.cell 0 _ rfl
        have f0 := (yy ST3).out.free 0
        have r1 := (yy ST3).out.cell 1 _ rfl
        have f1 := (yy ST3).out.free 1
        have r2 := (yy ST3).out.cell 2 _ rfl
        have f2 := (yy ST3).out.free 2
        have HR := yz (yy HFT k (yy hDP))
        go_wp2_with fail
        refine bodyPost_ret (v := .agg #[.string ⟨#[]⟩, .int .i64 k, .int .i64 3]) ?_ rfl ⟨?_, ?_⟩
        · refine res_sdesk _ _ w.heap.size _ _ _ rfl ?_
          exact (((yy ST3).out.set 0 _).set 1 _).set 2 _
        · rw [(yy HR).2.1, (yy HR).2.2, deskTx_none (yy HR).1]
        · exact ((((yy ST3).bel.setCell (Nat.le_refl _) _).setCell (Nat.le_refl _) _).setCell (Nat.le_refl _) _)
      · have h40' : ¬ (40 : Int) ≤ (k : Int) := by omega
        have HL2 := yz (left_next (yy HL) (yy HDR2) hl (by rw [yy HN]; exact h40))
        have hlk := lineP_k hl
        have x0 := (blk_new V1 [.string wb, .string tb, .int .i64 l.n] 57).cell 0 _ rfl
        have x1 := (blk_new V1 [.string wb, .string tb, .int .i64 l.n] 57).cell 1 _ rfl
        have x2 := (blk_new V1 [.string wb, .string tb, .int .i64 l.n] 57).cell 2 _ rfl
        have cL := yz ((yy HLN) (V1.alloc (.cells #[.string wb, .string tb, .int .i64 l.n] 57)) db B (runD done).1 a' cap' hlk.1 hok (Nat.le_trans hlk.2 hps) (yy ST3).lob (yy ST3).dsk)
        have hok2 := ok_line hok l
        have hz2' := lineD_size hok l
        have HRN := yz (runD_snoc done l)
        go_wp2_with fail
        refine (yy cL).mono ?_
        rintro e V4 ⟨rfl, ⟨a4, cap4, hD4⟩, hg4⟩
        have ST4 := yz ((yy ST3).line hg4 (d2 := (lineD (runD done).1 l).1) hD4)
        clear hD4 hg4 x0 x1 x2 cL
        unfold stD at HRN
        generalize lineD (runD done).1 l = R at *
        obtain ⟨d4, x4⟩ := R
        dsimp only at hok2 hz2' HRN ST4
        generalize (runD done).2 = tx at *
        have hszt := yy HSZ
        have hc : ¬ x4.size + (⟨#[10]⟩ : ByteArray).size > 9223372036854775807 := by rw [show (⟨#[10]⟩ : ByteArray).size = 1 from rfl]; omega
        have hown := (yy ST4).row
        have hlo := (yy ST4).low
        have hsx : (x4 ++ ⟨#[10]⟩).size = x4.size + 1 := by rw [ByteArray.size_append]; rfl
        go_wp2_with (at_builtin; refine Lib.wpList_append_own_string _ rfl (.tmp 61) (.tmp 65) 55 9 rfl (w.heap.size + 1) 5 i0 Tryz.underlying55 Tryz.underlying9 hinf hz0 hz1 hz2 _ _ _ rfl hown (x4 ++ ⟨#[10]⟩) rfl ?d3 ?d4 ?d5 ?_; rotate_right; intro v7 V7 hown7 hgrow7 hnil7)
        case d3 => rw [hsx]; omega
        case d4 => rw [hsx]; omega
        case d5 => exact hlo
        have HST7 : Hid (RnSt w db B (.slice (some ⟨g3, 0, none⟩) D.length c3) D V7 v7 (runD (done ++ [l])).1 (runD (done ++ [l])).2 a4 cap4) := yz (by
          rw [yy HRN]
          refine (yy ST4).app hgrow7 ?_ (fun e => (yy ST4).nn (hnil7.1 e).1)
          rw [strCells_app, ByteArray.size_append]
          exact hown7)
        have HSZ7 : Hid ((runD (done ++ [l])).2.size ≤ 71 * (k + 1)) := yz (by rw [yy HRN]; show (tx ++ (x4 ++ ⟨#[10]⟩)).size ≤ _; rw [ByteArray.size_append, hsx]; omega)
        have hok7 : DeskOk (runD (done ++ [l])).1.1 := by rw [yy HRN]; exact hok2
        have HN7 : Hid ((done ++ [l]).length = k + 1) := yz (by rw [List.length_append, yy HN]; rfl)
        clear hown7 hgrow7 hnil7 hown hok2 HRN
        go_wp2_with fail
        go_roundw
        case rel => exact ⟨k + 1, done ++ [l], a4, cap4, HN7, by go_num, by omega, by omega, HL2, hok7, HSZ7, HST7⟩
        case measure => simp [intOf] <;> omega
set_option maxHeartbeats 4000000 in
set_option maxRecDepth 100000 in
theorem specDeskFault_any (s : ByteArray) (w : World) (hs : s.size ≤ 1048576) :
    Calls Tryz.prog 5 #[.string s] w fun e w' => e = .returned (.agg #[.string ⟨#[]⟩, .int .i64 (deskLn s), .int .i64 (deskCd s)]) ∧ Below w.heap.size w w' := by
  have HR0 := yz (blk_new w [.string ⟨#[]⟩, .int .i64 0, .int .i64 0] 23)
  have HB0 := yz (below1 w (.cells #[.string ⟨#[]⟩, .int .i64 0, .int .i64 0] 23))
  have cR := yz (specDeskRun_any s (w.alloc (.cells #[.string ⟨#[]⟩, .int .i64 0, .int .i64 0] 23)) hs)
  generalize deskTx s = tx at *
  generalize deskLn s = n at *
  generalize deskCd s = c at *
  go_enter Tryz.func5, Tryz.ntmps5
  go_wp2_with fail
  refine (yy cR).mono ?_
  rintro e W1 ⟨rfl, hx⟩
  have hy := below1 W1 (.cells #[.string tx, .int .i64 n, .int .i64 c] 23)
  have HB2 := yz (below_call (below_call (yy HB0) hx) hy)
  have HR2 := yz (((yy HR0).kept hx).kept hy)
  have x1 := (blk_new W1 [.string tx, .int .i64 n, .int .i64 c] 23).cell 1 _ rfl
  have x2 := (blk_new W1 [.string tx, .int .i64 n, .int .i64 c] 23).cell 2 _ rfl
  clear hx hy cR
  have r0 := (yy HR2).cell 0 _ rfl
  have f0 := (yy HR2).free 0
  have r1 := (yy HR2).cell 1 _ rfl
  have f1 := (yy HR2).free 1
  have r2 := (yy HR2).cell 2 _ rfl
  have f2 := (yy HR2).free 2
  go_wp2_with fail
  refine bodyPost_ret (v := .agg #[.string ⟨#[]⟩, .int .i64 n, .int .i64 c]) ?_ rfl ⟨rfl, ?_⟩
  · have h := (((yy HR2).set 0 (.string ⟨#[]⟩)).set 1 (.int .i64 n)).set 2 (.int .i64 c)
    obtain ⟨h0, h1, h2⟩ := bcs3 (h)
    simp [results, Tryz.results5, go_sem, h0, h1, h2]
  · exact ((((yy HB2).setCell (Nat.le_refl _) _).setCell (Nat.le_refl _) _).setCell (Nat.le_refl _) _)
set_option maxHeartbeats 2000000 in
set_option maxRecDepth 100000 in
theorem eqDeskOut_same (t : ByteArray) (n c : Int) (w : World) : Calls Tryz.prog 7 #[.agg #[.string t, .int .i64 n, .int .i64 c], .agg #[.string t, .int .i64 n, .int .i64 c]] w fun e w' => e = .returned (.bool true) ∧ Below w.heap.size w w' := by
  go_enter Tryz.func7, Tryz.ntmps7
  go_wp2
  go_ret
  exact ⟨rfl, below2 _ _ _⟩
set_option maxHeartbeats 4000000 in
set_option maxRecDepth 100000 in
theorem implDeskFault_any (s : ByteArray) (w : World) (hs : s.size ≤ 1048576) (hm : MaxL w) :
    Calls Tryz.prog 6 #[.string s] w fun e w' => e = .returned (.agg #[.string ⟨#[]⟩, .int .i64 (deskLn s), .int .i64 (deskCd s)]) ∧ Below w.heap.size w w' := by
  have HR0 := yz (blk_new w [.string ⟨#[]⟩, .int .i64 0, .int .i64 0] 23)
  have HB0 := yz (below1 w (.cells #[.string ⟨#[]⟩, .int .i64 0, .int .i64 0] 23))
  have cR := yz (readDesk_any s (w.alloc (.cells #[.string ⟨#[]⟩, .int .i64 0, .int .i64 0] 23)) hs (hm.kept (yy HB0)))
  unfold RdEnd at cR
  generalize deskLn s = n at *
  generalize deskCd s = c at *
  generalize deskLs s = ls at *
  go_enter Tryz.func6, Tryz.ntmps6
  go_wp2_with fail
  refine (yy cR).mono ?_
  rintro e W1 ⟨⟨v, rfl, _⟩, hx⟩
  have hy := below1 W1 (.cells #[.string ⟨#[]⟩, .int .i64 n, .int .i64 c] 23)
  have HB2 := yz (below_call (below_call (yy HB0) hx) hy)
  have HR2 := yz (((yy HR0).kept hx).kept hy)
  have x0 := (blk_new W1 [.string ⟨#[]⟩, .int .i64 n, .int .i64 c] 23).cell 0 _ rfl
  have x1 := (blk_new W1 [.string ⟨#[]⟩, .int .i64 n, .int .i64 c] 23).cell 1 _ rfl
  have x2 := (blk_new W1 [.string ⟨#[]⟩, .int .i64 n, .int .i64 c] 23).cell 2 _ rfl
  clear hx hy cR
  have r0 := (yy HR2).cell 0 _ rfl
  have f0 := (yy HR2).free 0
  have r1 := (yy HR2).cell 1 _ rfl
  have f1 := (yy HR2).free 1
  have r2 := (yy HR2).cell 2 _ rfl
  have f2 := (yy HR2).free 2
  go_wp2_with fail
  refine bodyPost_ret (v := .agg #[.string ⟨#[]⟩, .int .i64 n, .int .i64 c]) ?_ rfl ⟨rfl, ?_⟩
  · have h := (((yy HR2).set 0 (.string ⟨#[]⟩)).set 1 (.int .i64 n)).set 2 (.int .i64 c)
    obtain ⟨h0, h1, h2⟩ := bcs3 (h)
    simp [results, Tryz.results6, go_sem, h0, h1, h2]
  · exact ((((yy HB2).setCell (Nat.le_refl _) _).setCell (Nat.le_refl _) _).setCell (Nat.le_refl _) _)
set_option maxHeartbeats 4000000 in
set_option maxRecDepth 100000 in
theorem lawDeskFault_all (s : ByteArray) (hz : s.size ≤ maxLen) (w : World) (hE : ∃ p, ErrSky p w) (hm : MaxL w) :
    Calls Tryz.prog 3 #[.string s] w fun e w' => e = .returned (.bool true) ∧ Below w.heap.size w w' := by
  by_cases hb : 1048576 < s.size
  · have hb' : (1048576 : Int) < (s.size : Int) := by omega
    go_enter Tryz.func3, Tryz.ntmps3
    go_wp2
    go_ret
    exact ⟨rfl, Below.refl _ _⟩
  have hb' : ¬ (1048576 : Int) < (s.size : Int) := by omega
  have cS := yz (specDeskFault_any s w (by omega))
  have cI := yz (fun W h => implDeskFault_any s W (by omega) h)
  generalize deskLn s = n at *
  generalize deskCd s = c at *
  have HM := yz hm
  clear hm
  go_enter Tryz.func3, Tryz.ntmps3
  go_wp2_with fail
  refine (yy cS).mono ?_
  rintro e W1 ⟨rfl, hx⟩
  have hy := below1 W1 (.cells #[.string ⟨#[]⟩, .int .i64 n, .int .i64 c] 23)
  have HB2 := yz (below_call hx hy)
  have HX := yz (blk_new W1 [.string ⟨#[]⟩, .int .i64 n, .int .i64 c] 23)
  clear hx hy cS
  go_wp2_with fail
  refine ((yy cI) _ ((yy HM).kept (yy HB2))).mono ?_
  rintro e W2 ⟨rfl, hx⟩
  have hy := below1 W2 (.cells #[.string ⟨#[]⟩, .int .i64 n, .int .i64 c] 23)
  have HB3 := yz (below_call (below_call (yy HB2) hx) hy)
  have HX2 := yz (((yy HX).kept hx).kept hy)
  have y0 := (blk_new W2 [.string ⟨#[]⟩, .int .i64 n, .int .i64 c] 23).cell 0 _ rfl
  have y1 := (blk_new W2 [.string ⟨#[]⟩, .int .i64 n, .int .i64 c] 23).cell 1 _ rfl
  have y2 := (blk_new W2 [.string ⟨#[]⟩, .int .i64 n, .int .i64 c] 23).cell 2 _ rfl
  obtain ⟨x0, x1, x2⟩ := bcs3 (yy HX2)
  clear hx hy cI
  go_wp2_with fail
  refine (eqDeskOut_same ⟨#[]⟩ n c _).mono ?_
  rintro e W3 ⟨rfl, hx⟩
  have HB4 := yz (below_call (yy HB3) hx)
  clear hx y0 y1 y2 x0 x1 x2
  go_wp2_with fail
  go_ret
  exact ⟨rfl, yy HB4⟩
end Go.Proofs.YtofpjlhoppofdaaGreatDoor
namespace Go.Proofs.YtofpjlhoppofdaaGreatDoor
open Go.RowKit Go.Deep Go.ChangeShapes
set_option linter.unusedVariables false
theorem star_ptr : "*" ++ "errors.errorString" = "*errors.errorString" := by decide
theorem rowE (u : TypeId) (h : Tryz.prog.typeName? 3 u = some "*errors.errorString") : u = 257 :=
  typeName_ptr_named (nm := "errors.errorString") (by rw [star_ptr]; kernel_rfl) (by kernel_rfl) (by decide) u (by rw [star_ptr]; exact h)
theorem errNamed : Tryz.prog.globalNamed "loop.example/g00577/impl.errNoSky" = some 1 := by kernel_rfl
theorem errType : (Tryz.prog.globals[1]?).map (·.type) = some 141 := by kernel_rfl
theorem errSky_of_var {W : World} {p : Addr} (hv : W.var? Tryz.prog "loop.example/g00577/impl.errNoSky" = some #[.iface 257 (.pointer (some p))]) : ErrSky p W := by
  unfold ErrSky
  rw [World.var?_cell errNamed hv 0]
  rfl
theorem err_read {H : Type} (enc : TypeId × Value → H) {W : World} {p : Addr} (hv : W.var? Tryz.prog "loop.example/g00577/impl.errNoSky" = some #[.iface 257 (.pointer (some p))]) (sp : Nat → Bool) :
    DataW.TrodVars enc Tryz.prog W sp ["loop.example/g00577/impl.errNoSky"] [tok enc (.iface 257 (.pointer (some p)))] [.cell 1 0] :=
  vars_read1 enc errNamed errType Tryz.underlying141 hv trivial sp
theorem laidMet_tail {P : Program} {x : String × DataW Unit} {l : List (String × DataW Unit)} {w : World} (h : laidMet P (x :: l) w) : laidMet P l w := by
  obtain ⟨ps, ⟨g, t, cs, f, p, q, hg, ht, hv, hd, hr, e⟩, hn, hrows⟩ := h
  subst e
  exact ⟨q, hr, (List.nodup_append.1 hn).2.1, fun b off hb => hrows b off (List.mem_append_right _ hb)⟩
def laidDr : List (String × DataW Unit) := [("math/bits.deBruijn32tab", Rows.laid_math_bits_deBruijn32tab), ("math/bits.deBruijn64tab", Rows.laid_math_bits_deBruijn64tab), ("internal/strconv.uint64pow10", Rows.laid_internal_strconv_uint64pow10), ("unicode/utf8.acceptRanges", Rows.laid_unicode_utf8_acceptRanges), ("loop.example/g00577/impl.errNoSky", Rows.laid_loop_example_g00577_impl_errNoSky), ("unicode/utf8.first", Rows.laid_unicode_utf8_first)]
theorem dr_sky {W : World} (h : laidMetH Tryz.prog laidDr W) : ∃ p, W.var? Tryz.prog "loop.example/g00577/impl.errNoSky" = some #[.iface 257 (.pointer (some p))] := by
  have h' : laidMet Tryz.prog laidDr W := h
  have h2 := laidMet_tail (laidMet_tail (laidMet_tail (laidMet_tail h')))
  obtain ⟨a, s, hv, _⟩ := laid_sentinel h2 errNamed errType Tryz.underlying141 rowE Tryz.underlying257 Tryz.underlying280 rfl rfl Tryz.underlying9 (by kernel_rfl) (by kernel_rfl)
  exact ⟨a, hv⟩
theorem dr_met (os : Os) (args : Array Value) : laidMetH Tryz.prog laidDr ((World.laidAll Tryz.prog os laidDr).forCall (fun _ _ => 0) ⟨#[], args, []⟩).memory := by
  have h : laidMet Tryz.prog laidDr ((World.laidAll Tryz.prog os laidDr).forCall (fun _ _ => 0) ⟨#[], args, []⟩).memory := laidMet_laidAll _ (by kernel_rfl) (by kernel_rfl)
  exact h
theorem maxL_shaped {W : World} (h : W.ShapedOpen Tryz.prog) : MaxL W := laysM145.s1_3 W h
end Go.Proofs.YtofpjlhoppofdaaGreatDoor
