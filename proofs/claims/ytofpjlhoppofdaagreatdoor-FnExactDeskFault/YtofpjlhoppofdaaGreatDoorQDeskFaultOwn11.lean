/- Several texts in one: LkF, DsI, TextMath, ReadMath, SplitM, SplitT, PartT, TurnS, LooseT, TShelf. -/
import Derived.Lib.ItoaMem
import Derived.Lib.Join
import Derived.Laws.AppendOwn
import Derived.Laws.RangeString
import Derived.Laws.RangeAny
import Derived.Lib.OthersKept
import Derived.Shelf.Strings.Builder1
import Derived.Shelf.Strings.Builder2
import Derived.Shelf.Strings.OnBuilder
import Derived.Shelf.Strconv.Itoa0
import Derived.Shelf.Strconv.Itoa1
import Derived.Shelf.LaysM
import Derived.Shelf.Strconv.Itoa2
import Derived.Shelf.Strconv.Itoa3
import Derived.Shelf.Strconv.Itoa4
import Derived.Shelf.Strings.Search1
import Derived.Shelf.Strings.Search2
import Derived.Shelf.Strings.Search3
import Derived.Shelf.Strings.Cut
import Derived.Shelf.Strings.Count
import Derived.Shelf.Strings.Shaped
import Derived.Shelf.Strings.Split
import Derived.Shelf.Strings.SplitShaped
import Derived.Shelf.Unicode.Decode
import Derived.Shelf.Strings.RuneCount
import Derived.Shelf.Strings.Explode
import Derived.Shelf.Unicode.DecodeSlow
import Derived.Test.YtofpjlhoppofdaaGreatDoorChecked
import Derived.Test.YtofpjlhoppofdaaGreatDoorQDeskFaultOwn10
import Derived.Test.YtofpjlhoppofdaaGreatDoorQDeskFaultOwn6
import Derived.Test.YtofpjlhoppofdaaGreatDoorQDeskFaultOwn2
import Derived.Test.YtofpjlhoppofdaaGreatDoorQDeskFaultOwn1
import Derived.Test.YtofpjlhoppofdaaGreatDoorQDeskFaultOwn3
namespace Go.Proofs.YtofpjlhoppofdaaGreatDoor
open Go.RowKit Go.Sort
set_option linter.unusedVariables false
set_option linter.unusedSimpArgs false
set_option maxHeartbeats 8000000 in
set_option maxRecDepth 100000 in
theorem specLook_any (L : List St) (S : List D3) (lim mode A B C D coast fr : Int) (ad : Option Addr) (c : Nat) (br : Option Addr) (dr : Nat) (w : World) (hn : L.length ≤ 1048576) (hn2 : S.length ≤ 1048576) (hS : Stars w ad L L.length) (hD : Dirs w br S S.length) (hb : ∀ y, ad = some y → y.block < w.heap.size) (hB : ∀ y, br = some y → y.block < w.heap.size) (hdr : S.length ≤ dr) (hd9 : dr ≤ 9223372036854775807) :
    Calls Tryz.prog 68 #[.agg #[.slice ad L.length c, .int .i64 lim, .int .i64 mode, .int .i64 A, .int .i64 B, .int .i64 C, .int .i64 D, .int .i64 coast, .int .i64 fr], .slice br S.length dr] w fun e w' => OutT w' w.heap.size (lookT ⟨L, lim, mode, A, B, C, D, coast, fr⟩ S) (lookC ⟨L, lim, mode, A, B, C, D, coast, fr⟩ S) e ∧ Below w.heap.size w w' := by
  have B0 := yz (below2 w (.cells #[.slice ad L.length c, .int .i64 lim, .int .i64 mode, .int .i64 A, .int .i64 B, .int .i64 C, .int .i64 D, .int .i64 coast, .int .i64 fr] 48) (.cells #[.slice none 0 0, .int .i64 0, .int .i64 0, .int .i64 0, .int .i64 0, .int .i64 0, .int .i64 0, .int .i64 0, .int .i64 0, .int .i64 0] 50))
  have A0 := yz ((blk_new w [.slice ad L.length c, .int .i64 lim, .int .i64 mode, .int .i64 A, .int .i64 B, .int .i64 C, .int .i64 D, .int .i64 coast, .int .i64 fr] 48).alloc (.cells #[.slice none 0 0, .int .i64 0, .int .i64 0, .int .i64 0, .int .i64 0, .int .i64 0, .int .i64 0, .int .i64 0, .int .i64 0, .int .i64 0] 50))
  have R0 := yz (by simpa using blk_new (w.alloc (.cells #[.slice ad L.length c, .int .i64 lim, .int .i64 mode, .int .i64 A, .int .i64 B, .int .i64 C, .int .i64 D, .int .i64 coast, .int .i64 fr] 48)) [.slice none 0 0, .int .i64 0, .int .i64 0, .int .i64 0, .int .i64 0, .int .i64 0, .int .i64 0, .int .i64 0, .int .i64 0, .int .i64 0] 50 : Blk ((w.alloc (.cells #[.slice ad L.length c, .int .i64 lim, .int .i64 mode, .int .i64 A, .int .i64 B, .int .i64 C, .int .i64 D, .int .i64 coast, .int .i64 fr] 48)).alloc (.cells #[.slice none 0 0, .int .i64 0, .int .i64 0, .int .i64 0, .int .i64 0, .int .i64 0, .int .i64 0, .int .i64 0, .int .i64 0, .int .i64 0] 50)) (w.heap.size + 1) [.slice none 0 0, .int .i64 0, .int .i64 0, .int .i64 0, .int .i64 0, .int .i64 0, .int .i64 0, .int .i64 0, .int .i64 0, .int .i64 0] 50)
  have S0 := yz (hS.kept (yy B0))
  have D0 := yz (hD.kept (yy B0))
  have hl0 : w.heap.size + 1 + 1 ≤ ((w.alloc (.cells #[.slice ad L.length c, .int .i64 lim, .int .i64 mode, .int .i64 A, .int .i64 B, .int .i64 C, .int .i64 D, .int .i64 coast, .int .i64 fr] 48)).alloc (.cells #[.slice none 0 0, .int .i64 0, .int .i64 0, .int .i64 0, .int .i64 0, .int .i64 0, .int .i64 0, .int .i64 0, .int .i64 0, .int .i64 0] 50)).heap.size := by simp
  clear hS hD
  by_cases hbig : 400 < S.length
  · have HO := yz (look_big (t := ⟨L, lim, mode, A, B, C, D, coast, fr⟩) hbig)
    have hb' : (400 : Int) < (S.length : Int) := by omega
    clear hbig
    go_enter Tryz.func68, Tryz.ntmps68
    go_wp2_with fail
    refine (l07Ill_any 2 _).mono ?_
    rintro e wz ⟨rfl, hx⟩
    have Rz := yz ((yy R0).kept hx)
    have Bz := yz (below_call (yy B0) hx)
    clear hx
    obtain ⟨r0, r1, r2, r3, r4, r5, r6, r7, r8, r9⟩ := bcs10 (yy Rz)
    obtain ⟨g0, g1, g2, g3, g4, g5, g6, g7, g8, g9⟩ := bfs10 (yy Rz)
    go_wp2_with fail
    clear r0 r1 r2 r3 r4 r5 r6 r7 r8 r9 g0 g1 g2 g3 g4 g5 g6 g7 g8 g9
    refine bodyPost_ret (v := .agg #[.slice none 0 0, .int .i64 0, .int .i64 0, .int .i64 0, .int .i64 0, .int .i64 0, .int .i64 0, .int .i64 0, .int .i64 0, .int .i64 2]) ?_ rfl ⟨?_, ?_⟩
    · exact res_slook _ _ (w.heap.size + 1) _ 0 0 0 0 0 0 0 0 2 rfl (tkO_blk (blk_set10 (yy Rz) rfl _ 0 0 0 0 0 0 0 0 2))
    · rw [(yy HO).1, (yy HO).2]
      exact outT_ill _ _ _
    · iterate 10 (refine belowSet ?_ (show w.heap.size ≤ w.heap.size + 1 by omega) _ _)
      exact yy Bz
  have hb' : ¬ (400 : Int) < (S.length : Int) := by omega
  have cR := yz (specTrack_any L lim mode A B C D coast fr ad c _ hn (yy S0))
  go_enter Tryz.func68, Tryz.ntmps68
  go_wp2_with fail
  refine (yy cR).mono ?_
  rintro e w1 ⟨rfl, hx⟩
  have A1 := yz ((yy A0).kept hx)
  have R1 := yz ((yy R0).kept hx)
  have S1 := yz ((yy S0).kept hx)
  have D1 := yz ((yy D0).kept hx)
  have B1 := yz (below_call (yy B0) hx)
  have hl1 := hx.size
  clear hx cR A0 R0 S0 D0 B0
  cases hk : trackB ⟨L, lim, mode, A, B, C, D, coast, fr⟩
  · have HO := yz (look_ill (t := ⟨L, lim, mode, A, B, C, D, coast, fr⟩) (S := S) hbig (by rw [hk]; rfl))
    clear hk
    go_wp2_with fail
    refine (l07Ill_any 1 _).mono ?_
    rintro e wz ⟨rfl, hx⟩
    have Rz := yz ((yy R1).kept hx)
    have Bz := yz (below_call (yy B1) hx)
    clear hx
    obtain ⟨r0, r1, r2, r3, r4, r5, r6, r7, r8, r9⟩ := bcs10 (yy Rz)
    obtain ⟨g0, g1, g2, g3, g4, g5, g6, g7, g8, g9⟩ := bfs10 (yy Rz)
    go_wp2_with fail
    clear r0 r1 r2 r3 r4 r5 r6 r7 r8 r9 g0 g1 g2 g3 g4 g5 g6 g7 g8 g9
    refine bodyPost_ret (v := .agg #[.slice none 0 0, .int .i64 0, .int .i64 0, .int .i64 0, .int .i64 0, .int .i64 0, .int .i64 0, .int .i64 0, .int .i64 0, .int .i64 1]) ?_ rfl ⟨?_, ?_⟩
    · exact res_slook _ _ (w.heap.size + 1) _ 0 0 0 0 0 0 0 0 1 rfl (tkO_blk (blk_set10 (yy Rz) rfl _ 0 0 0 0 0 0 0 0 1))
    · rw [(yy HO).1, (yy HO).2]
      exact outT_ill _ _ _
    · iterate 10 (refine belowSet ?_ (show w.heap.size ≤ w.heap.size + 1 by omega) _ _)
      exact yy Bz
  go_wp2_with fail
  refine (specSpotsRight_any S br dr _ hn2 (yy D1)).mono ?_
  rintro e w2 ⟨rfl, hx⟩
  have A2 := yz ((yy A1).kept hx)
  have R2 := yz ((yy R1).kept hx)
  have S2 := yz ((yy S1).kept hx)
  have D2 := yz ((yy D1).kept hx)
  have B2 := yz (below_call (yy B1) hx)
  have hl2 := hx.size
  clear hx A1 R1 S1 D1 B1
  cases hp : spotsB S
  · have HO := yz (look_ill (t := ⟨L, lim, mode, A, B, C, D, coast, fr⟩) (S := S) hbig (by rw [hp]; simp))
    clear hk hp
    go_wp2_with fail
    refine (l07Ill_any 1 _).mono ?_
    rintro e wz ⟨rfl, hx⟩
    have Rz := yz ((yy R2).kept hx)
    have Bz := yz (below_call (yy B2) hx)
    clear hx
    obtain ⟨r0, r1, r2, r3, r4, r5, r6, r7, r8, r9⟩ := bcs10 (yy Rz)
    obtain ⟨g0, g1, g2, g3, g4, g5, g6, g7, g8, g9⟩ := bfs10 (yy Rz)
    go_wp2_with fail
    clear r0 r1 r2 r3 r4 r5 r6 r7 r8 r9 g0 g1 g2 g3 g4 g5 g6 g7 g8 g9
    refine bodyPost_ret (v := .agg #[.slice none 0 0, .int .i64 0, .int .i64 0, .int .i64 0, .int .i64 0, .int .i64 0, .int .i64 0, .int .i64 0, .int .i64 0, .int .i64 1]) ?_ rfl ⟨?_, ?_⟩
    · exact res_slook _ _ (w.heap.size + 1) _ 0 0 0 0 0 0 0 0 1 rfl (tkO_blk (blk_set10 (yy Rz) rfl _ 0 0 0 0 0 0 0 0 1))
    · rw [(yy HO).1, (yy HO).2]
      exact outT_ill _ _ _
    · iterate 10 (refine belowSet ?_ (show w.heap.size ≤ w.heap.size + 1 by omega) _ _)
      exact yy Bz
  obtain ⟨hsk, hmd, hrt, hco, hfr⟩ := look_bounds hk
  dsimp only at hsk hmd hrt hco hfr
  by_cases hf : fr = 1000000
  · have HO := yz (look_full (t := ⟨L, lim, mode, A, B, C, D, coast, fr⟩) (S := S) hbig hk hp hf)
    have hf' : (1000000 : Int) ≤ fr := by omega
    clear hk hp hsk hmd hrt hco hfr
    obtain ⟨q0, q1, q2, q3, q4, q5, q6, q7, q8⟩ := bcs9 (yy A2)
    go_wp2_with fail
    clear q0 q1 q2 q3 q4 q5 q6 q7 q8
    refine (l07Ill_any 9 _).mono ?_
    rintro e wz ⟨rfl, hx⟩
    have Rz := yz ((yy R2).kept hx)
    have Bz := yz (below_call (yy B2) hx)
    clear hx
    obtain ⟨r0, r1, r2, r3, r4, r5, r6, r7, r8, r9⟩ := bcs10 (yy Rz)
    obtain ⟨g0, g1, g2, g3, g4, g5, g6, g7, g8, g9⟩ := bfs10 (yy Rz)
    go_wp2_with fail
    clear r0 r1 r2 r3 r4 r5 r6 r7 r8 r9 g0 g1 g2 g3 g4 g5 g6 g7 g8 g9
    refine bodyPost_ret (v := .agg #[.slice none 0 0, .int .i64 0, .int .i64 0, .int .i64 0, .int .i64 0, .int .i64 0, .int .i64 0, .int .i64 0, .int .i64 0, .int .i64 9]) ?_ rfl ⟨?_, ?_⟩
    · exact res_slook _ _ (w.heap.size + 1) _ 0 0 0 0 0 0 0 0 9 rfl (tkO_blk (blk_set10 (yy Rz) rfl _ 0 0 0 0 0 0 0 0 9))
    · rw [(yy HO).1, (yy HO).2]
      exact outT_ill _ _ _
    · iterate 10 (refine belowSet ?_ (show w.heap.size ≤ w.heap.size + 1 by omega) _ _)
      exact yy Bz
  have HO := yz (look_yes (t := ⟨L, lim, mode, A, B, C, D, coast, fr⟩) (S := S) hbig hk hp hf)
  have hf' : ¬ (1000000 : Int) ≤ fr := by omega
  have cK := yz (l07Look_any L S lim mode A B C D coast fr ad c br dr w2 hn hdr hd9 (yy S2) (yy D2) (fun y e => by have := hb y e; omega) (fun y e => by have := hB y e; omega) hsk hp hmd hrt hco.1 hco.2 hfr.1 hfr.2)
  obtain ⟨lr, hlr⟩ : ∃ z, lookR ⟨L, lim, mode, A, B, C, D, coast, fr⟩ S = z := ⟨_, rfl⟩
  have HL := yz (lookR_L ⟨L, lim, mode, A, B, C, D, coast, fr⟩ S)
  rw [hlr] at HO HL cK
  obtain ⟨L2, lim2, mode2, A2', B2', C2, D2', coast2, fr2⟩ := lr
  dsimp only at HL
  clear hk hp hlr hsk hmd hrt hco hfr hf
  obtain ⟨q0, q1, q2, q3, q4, q5, q6, q7, q8⟩ := bcs9 (yy A2)
  go_wp2_with fail
  clear q0 q1 q2 q3 q4 q5 q6 q7 q8
  refine (yy cK).mono ?_
  rintro e w3 ⟨⟨a, cap, he, hC⟩, hx⟩
  dsimp only at he hC
  have hL3 : L2 = L := yy HL
  subst hL3
  subst he
  have C5 := yz (hC.low (B' := w.heap.size + 1 + 1) (by omega))
  have R5 := yz ((yy R2).kept hx)
  have B5 := yz (below_call (yy B2) hx)
  clear hx hC R2 B2 A2 S2 D2 cK
  obtain ⟨r0, r1, r2, r3, r4, r5, r6, r7, r8, r9⟩ := bcs10 (yy R5)
  obtain ⟨g0, g1, g2, g3, g4, g5, g6, g7, g8, g9⟩ := bfs10 (yy R5)
  go_wp2_with fail
  clear r0 r1 r2 r3 r4 r5 r6 r7 r8 r9 g0 g1 g2 g3 g4 g5 g6 g7 g8 g9
  refine bodyPost_ret (v := .agg #[.slice a L2.length cap, .int .i64 lim2, .int .i64 mode2, .int .i64 A2', .int .i64 B2', .int .i64 C2, .int .i64 D2', .int .i64 coast2, .int .i64 fr2, .int .i64 0]) ?_ rfl ⟨?_, ?_⟩
  · exact res_slook _ _ (w.heap.size + 1) _ lim2 mode2 A2' B2' C2 D2' coast2 fr2 0 rfl (tkO_blk (blk_set10 (yy R5) rfl _ lim2 mode2 A2' B2' C2 D2' coast2 fr2 0))
  · rw [(yy HO).1, (yy HO).2]
    refine ⟨a, cap, rfl, ?_⟩
    refine Copied.low (B := w.heap.size + 1 + 1) ?_ (by omega)
    iterate 10 (refine Copied.far ?_ (Nat.lt_succ_self (w.heap.size + 1)) _ _)
    exact yy C5
  · iterate 10 (refine belowSet ?_ (show w.heap.size ≤ w.heap.size + 1 by omega) _ _)
    exact yy B5
theorem grown_below {w W : World} {row : Option Nat} (h : Below w.heap.size w W) : w.grownBy W row := ⟨h.os, h.tape, h.output, h.size, fun k hk _ => h.block k hk⟩
theorem grown_more {w W V : World} {row : Option Nat} (h : w.grownBy W row) (h2 : W.grownBy V row) : w.grownBy V row := ⟨h2.os.trans h.os, h2.tape.trans h.tape, h2.output.trans h.output, Nat.le_trans h.size h2.size, fun k hk hne => (h2.block k (Nat.lt_of_lt_of_le hk h.size) hne).trans (h.block k hk hne)⟩
theorem grown_set {w W : World} {db : Nat} (h : w.grownBy W (some db)) (i : Nat) (x : Value) : w.grownBy (W.setCell ⟨db, i, none⟩ x) (some db) :=
  have z := (Below.refl 0 W).setCell (p := ⟨db, i, none⟩) (Nat.zero_le _) x
  grown_more h ⟨z.os, z.tape, z.output, z.size, fun k hk hne => Below.heap_setCell W ⟨db, i, none⟩ x k (fun e => hne (by rw [e]))⟩
theorem copied_far {w W : World} {B db : Nat} {L : List St} {a : Option Addr} {cap : Nat} (h : Copied w B L a cap) (hg : w.grownBy W (some db)) (hf : ∀ x, a = some x → x.block ≠ db) : Copied W B L a cap := by
  refine World.ownsRow.kept h hg ?_
  cases a with
  | none => exact .inl rfl
  | some x => exact .inr (fun e => hf x rfl (Option.some.inj e))
theorem DeskAt.lt {w : World} {db B : Nat} {t : Tk} {u : U4} {a : Option Addr} {cap : Nat} (h : DeskAt w db B t u a cap) : db < w.heap.size := h.blk.lt
theorem DeskAt.put9 {W : World} {db B : Nat} {t : Tk} {u : U4} {a : Option Addr} {cap : Nat} (h : DeskAt W db B t u a cap) (t2 : Tk) (a2 : Option Addr) (cap2 : Nat) (hC : Copied W B t2.L a2 cap2) (hf : ∀ x, a2 = some x → x.block ≠ db) : DeskAt (((((((((W.setCell ⟨db, 0, none⟩ (.slice a2 t2.L.length cap2)).setCell ⟨db, 1, none⟩ (.int .i64 t2.lim)).setCell ⟨db, 2, none⟩ (.int .i64 t2.mode)).setCell ⟨db, 3, none⟩ (.int .i64 t2.A)).setCell ⟨db, 4, none⟩ (.int .i64 t2.B)).setCell ⟨db, 5, none⟩ (.int .i64 t2.C)).setCell ⟨db, 6, none⟩ (.int .i64 t2.D)).setCell ⟨db, 7, none⟩ (.int .i64 t2.coast)).setCell ⟨db, 8, none⟩ (.int .i64 t2.fr)) db B t2 u a2 cap2 ∧ W.grownBy (((((((((W.setCell ⟨db, 0, none⟩ (.slice a2 t2.L.length cap2)).setCell ⟨db, 1, none⟩ (.int .i64 t2.lim)).setCell ⟨db, 2, none⟩ (.int .i64 t2.mode)).setCell ⟨db, 3, none⟩ (.int .i64 t2.A)).setCell ⟨db, 4, none⟩ (.int .i64 t2.B)).setCell ⟨db, 5, none⟩ (.int .i64 t2.C)).setCell ⟨db, 6, none⟩ (.int .i64 t2.D)).setCell ⟨db, 7, none⟩ (.int .i64 t2.coast)).setCell ⟨db, 8, none⟩ (.int .i64 t2.fr)) (some db) := by
  have hg : W.grownBy (((((((((W.setCell ⟨db, 0, none⟩ (.slice a2 t2.L.length cap2)).setCell ⟨db, 1, none⟩ (.int .i64 t2.lim)).setCell ⟨db, 2, none⟩ (.int .i64 t2.mode)).setCell ⟨db, 3, none⟩ (.int .i64 t2.A)).setCell ⟨db, 4, none⟩ (.int .i64 t2.B)).setCell ⟨db, 5, none⟩ (.int .i64 t2.C)).setCell ⟨db, 6, none⟩ (.int .i64 t2.D)).setCell ⟨db, 7, none⟩ (.int .i64 t2.coast)).setCell ⟨db, 8, none⟩ (.int .i64 t2.fr)) (some db) := grown_set (grown_set (grown_set (grown_set (grown_set (grown_set (grown_set (grown_set (grown_set (grown_below (Below.refl _ _)) 0 _) 1 _) 2 _) 3 _) 4 _) 5 _) 6 _) 7 _) 8 _
  exact ⟨⟨Blk.set (Blk.set (Blk.set (Blk.set (Blk.set (Blk.set (Blk.set (Blk.set (Blk.set (h.blk) 0 (.slice a2 t2.L.length cap2)) 1 (.int .i64 t2.lim)) 2 (.int .i64 t2.mode)) 3 (.int .i64 t2.A)) 4 (.int .i64 t2.B)) 5 (.int .i64 t2.C)) 6 (.int .i64 t2.D)) 7 (.int .i64 t2.coast)) 8 (.int .i64 t2.fr), copied_far hC hg hf, hf⟩, hg⟩
def lookD (t : Tk) (S : List D3) : Tk × ByteArray := if lookC t S = 0 then (lookT t S, decB (lookT t S).mode.toNat) else (t, errT (lookC t S).toNat)
theorem lookC_span (t : Tk) (S : List D3) : 0 ≤ lookC t S ∧ lookC t S ≤ 9 := by
  unfold lookC
  split
  · omega
  · split
    · split <;> omega
    · omega
theorem lookT_mode {t : Tk} {S : List D3} (h : lookC t S = 0) : 0 ≤ (lookT t S).mode ∧ (lookT t S).mode ≤ 2 := by
  unfold lookT
  split
  · exact ⟨by decide, by decide⟩
  · split
    · rename_i h1
      split
      · exact ⟨by decide, by decide⟩
      · have hm : modeB t = true := by
          simp only [Bool.and_eq_true] at h1
          have := h1.1
          unfold trackB at this
          simp only [Bool.and_eq_true] at this
          exact this.2
        have hmo : 0 ≤ t.mode ∧ t.mode ≤ 2 := by
          unfold modeB at hm
          split at hm
          · omega
          · split at hm
            · omega
            · split at hm
              · omega
              · simp at hm
        unfold lookR trackT unseenT lostT
        split
        · exact ⟨(by decide : (0 : Int) ≤ 1), (by decide : (1 : Int) ≤ 2)⟩
        · split
          · exact ⟨(by decide : (0 : Int) ≤ 1), (by decide : (1 : Int) ≤ 2)⟩
          · split
            · exact hmo
            · split
              · exact ⟨(by decide : (0 : Int) ≤ 0), (by decide : (0 : Int) ≤ 2)⟩
              · exact ⟨(by decide : (0 : Int) ≤ 2), (by decide : (2 : Int) ≤ 2)⟩
    · exact ⟨by decide, by decide⟩
set_option maxHeartbeats 8000000 in
set_option maxRecDepth 100000 in
theorem specDeskLook_any (w : World) (db B : Nat) (t : Tk) (u : U4) (a : Option Addr) (cap : Nat) (S : List D3) (br : Option Addr) (dr : Nat) (hn : t.L.length ≤ 1048576) (hn2 : S.length ≤ 1048576) (hB : B ≤ w.heap.size) (hD : DeskAt w db B t u a cap) (hS : Dirs w br S S.length) (hb : ∀ y, br = some y → y.block < w.heap.size) (hdr : S.length ≤ dr) (hd9 : dr ≤ 9223372036854775807) :
    Calls Tryz.prog 39 #[.pointer (some ⟨db, 0, none⟩), .slice br S.length dr] w fun e w' => e = .returned (.string (lookD t S).2) ∧ (∃ a' cap', DeskAt w' db B (lookD t S).1 u a' cap') ∧ w.grownBy w' (some db) := by
  obtain ⟨u1, u2, u3, u4⟩ := u
  obtain ⟨L, lim, mode, A, B', C, D, coast, fr⟩ := t
  dsimp only at hn hD ⊢
  have cL := yz (specLook_any L S lim mode A B' C D coast fr a cap br dr w hn hn2 hD.sky.stars hS (stars_lt hD.sky) hb hdr hd9)
  have HC : Hid (lookD ⟨L, lim, mode, A, B', C, D, coast, fr⟩ S = if lookC ⟨L, lim, mode, A, B', C, D, coast, fr⟩ S = 0 then (lookT ⟨L, lim, mode, A, B', C, D, coast, fr⟩ S, decB (lookT ⟨L, lim, mode, A, B', C, D, coast, fr⟩ S).mode.toNat) else (⟨L, lim, mode, A, B', C, D, coast, fr⟩, errT (lookC ⟨L, lim, mode, A, B', C, D, coast, fr⟩ S).toNat)) := yz rfl
  have hsp := lookC_span ⟨L, lim, mode, A, B', C, D, coast, fr⟩ S
  have hmo := lookT_mode (t := ⟨L, lim, mode, A, B', C, D, coast, fr⟩) (S := S)
  generalize lookD ⟨L, lim, mode, A, B', C, D, coast, fr⟩ S = R at *
  generalize lookC ⟨L, lim, mode, A, B', C, D, coast, fr⟩ S = code at *
  generalize lookT ⟨L, lim, mode, A, B', C, D, coast, fr⟩ S = t2 at *
  obtain ⟨L2, l2, m2, A2, B2, C2, D2, o2, f2⟩ := t2
  dsimp only at hmo
  have HD := yz hD
  have d0 := hD.blk.cell 0 _ rfl
  have d1 := hD.blk.cell 1 _ rfl
  have d2 := hD.blk.cell 2 _ rfl
  have d3 := hD.blk.cell 3 _ rfl
  have d4 := hD.blk.cell 4 _ rfl
  have d5 := hD.blk.cell 5 _ rfl
  have d6 := hD.blk.cell 6 _ rfl
  have d7 := hD.blk.cell 7 _ rfl
  have d8 := hD.blk.cell 8 _ rfl
  clear hD
  go_enter Tryz.func39, Tryz.ntmps39
  go_wp2_with fail
  refine (yy cL).mono ?_
  rintro e W1 ⟨⟨a2, cap2, rfl, hC2⟩, hx⟩
  have Z := below1 W1 (.cells #[.slice a2 L2.length cap2, .int .i64 l2, .int .i64 m2, .int .i64 A2, .int .i64 B2, .int .i64 C2, .int .i64 D2, .int .i64 o2, .int .i64 f2, .int .i64 code] 50)
  have X1 := blk_new W1 [.slice a2 L2.length cap2, .int .i64 l2, .int .i64 m2, .int .i64 A2, .int .i64 B2, .int .i64 C2, .int .i64 D2, .int .i64 o2, .int .i64 f2, .int .i64 code] 50
  have HB2 := yz (below_call hx Z)
  have HC2 := yz (hC2.kept Z)
  have hxb : w.heap.size ≤ W1.heap.size := hx.size
  have hdl : db < w.heap.size := (yy HD).lt
  have x9 := X1.cell 9 _ rfl
  clear d0 d1 d2 d3 d4 d5 d6 d7 d8 hC2 hx Z
  by_cases hc : code = 0
  · subst hc
    rw [if_pos rfl] at HC
    obtain ⟨m0, m1⟩ := hmo rfl
    have HE := (yy HD).kept (yy HB2)
    have e0 := HE.blk.cell 0 _ rfl
    have f0' := HE.blk.free 0
    have e1 := HE.blk.cell 1 _ rfl
    have f1' := HE.blk.free 1
    have e2 := HE.blk.cell 2 _ rfl
    have f2' := HE.blk.free 2
    have e3 := HE.blk.cell 3 _ rfl
    have f3' := HE.blk.free 3
    have e4 := HE.blk.cell 4 _ rfl
    have f4' := HE.blk.free 4
    have e5 := HE.blk.cell 5 _ rfl
    have f5' := HE.blk.free 5
    have e6 := HE.blk.cell 6 _ rfl
    have f6' := HE.blk.free 6
    have e7 := HE.blk.cell 7 _ rfl
    have f7' := HE.blk.free 7
    have e8 := HE.blk.cell 8 _ rfl
    have f8' := HE.blk.free 8
    obtain ⟨n, rfl⟩ := Int.eq_ofNat_of_zero_le m0
    go_wp2_with fail
    obtain ⟨HP, hg⟩ := DeskAt.put9 HE ⟨L2, l2, n, A2, B2, C2, D2, o2, f2⟩ a2 cap2 (own_lower (yy HC2) hB) (fun x e => by have := (own_far (yy HC2) x e).1; omega)
    dsimp only at HP hg
    refine (l01DecN_any n _ (by omega)).mono ?_
    rintro e W3 ⟨rfl, hx3⟩
    have HP3 := yz (HP.kept hx3)
    have hg3 := yz (grown_more (grown_more (grown_below (yy HB2)) hg) (grown_below hx3))
    clear HP hg hx3 HE
    go_wp2_with fail
    go_ret
    rw [yy HC]
    exact ⟨rfl, ⟨_, _, yy HP3⟩, yy hg3⟩
  · rw [if_neg hc] at HC
    obtain ⟨n, rfl⟩ := Int.eq_ofNat_of_zero_le hsp.1
    go_wp2_with fail
    refine (l09Error_any n _ (by omega)).mono ?_
    rintro e W3 ⟨rfl, hx3⟩
    have HB3 := yz (below_call (yy HB2) hx3)
    go_wp2_with fail
    go_ret
    rw [yy HC]
    exact ⟨rfl, ⟨_, _, (yy HD).kept (yy HB3)⟩, grown_below (yy HB3)⟩
end Go.Proofs.YtofpjlhoppofdaaGreatDoor
namespace Go.Proofs.YtofpjlhoppofdaaGreatDoor
set_option linter.unusedVariables false
def d8 (n : Int) : UInt8 := UInt8.ofNat (48 + n.toNat)
def dig (n : Int) : List UInt8 := if n < 0 then [45, d8 (-n)] else [d8 n]
def textD (a b c d : Int) : List UInt8 := dig a ++ 44 :: (dig b ++ 44 :: (dig c ++ 44 :: dig d))
def textB (a b c d : Int) : ByteArray := if rightT a b c d then ⟨(textD a b c d).toArray⟩ else ⟨#[]⟩
theorem dig_len (n : Int) : (dig n).length ≤ 2 := by unfold dig; split <;> simp
theorem text_ok {a b c d : Int} (h : rightT a b c d = true) : textB a b c d = ⟨(textD a b c d).toArray⟩ := by unfold textB; rw [if_pos h]
theorem text_no {a b c d : Int} (h : rightT a b c d = false) : textB a b c d = ⟨#[]⟩ := by unfold textB; rw [h]; rfl
theorem cat_cons (x : UInt8) (l : List UInt8) : ((⟨#[x]⟩ : ByteArray) ++ ⟨l.toArray⟩) = ⟨(x :: l).toArray⟩ := by
  apply ByteArray.ext
  simp
structure LSt where
  pl : Nat
  sg : Int
  a : Int
  b : Int
  c : Int
  d : Int
def LSt.part (t : LSt) : Int := if t.pl = 0 then t.a else if t.pl = 1 then t.b else if t.pl = 2 then t.c else t.d
def LSt.put (t : LSt) (v : Int) : LSt := if t.pl = 0 then { t with a := v } else if t.pl = 1 then { t with b := v } else if t.pl = 2 then { t with c := v } else { t with d := v }
def stepR (t : LSt) (x : Nat) : Option LSt :=
  if x = 44 ∧ t.pl < 3 then some { t with pl := t.pl + 1, sg := 1 } else if x = 45 then some { t with sg := -1 } else if 48 ≤ x ∧ x ≤ 57 then some (t.put (10 * t.part + t.sg * ((x : Int) - 48))) else none
def stepL (t : LSt) (x : Nat) : Option LSt := (stepR t x).bind fun u => if -5 ≤ u.part ∧ u.part ≤ 5 then some u else none
def st0 : LSt := ⟨0, 1, 0, 0, 0, 0⟩
def looseN (s : ByteArray) : Nat → Option LSt
  | 0 => some st0
  | k + 1 => (looseN s k).bind fun t => stepL t (byteN s k)
def looseL : LSt → List UInt8 → Option LSt
  | t, [] => some t
  | t, x :: r => (stepL t x.toNat).bind fun u => looseL u r
theorem looseL_append (t : LSt) (l r : List UInt8) : looseL t (l ++ r) = (looseL t l).bind fun u => looseL u r := by
  induction l generalizing t with
  | nil => rfl
  | cons x l ih =>
    show (stepL t x.toNat).bind (fun u => looseL u (l ++ r)) = ((stepL t x.toNat).bind fun u => looseL u l).bind fun u => looseL u r
    cases stepL t x.toNat with
    | none => rfl
    | some u => exact ih u
theorem byteN_list (s : ByteArray) (k : Nat) (h : k < s.size) : s.data.toList[k]? = some s[k] := by
  rw [Array.getElem?_toList]
  exact Array.getElem?_eq_getElem h
theorem looseN_take (s : ByteArray) (k : Nat) (h : k ≤ s.size) : looseN s k = looseL st0 (s.data.toList.take k) := by
  induction k with
  | zero => rfl
  | succ k ih =>
    have hk : k < s.size := by omega
    have hl : k < s.data.toList.length := by simpa using hk
    have e : s.data.toList.take (k + 1) = s.data.toList.take k ++ [s.data.toList[k]] := by rw [List.take_succ_eq_append_getElem hl]
    have e2 : s.data.toList[k] = s[k] := by
      have := byteN_list s k hk
      rw [List.getElem?_eq_getElem hl] at this
      exact Option.some.inj this
    rw [e, looseL_append, ← ih (by omega), e2]
    show (looseN s k).bind _ = (looseN s k).bind _
    congr 1
    funext t
    show stepL t (byteN s k) = (stepL t s[k].toNat).bind fun u => some u
    rw [byteN_lt hk]
    cases stepL t s[k].toNat <;> rfl
theorem looseN_all (s : ByteArray) : looseN s s.size = looseL st0 s.data.toList := by
  rw [looseN_take s s.size (Nat.le_refl _)]
  congr 1
  exact List.take_of_length_le (by simp)
def sgO (n : Int) : Int := if n < 0 then -1 else 1
theorem dig0 {n : Int} (h : -5 ≤ n ∧ n ≤ 5) (r : List UInt8) : looseL ⟨0, 1, 0, 0, 0, 0⟩ (dig n ++ r) = looseL ⟨0, sgO n, n, 0, 0, 0⟩ r := by
  have hh : n = -5 ∨ n = -4 ∨ n = -3 ∨ n = -2 ∨ n = -1 ∨ n = 0 ∨ n = 1 ∨ n = 2 ∨ n = 3 ∨ n = 4 ∨ n = 5 := by omega
  rcases hh with rfl | rfl | rfl | rfl | rfl | rfl | rfl | rfl | rfl | rfl | rfl <;> rfl
theorem dig1 {n : Int} (h : -5 ≤ n ∧ n ≤ 5) (a : Int) (r : List UInt8) : looseL ⟨1, 1, a, 0, 0, 0⟩ (dig n ++ r) = looseL ⟨1, sgO n, a, n, 0, 0⟩ r := by
  have hh : n = -5 ∨ n = -4 ∨ n = -3 ∨ n = -2 ∨ n = -1 ∨ n = 0 ∨ n = 1 ∨ n = 2 ∨ n = 3 ∨ n = 4 ∨ n = 5 := by omega
  rcases hh with rfl | rfl | rfl | rfl | rfl | rfl | rfl | rfl | rfl | rfl | rfl <;> rfl
theorem dig2 {n : Int} (h : -5 ≤ n ∧ n ≤ 5) (a b : Int) (r : List UInt8) : looseL ⟨2, 1, a, b, 0, 0⟩ (dig n ++ r) = looseL ⟨2, sgO n, a, b, n, 0⟩ r := by
  have hh : n = -5 ∨ n = -4 ∨ n = -3 ∨ n = -2 ∨ n = -1 ∨ n = 0 ∨ n = 1 ∨ n = 2 ∨ n = 3 ∨ n = 4 ∨ n = 5 := by omega
  rcases hh with rfl | rfl | rfl | rfl | rfl | rfl | rfl | rfl | rfl | rfl | rfl <;> rfl
theorem dig3 {n : Int} (h : -5 ≤ n ∧ n ≤ 5) (a b c : Int) (r : List UInt8) : looseL ⟨3, 1, a, b, c, 0⟩ (dig n ++ r) = looseL ⟨3, sgO n, a, b, c, n⟩ r := by
  have hh : n = -5 ∨ n = -4 ∨ n = -3 ∨ n = -2 ∨ n = -1 ∨ n = 0 ∨ n = 1 ∨ n = 2 ∨ n = 3 ∨ n = 4 ∨ n = 5 := by omega
  rcases hh with rfl | rfl | rfl | rfl | rfl | rfl | rfl | rfl | rfl | rfl | rfl <;> rfl
theorem com0 (a g : Int) (r : List UInt8) : looseL ⟨0, g, a, 0, 0, 0⟩ (44 :: r) = looseL ⟨1, 1, a, 0, 0, 0⟩ r := rfl
theorem com1 (a b g : Int) (r : List UInt8) : looseL ⟨1, g, a, b, 0, 0⟩ (44 :: r) = looseL ⟨2, 1, a, b, 0, 0⟩ r := rfl
theorem com2 (a b c g : Int) (r : List UInt8) : looseL ⟨2, g, a, b, c, 0⟩ (44 :: r) = looseL ⟨3, 1, a, b, c, 0⟩ r := rfl
theorem loose_back {a b c d : Int} (h : inT 5 a b c d = true) : looseL st0 (textD a b c d) = some ⟨3, sgO d, a, b, c, d⟩ := by
  obtain ⟨h1, h2, h3, h4⟩ := inT_iff.1 h
  unfold textD st0
  rw [dig0 h1, com0, dig1 h2, com1, dig2 h3, com2]
  have := dig3 h4 a b c []
  rw [List.append_nil] at this
  rw [this]; rfl
def looseP (s : ByteArray) : LSt := (looseN s s.size).getD ⟨0, 0, 0, 0, 0, 0⟩
theorem looseP_back {a b c d : Int} (h : rightT a b c d = true) : (looseP (textB a b c d)).a = a ∧ (looseP (textB a b c d)).b = b ∧ (looseP (textB a b c d)).c = c ∧ (looseP (textB a b c d)).d = d := by
  unfold looseP
  rw [looseN_all, text_ok h]
  show ((looseL st0 (textD a b c d).toArray.toList).getD _).a = a ∧ _
  have e : (textD a b c d).toArray.toList = textD a b c d := by simp
  rw [e, loose_back (rightT_iff.1 h).1]
  exact ⟨rfl, rfl, rfl, rfl⟩
def readR (s : ByteArray) : Bool := rightT (looseP s).a (looseP s).b (looseP s).c (looseP s).d && decide (textB (looseP s).a (looseP s).b (looseP s).c (looseP s).d = s)
def readP (s : ByteArray) (v : Int) : Int := if s.size ≤ 8000 ∧ readR s = true then v else 0
def readC (s : ByteArray) : Int := if s.size ≤ 8000 then (if readR s then 0 else 3) else 2
theorem readR_some {a b c d : Int} {s : ByteArray} (h : rightT a b c d = true) (ht : textB a b c d = s) : readR s = true ∧ (looseP s).a = a ∧ (looseP s).b = b ∧ (looseP s).c = c ∧ (looseP s).d = d := by
  subst ht
  obtain ⟨e1, e2, e3, e4⟩ := looseP_back h
  refine ⟨?_, e1, e2, e3, e4⟩
  unfold readR
  rw [e1, e2, e3, e4, h]
  simp
def splitL : List (List UInt8) × List UInt8 → List UInt8 → List (List UInt8) × List UInt8
  | p, [] => p
  | p, x :: r => if x = 44 then splitL (p.1 ++ [p.2], []) r else splitL (p.1, p.2 ++ [x]) r
theorem splitL_append (p : List (List UInt8) × List UInt8) (l r : List UInt8) : splitL p (l ++ r) = splitL (splitL p l) r := by
  induction l generalizing p with
  | nil => rfl
  | cons x l ih =>
    show (if x = 44 then splitL _ (l ++ r) else splitL _ (l ++ r)) = splitL (if x = 44 then splitL _ l else splitL _ l) r
    split
    · exact ih _
    · exact ih _
theorem splitL_dig {n : Int} (h : -5 ≤ n ∧ n ≤ 5) (acc : List (List UInt8)) (r : List UInt8) : splitL (acc, []) (dig n ++ r) = splitL (acc, dig n) r := by
  have hh : n = -5 ∨ n = -4 ∨ n = -3 ∨ n = -2 ∨ n = -1 ∨ n = 0 ∨ n = 1 ∨ n = 2 ∨ n = 3 ∨ n = 4 ∨ n = 5 := by omega
  rcases hh with rfl | rfl | rfl | rfl | rfl | rfl | rfl | rfl | rfl | rfl | rfl <;> rfl
theorem splitL_com (acc : List (List UInt8)) (cur r : List UInt8) : splitL (acc, cur) (44 :: r) = splitL (acc ++ [cur], []) r := rfl
theorem split_back {a b c d : Int} (h : inT 5 a b c d = true) : splitL ([], []) (textD a b c d) = ([dig a, dig b, dig c], dig d) := by
  obtain ⟨h1, h2, h3, h4⟩ := inT_iff.1 h
  unfold textD
  rw [splitL_dig h1, splitL_com, splitL_dig h2, splitL_com, splitL_dig h3, splitL_com]
  have := splitL_dig h4 ([] ++ [dig a] ++ [dig b] ++ [dig c]) []
  rw [List.append_nil] at this
  rw [this]; rfl
def partL (l : List UInt8) : Int :=
  match l with
  | [x] => if 48 ≤ x.toNat ∧ x.toNat ≤ 57 then (x.toNat : Int) - 48 else 9
  | [x, y] => if x.toNat = 45 ∧ 48 ≤ y.toNat ∧ y.toNat ≤ 57 then -((y.toNat : Int) - 48) else 9
  | _ => 9
theorem part_dig {n : Int} (h : -5 ≤ n ∧ n ≤ 5) : partL (dig n) = n := by
  have hh : n = -5 ∨ n = -4 ∨ n = -3 ∨ n = -2 ∨ n = -1 ∨ n = 0 ∨ n = 1 ∨ n = 2 ∨ n = 3 ∨ n = 4 ∨ n = 5 := by omega
  rcases hh with rfl | rfl | rfl | rfl | rfl | rfl | rfl | rfl | rfl | rfl | rfl <;> rfl
theorem readR_iff {s : ByteArray} (h : readR s = true) : ∃ a b c d, rightT a b c d = true ∧ textB a b c d = s := by
  unfold readR at h
  rw [Bool.and_eq_true, decide_eq_true_iff] at h
  exact ⟨_, _, _, _, h.1, h.2⟩
theorem split_text {a b c d : Int} {s : ByteArray} (h : rightT a b c d = true) (ht : textB a b c d = s) : splitL ([], []) s.data.toList = ([dig a, dig b, dig c], dig d) := by
  subst ht
  rw [text_ok h]
  show splitL ([], []) (textD a b c d).toArray.toList = _
  have e : (textD a b c d).toArray.toList = textD a b c d := by simp
  rw [e, split_back (rightT_iff.1 h).1]
theorem spec_len {s : ByteArray} (h : (splitL ([], []) s.data.toList).1.length ≠ 3) : readR s = false := by
  cases hr : readR s
  · rfl
  · obtain ⟨a, b, c, d, h1, h2⟩ := readR_iff hr
    rw [split_text h1 h2] at h
    exact absurd rfl h
theorem spec_yes {s : ByteArray} {x y z u : List UInt8} (hp : splitL ([], []) s.data.toList = ([x, y, z], u)) (ht : textB (partL x) (partL y) (partL z) (partL u) = s) :
    readR s = true ∧ (looseP s).a = partL x ∧ (looseP s).b = partL y ∧ (looseP s).c = partL z ∧ (looseP s).d = partL u := by
  cases hr : rightT (partL x) (partL y) (partL z) (partL u)
  · exfalso
    rw [text_no hr] at ht
    rw [← ht] at hp
    have : splitL ([], []) (⟨#[]⟩ : ByteArray).data.toList = ([], []) := rfl
    rw [this] at hp
    exact absurd (congrArg (fun p => p.1.length) hp) (by simp)
  · exact readR_some hr ht
theorem spec_no {s : ByteArray} {x y z u : List UInt8} (hp : splitL ([], []) s.data.toList = ([x, y, z], u)) (ht : textB (partL x) (partL y) (partL z) (partL u) ≠ s) : readR s = false := by
  cases hr : readR s
  · rfl
  · obtain ⟨a, b, c, d, h1, h2⟩ := readR_iff hr
    obtain ⟨i1, i2, i3, i4⟩ := inT_iff.1 (rightT_iff.1 h1).1
    have hs := split_text h1 h2
    rw [hp] at hs
    obtain ⟨e1, rfl⟩ := Prod.mk.inj hs
    obtain ⟨rfl, e2⟩ := List.cons.inj e1
    obtain ⟨rfl, e3⟩ := List.cons.inj e2
    obtain ⟨rfl, _⟩ := List.cons.inj e3
    rw [part_dig i1, part_dig i2, part_dig i3, part_dig i4] at ht
    exact absurd h2 ht
end Go.Proofs.YtofpjlhoppofdaaGreatDoor
namespace Go.Proofs.YtofpjlhoppofdaaGreatDoor
open Go.RowKit
set_option linter.unusedVariables false
theorem grownThen {a b c : World} {row r : Option Nat} (h : a.grownBy b row) (k : b.grownBy c r) (hr : ∀ i, r = some i → a.heap.size ≤ i) : a.grownBy c row :=
  ⟨k.os.trans h.os, k.tape.trans h.tape, k.output.trans h.output, Nat.le_trans h.size k.size, fun i hi hn => (k.block i (Nat.lt_of_lt_of_le hi h.size) (fun e => by have := hr i e.symm; omega)).trans (h.block i hi hn)⟩
theorem grownAlloc {a b : World} {row : Option Nat} (h : a.grownBy b row) (o : Obj) : a.grownBy (b.alloc o) row := grownThen h (World.grownBy_alloc b o none) (fun i e => by cases e)
theorem below_grownNone {a b : World} (h : a.grownBy b none) : Below a.heap.size a b := ⟨h.os, h.tape, h.output, h.size, fun i hi => h.block i hi (fun e => by cases e)⟩
theorem infoStr : (Tryz.prog.info? 9).map (fun i => (i.zero, i.size, i.bytes)) = some (some (.string ⟨#[]⟩), 1, 16) := by kernel_rfl
theorem info_str : ∃ i : TypeInfo, Tryz.prog.info? 9 = some i ∧ i.zero = some (.string ⟨#[]⟩) ∧ i.size = 1 ∧ i.bytes = 16 := by
  have h := infoStr
  cases hi : Tryz.prog.info? 9 with
  | none => rw [hi] at h; cases h
  | some i =>
    rw [hi] at h
    have := Option.some.inj h
    simp only [Prod.mk.injEq] at this
    exact ⟨i, rfl, this.1, this.2.1, this.2.2⟩
def strV (l : List UInt8) : Value := .string ⟨l.toArray⟩
def spN (s : ByteArray) (k : Nat) : List (List UInt8) × List UInt8 := splitL ([], []) (s.data.toList.take k)
theorem spN_all (s : ByteArray) : spN s s.size = splitL ([], []) s.data.toList := by
  unfold spN
  congr 1
  exact List.take_of_length_le (by simp)
theorem spN_next (s : ByteArray) (k : Nat) (h : k < s.size) : spN s (k + 1) = if s[k] = 44 then ((spN s k).1 ++ [(spN s k).2], []) else ((spN s k).1, (spN s k).2 ++ [s[k]]) := by
  have hl : k < s.data.toList.length := by simpa using h
  have e : s.data.toList.take (k + 1) = s.data.toList.take k ++ [s.data.toList[k]] := by rw [List.take_succ_eq_append_getElem hl]
  have e2 : s.data.toList[k] = s[k] := by
    have := byteN_list s k h
    rw [List.getElem?_eq_getElem hl] at this
    exact Option.some.inj this
  unfold spN
  rw [e, splitL_append, e2]
  show (if s[k] = 44 then splitL _ [] else splitL _ []) = _
  split <;> rfl
theorem spN_len (s : ByteArray) (k : Nat) (h : k ≤ s.size) : (spN s k).1.length ≤ k := by
  induction k with
  | zero => exact Nat.le_refl _
  | succ k ih =>
    have := ih (by omega)
    rw [spN_next s k (by omega)]
    split
    · simp; omega
    · show (spN s k).1.length ≤ k + 1; omega
def frN (s : ByteArray) : Nat → Nat
  | 0 => 0
  | k + 1 => if byteN s k = 44 then k + 1 else frN s k
theorem frN_le (s : ByteArray) (k : Nat) : frN s k ≤ k := by
  induction k with
  | zero => exact Nat.le_refl _
  | succ k ih => show (if byteN s k = 44 then k + 1 else frN s k) ≤ k + 1; split <;> omega
theorem piece_eq (s : ByteArray) (k : Nat) (h : k ≤ s.size) : s.extract (frN s k) k = ⟨(spN s k).2.toArray⟩ := by
  apply ByteArray.ext
  apply Array.toList_inj.1
  rw [ByteArray.data_extract, Array.toList_extract]
  show List.extract s.data.toList (frN s k) k = (spN s k).2.toArray.toList
  have e0 : (spN s k).2.toArray.toList = (spN s k).2 := by simp
  rw [e0, List.extract_eq_take_drop]
  induction k with
  | zero => rfl
  | succ k ih =>
    have hk : k < s.size := by omega
    have hb : byteN s k = s[k].toNat := byteN_lt hk
    rw [spN_next s k hk]
    show ((s.data.toList.drop (if byteN s k = 44 then k + 1 else frN s k)).take (k + 1 - (if byteN s k = 44 then k + 1 else frN s k))) = _
    by_cases c : s[k] = 44
    · have cb : byteN s k = 44 := by rw [hb, c]; rfl
      rw [if_pos cb, if_pos c]
      simp
    · have cb : ¬ byteN s k = 44 := by rw [hb]; intro e; exact c (UInt8.toNat.inj (e.trans rfl))
      rw [if_neg cb, if_neg c]
      have hf := frN_le s k
      have hl : k - frN s k < (s.data.toList.drop (frN s k)).length := by simp; omega
      have e1 : k + 1 - frN s k = (k - frN s k) + 1 := by omega
      rw [e1, List.take_succ_eq_append_getElem hl, ih (by omega) (by simp)]
      congr 1
      have hl2 : k < s.data.toList.length := by simpa using hk
      have : (s.data.toList.drop (frN s k))[k - frN s k] = s.data.toList[k] := by
        rw [List.getElem_drop]
        congr 1
        omega
      rw [this]
      have hx := byteN_list s k hk
      rw [List.getElem?_eq_getElem hl2] at hx
      rw [Option.some.inj hx]
def PiecesAt (w : World) (v : Value) (l : List (List UInt8)) : Prop := ∃ g cap, v = .slice (some ⟨g, 0, none⟩) l.length cap ∧ g < w.heap.size ∧ ∀ (j : Nat) x, l[j]? = some x → w.cell? ⟨g, j, none⟩ = some (strV x)
theorem pieces_of_own {w : World} {base : Nat} {v : Value} {l : List (List UInt8)} (h : w.ownsRow base 9 1 v l.length (l.map strV)) (hl : l ≠ []) : PiecesAt w v l := by
  have hn : 0 < l.length := List.length_pos_iff.2 hl
  rcases h.2 with ⟨_, h0⟩ | ⟨g, cap, _, hv, _⟩
  · omega
  · refine ⟨g, cap, hv, ?_, fun j x hj => ?_⟩
    · exact (h.lt g (by rw [hv]; rfl)).2
    · subst hv
      have hjl : j < l.length := by
        rcases Nat.lt_or_ge j l.length with h | h
        · exact h
        · rw [List.getElem?_eq_none h] at hj; cases hj
      rw [h.cellAt j (by omega), List.getElem?_map, hj]
      rfl
set_option maxHeartbeats 1000000 in
set_option maxRecDepth 100000 in
theorem l01Split_any (s : ByteArray) (w : World) (hs : s.size ≤ 8000) :
    Calls Tryz.prog 17 #[.string s, .int .u8 44] w fun e w' => ∃ v, e = .returned v ∧ PiecesAt w' v ((splitL ([], []) s.data.toList).1 ++ [(splitL ([], []) s.data.toList).2]) ∧ Below w.heap.size w w' := by
  obtain ⟨i0, hi, hz0, hz1, hz2⟩ := info_str
  go_enter Tryz.func17, Tryz.ntmps17
  go_wp2_with fail
  go_loopw [5, 6, 7] (fun v f i wr => ∃ (k : Nat), k ≤ s.size ∧ i = .int .i64 k ∧ f = .int .i64 (frN s k) ∧ wr.ownsRow w.heap.size 9 1 v (spN s k).1.length ((spN s k).1.map strV) ∧ w.grownBy wr none) (fun _ _ i _ => s.size - (intOf i).toNat)
  case atStart => exact ⟨0, by omega, rfl, rfl, World.ownsRow_lit w #[] 0 (Nat.le_refl _) (by simp [maxLen]) rfl, World.grownBy_alloc w _ none⟩
  case round =>
    obtain ⟨k, hk, rfl, rfl, hown, hg⟩ := hrel
    by_cases hkn : k < s.size
    · have HN := yz (spN_next s k hkn)
      have hfr := frN_le s k
      have hlen := spN_len s k hk
      have HFN : Hid (frN s (k + 1) = if byteN s k = 44 then k + 1 else frN s k) := yz rfl
      have hby : byteN s k = s[k].toNat := byteN_lt hkn
      by_cases c : s[k] = 44
      · have HP := yz (piece_eq s k hk)
        have c' : s[k].toNat = 44 := by rw [c]; rfl
        have hsz := hg.size
        have HNN : Hid (spN s (k + 1) = ((spN s k).1 ++ [(spN s k).2], [])) := yz (by rw [yy HN, if_pos c])
        have HF2 : Hid (frN s (k + 1) = k + 1) := yz (by rw [yy HFN, hby, c']; rfl)
        clear HN HFN hby
        go_wp2_with (at_builtin; refine wpList_append_own _ rfl _ _ 27 rfl w.heap.size 9 i0 (.string ⟨#[]⟩) 1 16 Tryz.underlying27 hi hz0 hz1 hz2 rfl (by decide) _ _ _ rfl (hown.alloc _) ⟨wr.heap.size, 0, none⟩ 1 1 [.string (s.extract (frN s k) k)] rfl rfl ?c1 ?c2 ?c3 ?c4 ?c5 ?_)
        case c1 =>
          intro j x hj
          match j, hj with
          | 0, hj => simp at hj; subst hj; simp [Addr.add]
        case c2 => intro x hx; simp at hx; subst hx; rfl
        case c3 => unfold maxLen; omega
        case c4 => omega
        case c5 => simp; omega
        intro v' w2 hown' hgrow _
        have hrow : ∀ i, u5.ownBlock = some i → w.heap.size ≤ i := fun i e => (hown.lt i e).1
        have hg3 : w.grownBy w2 none := grownThen (grownAlloc hg _) hgrow hrow
        rw [yy HP] at hown'
        have hx2 : List.map strV (spN s k).1 ++ [Value.string ⟨(spN s k).2.toArray⟩] = ((spN s k).1 ++ [(spN s k).2]).map strV := by simp [strV]
        rw [hx2] at hown'
        have hl2 : (spN s k).1.length + 1 = ((spN s k).1 ++ [(spN s k).2]).length := by simp
        have HO := yz hown'
        have HG := yz hg3
        clear hown' hown hgrow hrow hg3 hx2
        go_wp2_with fail
        go_roundw
        case rel => exact ⟨k + 1, by omega, by simp, by rw [yy HF2]; simp, by rw [yy HNN]; simpa using yy HO, yy HG⟩
        case measure => simp [intOf]; omega
      · have c' : (s[k].toNat : Int) ≠ 44 := by intro e; exact c (UInt8.toNat.inj (show s[k].toNat = 44 by omega))
        have cb : ((s[k].toNat : Int) == 44) = false := by simpa using c'
        have HNN : Hid (spN s (k + 1) = ((spN s k).1, (spN s k).2 ++ [s[k]])) := yz (by rw [yy HN, if_neg c])
        have HF2 : Hid (frN s (k + 1) = frN s k) := yz (by rw [yy HFN, hby, if_neg (by omega)])
        have HO := yz hown
        have HG := yz hg
        clear HN HFN hby hown hg hlen hfr
        go_wp2_with fail
        go_roundw
        case rel => exact ⟨k + 1, by omega, by simp, by rw [yy HF2], by rw [yy HNN]; exact yy HO, yy HG⟩
        case measure => simp [intOf]; omega
    · have hks : k = s.size := by omega
      subst hks
      have hfr := frN_le s s.size
      have hlen := spN_len s s.size hk
      have HP := yz (piece_eq s s.size hk)
      have hsz := hg.size
      have HA := yz (spN_all s)
      go_wp2_with (at_builtin; refine wpList_append_own _ rfl _ _ 27 rfl w.heap.size 9 i0 (.string ⟨#[]⟩) 1 16 Tryz.underlying27 hi hz0 hz1 hz2 rfl (by decide) _ _ _ rfl (hown.alloc _) ⟨wr.heap.size, 0, none⟩ 1 1 [.string (s.extract (frN s s.size) s.size)] rfl rfl ?c1 ?c2 ?c3 ?c4 ?c5 ?_)
      case c1 =>
        intro j x hj
        match j, hj with
        | 0, hj => simp at hj; subst hj; simp [Addr.add]
      case c2 => intro x hx; simp at hx; subst hx; rfl
      case c3 => unfold maxLen; omega
      case c4 => omega
      case c5 => simp; omega
      intro v' w2 hown' hgrow _
      have hrow : ∀ i, u5.ownBlock = some i → w.heap.size ≤ i := fun i e => (hown.lt i e).1
      have hg3 : w.grownBy w2 none := grownThen (grownAlloc hg _) hgrow hrow
      rw [yy HP] at hown'
      have hx2 : List.map strV (spN s s.size).1 ++ [Value.string ⟨(spN s s.size).2.toArray⟩] = ((spN s s.size).1 ++ [(spN s s.size).2]).map strV := by simp [strV]
      rw [hx2] at hown'
      have hl2 : (spN s s.size).1.length + 1 = ((spN s s.size).1 ++ [(spN s s.size).2]).length := by simp
      have HO := yz hown'
      have HG := yz hg3
      clear hown' hown hgrow hrow hg3 hx2
      go_wp2_with fail
      go_ret
      refine ⟨_, rfl, ?_, below_grownNone (yy HG)⟩
      rw [← yy HA]
      have hf := yy HO
      exact pieces_of_own (by simpa using hf) (by simp)
theorem u8_sub (x : Nat) (h1 : 48 ≤ x) (h2 : x ≤ 57) : IntKind.u8.wrap ((x : Int) - 48) = (x : Int) - 48 := by
  simp only [IntKind.wrap, IntKind.signed, IntKind.bits]
  simp
  omega
set_option maxRecDepth 100000 in
theorem part_other (S : ByteArray) (w : World) (h1 : S.size ≠ 1) (h2 : S.size ≠ 2) :
    Calls Tryz.prog 109 #[.string S] w fun e w' => e = .returned (.int .i64 9) ∧ w' = w := by
  have e1 : ((S.size : Int) == 1) = false := by simp; omega
  have e2 : ((S.size : Int) == 2) = false := by simp; omega
  go_enter Tryz.func109, Tryz.ntmps109
  go_wp2_with fail
  go_ret
  exact ⟨rfl, rfl⟩
set_option maxRecDepth 100000 in
theorem part_one (S : ByteArray) (w : World) (n : Nat) (h1 : S.size = 1) (hn : (S[0]'(by omega)).toNat = n) :
    Calls Tryz.prog 109 #[.string S] w fun e w' => e = .returned (.int .i64 (if 48 ≤ n ∧ n ≤ 57 then (n : Int) - 48 else 9)) ∧ w' = w := by
  by_cases c1 : 48 ≤ n
  · by_cases c2 : n ≤ 57
    · rw [if_pos ⟨c1, c2⟩]
      have hw := u8_sub n c1 c2
      have hw2 : wrap64 ((n : Int) - 48) = (n : Int) - 48 := wrap_id (by omega) (by omega)
      have d1 : (48 : Int) ≤ (n : Int) := by omega
      have d2 : (n : Int) ≤ 57 := by omega
      go_enter Tryz.func109, Tryz.ntmps109
      go_wp2_with fail
      go_ret
      exact ⟨rfl, rfl⟩
    · rw [if_neg (by omega)]
      have d1 : (48 : Int) ≤ (n : Int) := by omega
      have d2 : ¬ (n : Int) ≤ 57 := by omega
      go_enter Tryz.func109, Tryz.ntmps109
      go_wp2_with fail
      go_ret
      exact ⟨rfl, rfl⟩
  · rw [if_neg (by omega)]
    have d1 : ¬ (48 : Int) ≤ (n : Int) := by omega
    go_enter Tryz.func109, Tryz.ntmps109
    go_wp2_with fail
    go_ret
    exact ⟨rfl, rfl⟩
set_option maxRecDepth 100000 in
theorem part_two (S : ByteArray) (w : World) (m n : Nat) (h1 : S.size = 2) (hm : (S[0]'(by omega)).toNat = m) (hn : (S[1]'(by omega)).toNat = n) :
    Calls Tryz.prog 109 #[.string S] w fun e w' => e = .returned (.int .i64 (if m = 45 ∧ 48 ≤ n ∧ n ≤ 57 then -((n : Int) - 48) else 9)) ∧ w' = w := by
  by_cases c0 : m = 45
  · by_cases c1 : 48 ≤ n
    · by_cases c2 : n ≤ 57
      · rw [if_pos ⟨c0, c1, c2⟩]
        have hw := u8_sub n c1 c2
        have hw2 : wrap64 ((n : Int) - 48) = (n : Int) - 48 := wrap_id (by omega) (by omega)
        have hw3 : wrap64 (-((n : Int) - 48)) = -((n : Int) - 48) := wrap_id (by omega) (by omega)
        have d0 : ((m : Int) == 45) = true := by simp; omega
        have d1 : (48 : Int) ≤ (n : Int) := by omega
        have d2 : (n : Int) ≤ 57 := by omega
        go_enter Tryz.func109, Tryz.ntmps109
        go_wp2_with fail
        go_ret
        exact ⟨rfl, rfl⟩
      · rw [if_neg (by omega)]
        have d0 : ((m : Int) == 45) = true := by simp; omega
        have d1 : (48 : Int) ≤ (n : Int) := by omega
        have d2 : ¬ (n : Int) ≤ 57 := by omega
        go_enter Tryz.func109, Tryz.ntmps109
        go_wp2_with fail
        go_ret
        exact ⟨rfl, rfl⟩
    · rw [if_neg (by omega)]
      have d0 : ((m : Int) == 45) = true := by simp; omega
      have d1 : ¬ (48 : Int) ≤ (n : Int) := by omega
      go_enter Tryz.func109, Tryz.ntmps109
      go_wp2_with fail
      go_ret
      exact ⟨rfl, rfl⟩
  · rw [if_neg (by omega)]
    have d0 : ((m : Int) == 45) = false := by simp; omega
    go_enter Tryz.func109, Tryz.ntmps109
    go_wp2_with fail
    go_ret
    exact ⟨rfl, rfl⟩
theorem l03Part_any (l : List UInt8) (w : World) :
    Calls Tryz.prog 109 #[strV l] w fun e w' => e = .returned (.int .i64 (partL l)) ∧ w' = w := by
  match l with
  | [] => exact part_other ⟨#[]⟩ w (by decide) (by decide)
  | [x] => exact part_one ⟨#[x]⟩ w x.toNat rfl rfl
  | [x, y] => exact part_two ⟨#[x, y]⟩ w x.toNat y.toNat rfl rfl rfl
  | x :: y :: z :: r =>
    have hs : (⟨(x :: y :: z :: r).toArray⟩ : ByteArray).size = r.length + 3 := by show (x :: y :: z :: r).toArray.size = _; simp
    exact part_other ⟨(x :: y :: z :: r).toArray⟩ w (by omega) (by omega)
end Go.Proofs.YtofpjlhoppofdaaGreatDoor
namespace Go.Proofs.YtofpjlhoppofdaaGreatDoor
open Go.RowKit Go.Sort
set_option linter.unusedVariables false
theorem conv1 (w : World) (k : UInt8) : (convert 55 9 (.slice (some ⟨w.heap.size, 0, none⟩) 1 1)).run Tryz.prog (w.alloc (.cells #[.int .u8 (k.toNat : Int)] 5)) = .ok (.string ⟨#[k]⟩) (w.alloc (.cells #[.int .u8 (k.toNat : Int)] 5)) :=
  convBytes w 5 #[.int .u8 (k.toNat : Int)] ⟨#[k]⟩ (by simp [Lib.byteCells]) 1
set_option maxRecDepth 100000 in
theorem l01Dec_0 (w : World) :
    Calls Tryz.prog 44 #[.int .i64 0] w fun e w' => e = .returned (.string ⟨#[48]⟩) ∧ Below w.heap.size w w' := by
  go_enter Tryz.func44, Tryz.ntmps44
  go_wp2_with fail
  go_ret
  exact ⟨rfl, Below.refl _ _⟩
set_option maxRecDepth 100000 in
theorem l01Dec_1 (w : World) :
    Calls Tryz.prog 44 #[.int .i64 1] w fun e w' => e = .returned (.string ⟨#[49]⟩) ∧ Below w.heap.size w w' := by
  go_enter Tryz.func44, Tryz.ntmps44
  go_wp2_with fail
  go_loopw [0, 4] (fun u s wr => (u = .int .i64 1 ∧ s = .string ⟨#[]⟩ ∧ wr = w) ∨ (u = .int .i64 0 ∧ s = .string ⟨#[49]⟩ ∧ Hid (Below w.heap.size w wr))) (fun u _ _ => (intOf u).toNat)
  case atStart => exact .inl ⟨rfl, rfl, rfl⟩
  case round =>
    rcases hrel with ⟨rfl, rfl, rfl⟩ | ⟨rfl, rfl, HB⟩
    · have hcv : (convert 55 9 (.slice (some ⟨wr.heap.size, 0, none⟩) 1 1)).run Tryz.prog (wr.alloc (.cells #[.int .u8 49] 5)) = .ok (.string ⟨#[49]⟩) (wr.alloc (.cells #[.int .u8 49] 5)) := conv1 wr 49
      go_wp2
      go_roundw
      case rel => exact .inr ⟨rfl, rfl, yz (below1 _ _)⟩
      case measure => simp [intOf]
    · go_wp2
      go_ret
      exact ⟨rfl, yy HB⟩
set_option maxRecDepth 100000 in
theorem l01Dec_2 (w : World) :
    Calls Tryz.prog 44 #[.int .i64 2] w fun e w' => e = .returned (.string ⟨#[50]⟩) ∧ Below w.heap.size w w' := by
  go_enter Tryz.func44, Tryz.ntmps44
  go_wp2_with fail
  go_loopw [0, 4] (fun u s wr => (u = .int .i64 2 ∧ s = .string ⟨#[]⟩ ∧ wr = w) ∨ (u = .int .i64 0 ∧ s = .string ⟨#[50]⟩ ∧ Hid (Below w.heap.size w wr))) (fun u _ _ => (intOf u).toNat)
  case atStart => exact .inl ⟨rfl, rfl, rfl⟩
  case round =>
    rcases hrel with ⟨rfl, rfl, rfl⟩ | ⟨rfl, rfl, HB⟩
    · have hcv : (convert 55 9 (.slice (some ⟨wr.heap.size, 0, none⟩) 1 1)).run Tryz.prog (wr.alloc (.cells #[.int .u8 50] 5)) = .ok (.string ⟨#[50]⟩) (wr.alloc (.cells #[.int .u8 50] 5)) := conv1 wr 50
      go_wp2
      go_roundw
      case rel => exact .inr ⟨rfl, rfl, yz (below1 _ _)⟩
      case measure => simp [intOf]
    · go_wp2
      go_ret
      exact ⟨rfl, yy HB⟩
set_option maxRecDepth 100000 in
theorem l01Dec_3 (w : World) :
    Calls Tryz.prog 44 #[.int .i64 3] w fun e w' => e = .returned (.string ⟨#[51]⟩) ∧ Below w.heap.size w w' := by
  go_enter Tryz.func44, Tryz.ntmps44
  go_wp2_with fail
  go_loopw [0, 4] (fun u s wr => (u = .int .i64 3 ∧ s = .string ⟨#[]⟩ ∧ wr = w) ∨ (u = .int .i64 0 ∧ s = .string ⟨#[51]⟩ ∧ Hid (Below w.heap.size w wr))) (fun u _ _ => (intOf u).toNat)
  case atStart => exact .inl ⟨rfl, rfl, rfl⟩
  case round =>
    rcases hrel with ⟨rfl, rfl, rfl⟩ | ⟨rfl, rfl, HB⟩
    · have hcv : (convert 55 9 (.slice (some ⟨wr.heap.size, 0, none⟩) 1 1)).run Tryz.prog (wr.alloc (.cells #[.int .u8 51] 5)) = .ok (.string ⟨#[51]⟩) (wr.alloc (.cells #[.int .u8 51] 5)) := conv1 wr 51
      go_wp2
      go_roundw
      case rel => exact .inr ⟨rfl, rfl, yz (below1 _ _)⟩
      case measure => simp [intOf]
    · go_wp2
      go_ret
      exact ⟨rfl, yy HB⟩
set_option maxRecDepth 100000 in
theorem l01Dec_4 (w : World) :
    Calls Tryz.prog 44 #[.int .i64 4] w fun e w' => e = .returned (.string ⟨#[52]⟩) ∧ Below w.heap.size w w' := by
  go_enter Tryz.func44, Tryz.ntmps44
  go_wp2_with fail
  go_loopw [0, 4] (fun u s wr => (u = .int .i64 4 ∧ s = .string ⟨#[]⟩ ∧ wr = w) ∨ (u = .int .i64 0 ∧ s = .string ⟨#[52]⟩ ∧ Hid (Below w.heap.size w wr))) (fun u _ _ => (intOf u).toNat)
  case atStart => exact .inl ⟨rfl, rfl, rfl⟩
  case round =>
    rcases hrel with ⟨rfl, rfl, rfl⟩ | ⟨rfl, rfl, HB⟩
    · have hcv : (convert 55 9 (.slice (some ⟨wr.heap.size, 0, none⟩) 1 1)).run Tryz.prog (wr.alloc (.cells #[.int .u8 52] 5)) = .ok (.string ⟨#[52]⟩) (wr.alloc (.cells #[.int .u8 52] 5)) := conv1 wr 52
      go_wp2
      go_roundw
      case rel => exact .inr ⟨rfl, rfl, yz (below1 _ _)⟩
      case measure => simp [intOf]
    · go_wp2
      go_ret
      exact ⟨rfl, yy HB⟩
set_option maxRecDepth 100000 in
theorem l01Dec_5 (w : World) :
    Calls Tryz.prog 44 #[.int .i64 5] w fun e w' => e = .returned (.string ⟨#[53]⟩) ∧ Below w.heap.size w w' := by
  go_enter Tryz.func44, Tryz.ntmps44
  go_wp2_with fail
  go_loopw [0, 4] (fun u s wr => (u = .int .i64 5 ∧ s = .string ⟨#[]⟩ ∧ wr = w) ∨ (u = .int .i64 0 ∧ s = .string ⟨#[53]⟩ ∧ Hid (Below w.heap.size w wr))) (fun u _ _ => (intOf u).toNat)
  case atStart => exact .inl ⟨rfl, rfl, rfl⟩
  case round =>
    rcases hrel with ⟨rfl, rfl, rfl⟩ | ⟨rfl, rfl, HB⟩
    · have hcv : (convert 55 9 (.slice (some ⟨wr.heap.size, 0, none⟩) 1 1)).run Tryz.prog (wr.alloc (.cells #[.int .u8 53] 5)) = .ok (.string ⟨#[53]⟩) (wr.alloc (.cells #[.int .u8 53] 5)) := conv1 wr 53
      go_wp2
      go_roundw
      case rel => exact .inr ⟨rfl, rfl, yz (below1 _ _)⟩
      case measure => simp [intOf]
    · go_wp2
      go_ret
      exact ⟨rfl, yy HB⟩
theorem l01Dec_any (n : Int) (w : World) (h0 : 0 ≤ n) (h5 : n ≤ 5) :
    Calls Tryz.prog 44 #[.int .i64 n] w fun e w' => e = .returned (.string ⟨#[d8 n]⟩) ∧ Below w.heap.size w w' := by
  have h : n = 0 ∨ n = 1 ∨ n = 2 ∨ n = 3 ∨ n = 4 ∨ n = 5 := by omega
  rcases h with rfl | rfl | rfl | rfl | rfl | rfl
  · exact l01Dec_0 w
  · exact l01Dec_1 w
  · exact l01Dec_2 w
  · exact l01Dec_3 w
  · exact l01Dec_4 w
  · exact l01Dec_5 w
set_option maxRecDepth 100000 in
theorem l03Num_any (n : Int) (w : World) (h : -5 ≤ n ∧ n ≤ 5) :
    Calls Tryz.prog 78 #[.int .i64 n] w fun e w' => e = .returned (.string ⟨(dig n).toArray⟩) ∧ Below w.heap.size w w' := by
  by_cases hn : n < 0
  · have hw : wrap64 (-n) = -n := wrap_id (by omega) (by omega)
    have HD : Hid ((dig n).toArray = #[45, d8 (-n)]) := yz (by unfold dig; rw [if_pos hn])
    go_enter Tryz.func78, Tryz.ntmps78
    go_wp2_with fail
    refine (l01Dec_any (-n) _ (by omega) (by omega)).mono ?_
    rintro e w1 ⟨rfl, hx⟩
    go_wp2_with fail
    go_ret
    exact ⟨by rw [yy HD, ← cat_cons 45 [d8 (-n)]]; rfl, hx⟩
  · have HD : Hid ((dig n).toArray = #[d8 n]) := yz (by unfold dig; rw [if_neg hn])
    go_enter Tryz.func78, Tryz.ntmps78
    go_wp2_with fail
    refine (l01Dec_any n _ (by omega) (by omega)).mono ?_
    rintro e w1 ⟨rfl, hx⟩
    go_wp2_with fail
    go_ret
    exact ⟨by rw [yy HD]; rfl, hx⟩
set_option maxRecDepth 100000 in
theorem specText_any (a b c d : Int) (w : World) :
    Calls Tryz.prog 45 #[.agg #[.int .i64 a, .int .i64 b, .int .i64 c, .int .i64 d]] w fun e w' => e = .returned (.string (textB a b c d)) ∧ Below w.heap.size w w' := by
  go_enter Tryz.func45, Tryz.ntmps45
  go_wp2_with fail
  refine (specTRight_any a b c d _).mono ?_
  rintro e w1 ⟨rfl, hx⟩
  have va : TurnAt w1 w.heap.size a b c d := (turnAt_new w a b c d _).kept (by simp) hx
  have hB : Below w.heap.size w w1 := below_call (below1 _ _) hx
  clear hx
  cases hr : rightT a b c d
  · have HR := yz (text_no hr)
    go_wp2_with fail
    go_ret
    exact ⟨by rw [yy HR]; rfl, hB⟩
  · have HR := yz (text_ok hr)
    have HI := yz (inT_iff.1 (rightT_iff.1 hr).1)
    clear hr
    have hva := va
    obtain ⟨c0, c1, c2, c3⟩ := va
    have k0 := cell_regrown c0
    have k1 := cell_regrown c1
    have k2 := cell_regrown c2
    have k3 := cell_regrown c3
    have ca := yz (fun W => l03Num_any a W (yy HI).1)
    have cb := yz (fun W => l03Num_any b W (yy HI).2.1)
    have cc := yz (fun W => l03Num_any c W (yy HI).2.2.1)
    have cd := yz (fun W => l03Num_any d W (yy HI).2.2.2)
    have HT : Hid ((((((⟨(dig a).toArray⟩ ++ ⟨#[44]⟩) ++ ⟨(dig b).toArray⟩) ++ ⟨#[44]⟩) ++ ⟨(dig c).toArray⟩) ++ ⟨#[44]⟩) ++ ⟨(dig d).toArray⟩ = (⟨(textD a b c d).toArray⟩ : ByteArray)) := yz (by apply ByteArray.ext; simp [textD])
    have l1 := dig_len a
    have l2 := dig_len b
    have l3 := dig_len c
    have l4 := dig_len d
    have e1 : (⟨(dig a).toArray⟩ : ByteArray).size = (dig a).length := rfl
    have e2 : (⟨(dig b).toArray⟩ : ByteArray).size = (dig b).length := rfl
    have e3 : (⟨(dig c).toArray⟩ : ByteArray).size = (dig c).length := rfl
    have e4 : (⟨(dig d).toArray⟩ : ByteArray).size = (dig d).length := rfl
    have e5 : (⟨#[44]⟩ : ByteArray).size = 1 := rfl
    generalize (⟨(dig a).toArray⟩ : ByteArray) = sa at *
    generalize (⟨(dig b).toArray⟩ : ByteArray) = sb at *
    generalize (⟨(dig c).toArray⟩ : ByteArray) = sc at *
    generalize (⟨(dig d).toArray⟩ : ByteArray) = sd at *
    have hk : sa.size ≤ 2 ∧ sb.size ≤ 2 ∧ sc.size ≤ 2 ∧ sd.size ≤ 2 := by omega
    clear l1 l2 l3 l4 e1 e2 e3 e4
    have z1 : ¬ 9223372036854775807 < sa.size + 1 := by omega
    have z2 : ¬ 9223372036854775807 < sa.size + 1 + sb.size := by omega
    have z3 : ¬ 9223372036854775807 < sa.size + 1 + sb.size + 1 := by omega
    have z4 : ¬ 9223372036854775807 < sa.size + 1 + sb.size + 1 + sc.size := by omega
    have z5 : ¬ 9223372036854775807 < sa.size + 1 + sb.size + 1 + sc.size + 1 := by omega
    have z6 : ¬ 9223372036854775807 < sa.size + 1 + sb.size + 1 + sc.size + 1 + sd.size := by omega
    have HU : Hid (textB a b c d = sa ++ (⟨#[44]⟩ : ByteArray) ++ sb ++ (⟨#[44]⟩ : ByteArray) ++ sc ++ (⟨#[44]⟩ : ByteArray) ++ sd) := yz (by rw [yy HR, ← yy HT])
    clear hk e5 HT HR
    go_wp2_with fail
    refine wp_region_quiet_below (by kernel_rfl) (by kernel_rfl) ?_
    repeat (quiet_step (first | (with_reducible exact Calls.regrown_of (yy ca _)) | (with_reducible exact Calls.regrown_of (yy cb _)) | (with_reducible exact Calls.regrown_of (yy cc _)) | (with_reducible exact Calls.regrown_of (yy cd _))))
    refine wpQuiet_nil ?_
    intro _ hw'
    obtain ⟨⟨dq, osq⟩, hw''⟩ := hw'
    subst hw''
    clear c0 c1 c2 c3 k0 k1 k2 k3 ca cb cc cd z1 z2 z3 z4 z5 z6
    go_wp2
    go_ret
    exact ⟨by rw [yy HU]; rfl, below_call hB (below_regrown w1 dq osq)⟩
end Go.Proofs.YtofpjlhoppofdaaGreatDoor
namespace Go.Proofs.YtofpjlhoppofdaaGreatDoor
open Go.RowKit
set_option linter.unusedVariables false
theorem TurnAt.block {w w' : World} {b : Nat} {p q r s : Int} (h : TurnAt w b p q r s) (e : w'.heap[b]? = w.heap[b]?) : TurnAt w' b p q r s := by
  obtain ⟨h0, h1, h2, h3⟩ := h
  exact ⟨by rw [World.cell?_of_block (a := ⟨b, 0, none⟩) e]; exact h0, by rw [World.cell?_of_block (a := ⟨b, 1, none⟩) e]; exact h1, by rw [World.cell?_of_block (a := ⟨b, 2, none⟩) e]; exact h2, by rw [World.cell?_of_block (a := ⟨b, 3, none⟩) e]; exact h3⟩
theorem FreeT.block {w w' : World} {b : Nat} (h : FreeT w b) (e : w'.heap[b]? = w.heap[b]?) : FreeT w' b := by
  obtain ⟨h0, h1, h2, h3⟩ := h
  exact ⟨by rw [World.frozen?_of_block (a := ⟨b, 0, none⟩) e]; exact h0, by rw [World.frozen?_of_block (a := ⟨b, 1, none⟩) e]; exact h1, by rw [World.frozen?_of_block (a := ⟨b, 2, none⟩) e]; exact h2, by rw [World.frozen?_of_block (a := ⟨b, 3, none⟩) e]; exact h3⟩
def LInv (w wr : World) (s : ByteArray) (br bp bi : Nat) (t : LSt) (pos : Nat) : Prop :=
  TurnAt wr bp t.a t.b t.c t.d ∧ FreeT wr bp ∧ TurnAt wr br 0 0 0 0 ∧ FreeT wr br ∧ wr.heap[bi]? = some (.stringIter s pos) ∧ Below w.heap.size w wr
theorem LInv.cell {w wr : World} {s : ByteArray} {br bp bi : Nat} {t : LSt} {pos : Nat} (h : LInv w wr s br bp bi t pos) (hp : t.pl ≤ 3) : wr.cell? ⟨bp, t.pl, none⟩ = some (.int .i64 t.part) ∧ wr.frozen? ⟨bp, t.pl, none⟩ = false := by
  obtain ⟨⟨c0, c1, c2, c3⟩, ⟨f0, f1, f2, f3⟩, _⟩ := h
  unfold LSt.part
  rcases (show t.pl = 0 ∨ t.pl = 1 ∨ t.pl = 2 ∨ t.pl = 3 by omega) with e | e | e | e <;> rw [e]
  · exact ⟨c0, f0⟩
  · exact ⟨c1, f1⟩
  · exact ⟨c2, f2⟩
  · exact ⟨c3, f3⟩
theorem LInv.put {w wr : World} {s : ByteArray} {br bp bi : Nat} {t : LSt} {pos : Nat} (h : LInv w wr s br bp bi t pos) (hp : t.pl ≤ 3) (h1 : br ≠ bp) (h2 : bi ≠ bp) (h3 : w.heap.size ≤ bp) (v : Int) : LInv w (wr.setCell ⟨bp, t.pl, none⟩ (.int .i64 v)) s br bp bi (t.put v) pos := by
  obtain ⟨⟨c0, c1, c2, c3⟩, ⟨f0, f1, f2, f3⟩, i3, i4, i5, i6⟩ := h
  refine ⟨?_, ?_, i3.block (Below.heap_setCell _ _ _ _ h1), i4.block (Below.heap_setCell _ _ _ _ h1), (Below.heap_setCell _ _ _ _ h2).trans i5, i6.setCell h3 _⟩
  · unfold LSt.put
    rcases (show t.pl = 0 ∨ t.pl = 1 ∨ t.pl = 2 ∨ t.pl = 3 by omega) with e | e | e | e <;> rw [e] <;> (refine ⟨?_, ?_, ?_, ?_⟩ <;> simp [go_sem, c0, c1, c2, c3])
  · refine ⟨?_, ?_, ?_, ?_⟩ <;> simp [go_sem, f0, f1, f2, f3]
end Go.Proofs.YtofpjlhoppofdaaGreatDoor
namespace Go.Proofs.YtofpjlhoppofdaaGreatDoor
open Go.Shelf Go.RowKit Go.Sort Go.Lib
end Go.Proofs.YtofpjlhoppofdaaGreatDoor
