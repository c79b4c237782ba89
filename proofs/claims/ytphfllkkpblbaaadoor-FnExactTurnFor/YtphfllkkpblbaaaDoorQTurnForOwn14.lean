/- Several texts in one: TfD, SkyW, IdW, L7B. -/
import Derived.Deep.RegionHeld
import Derived.Deep.DeepCutAuto
import Derived.Test.YtphfllkkpblbaaaDoorRows
import Derived.Deep.Slices
import Derived.Deep.Strs
import Derived.Stop.LaidErr
import Derived.LaidHandle
import Derived.LaidMore
import Derived.ProofKit
import Derived.WideShapes
import Derived.Test.YtphfllkkpblbaaaDoorQTurnForOwn13
import Derived.Test.YtphfllkkpblbaaaDoorQTurnForOwn4
import Derived.Test.YtphfllkkpblbaaaDoorQTurnForOwn8
import Derived.Test.YtphfllkkpblbaaaDoorQTurnForOwn9
namespace Go.Proofs.YtphfllkkpblbaaaDoor
open Go.RowKit Go.Sort
set_option linter.unusedVariables false

theorem stepTurnForZ {w1 wx wn : World} (hx : Below wx.heap.size wx wn) (h : Below w1.heap.size w1 wx) : Below w1.heap.size w1 wn := below_call h hx
theorem stepTurnForD {w1 wx wn : World} (hx : Below wx.drew.heap.size wx.drew wn) (h : Below w1.heap.size w1 wx) : Below w1.heap.size w1 wn := h.drew.trans (hx.mono h.size)
set_option maxHeartbeats 16000000 in
set_option maxRecDepth 100000 in
theorem lawTurnFor (L : List St) (S : List D3) (ids : List Int) (ar br ir : Option Addr) (cr dr er : Nat) (p : Addr) (w : World) (hn : L.length ≤ 1048576) (hm : (S.length : Int) ≤ 1048576 - (L.length : Int)) (hi : ids.length ≤ 1048576) (hS : Stars w ar L L.length) (hD : Dirs w br S S.length) (hI : Nums w ir ids ids.length) (hE : ErrSky p w) :
    Calls Tryd.prog 4 #[.slice ar L.length cr, .slice br S.length dr, .slice ir ids.length er] w fun e w' => e = .returned (.bool true) ∧ Below w.heap.size w w' := by
  have HS := hide hS
  have HD := hide hD
  have HI := hide hI
  have HE := hide hE
  have hm2 : S.length ≤ 1048576 := by omega
  clear hS hD hI hE
  have hm8 : 1048576 ≤ maxLen := by decide +kernel
  have cT := hide (fun W hW => toStarS_any L ar cr W hn hW)
  have cD := hide (fun W hW => toVecS_any S S.length br dr W hm2 hW)
  have cI := hide (fun W hW => toInt64S_any ids ids.length ir er W hi hW)
  obtain ⟨t1, t2, t3, t4, tc, cS, cR⟩ : ∃ t1 t2 t3 t4 tc : Int, Hid (∀ (W : World) (q q' q'' k0 : Nat), Stars W (some ⟨q, 0, none⟩) L L.length → Dirs W (some ⟨q', 0, none⟩) S S.length → Nums W (some ⟨q'', 0, none⟩) ids ids.length → Calls Tryd.prog 15 #[.slice (some ⟨q, 0, none⟩) L.length k0, .slice (some ⟨q', 0, none⟩) S.length S.length, .slice (some ⟨q'', 0, none⟩) ids.length ids.length] W fun e w' => e = .returned (.agg #[.int .i64 t1, .int .i64 t2, .int .i64 t3, .int .i64 t4, .int .i64 tc]) ∧ Below W.heap.size W w')
      ∧ Hid (∀ (W : World) (q q' q'' : Nat), Stars W (some ⟨q, 0, none⟩) L L.length → Dirs W (some ⟨q', 0, none⟩) S S.length → Nums W (some ⟨q'', 0, none⟩) ids ids.length → ErrSky p W → Calls Tryd.prog 16 #[.slice (some ⟨q, 0, none⟩) L.length L.length, .slice (some ⟨q', 0, none⟩) S.length S.length, .slice (some ⟨q'', 0, none⟩) ids.length ids.length] W fun e w' => e = .returned (.agg #[.int .i64 t1, .int .i64 t2, .int .i64 t3, .int .i64 t4, .int .i64 tc]) ∧ Below W.heap.size W w') :=
    ⟨(forV L S ids).1.1, (forV L S ids).1.2.1, (forV L S ids).1.2.2.1, (forV L S ids).1.2.2.2, (forV L S ids).2, hide (fun W q q' q'' k0 h1 h2 h3 => specTurnFor_any L S ids _ _ _ k0 _ _ W hn hm2 hi (Nat.le_refl _) (Nat.le_refl _) h1 h2 h3), hide (fun W q q' q'' h1 h2 h3 h4 => implTurnFor_any L S ids _ _ _ _ _ _ p W hn (Nat.le_refl _) (by omega) hm2 (Nat.le_refl _) (by omega) hi h1 h2 h3 h4)⟩
  generalize S.length = m at *
  generalize L.length = n at *
  generalize ids.length = k at *
  have h0 : ¬ (1048576 : Int) - (n : Int) < 0 := by omega
  have h1 : ¬ (1048576 : Int) - (n : Int) - (m : Int) < 0 := by omega
  have h2 : ¬ (1048576 : Int) < (k : Int) := by omega
  have B0 := hide (Below.refl w.heap.size w)
  go_enter Tryd.func4, Tryd.ntmps4
  go_wp2_with fail
  refine (szStarS_any ar n cr _ hn).mono ?_
  rintro e w1 ⟨rfl, hw⟩
  rw [hw]
  clear hw w1
  go_wp2_with fail
  refine (szVecS_any br m dr (1048576 - (n : Int)) _ (by omega) (by omega) (by omega)).mono ?_
  rintro e w1 ⟨rfl, hw⟩
  rw [hw]
  clear hw w1
  go_wp2_with fail
  refine (unhide cT _ (unhide HS)).mono ?_
  rintro e v1 ⟨rfl, ho, hx⟩
  have OS := hide ho
  have V1 := hide hx
  generalize w.heap.size = s1 at OS ⊢
  clear ho hx
  go_wp2_with fail
  refine (unhide cD _ ((unhide HD).kept (unhide V1))).mono ?_
  rintro e v2 ⟨rfl, ho, hx⟩
  have OD := hide ho
  have OS2 := hide ((unhide OS).kept hx)
  have V2 := hide (below_call (unhide V1) hx)
  generalize v1.heap.size = s2 at OD ⊢
  clear ho hx OS V1
  go_wp2_with fail
  refine (unhide cI _ ((unhide HI).kept (unhide V2))).mono ?_
  rintro e v3 ⟨rfl, ho, hx⟩
  have OI := hide ho
  have OS3 := hide ((unhide OS2).kept hx)
  have OD3 := hide ((unhide OD).kept hx)
  have V3 := hide (below_call (unhide V2) hx)
  generalize v2.heap.size = s3 at OI ⊢
  clear ho hx OS2 OD V2
  go_wp2_with fail
  refine (unhide cS _ _ _ _ n (unhide OS3).stars (unhide OD3).dirs (nums_of (unhide OI))).mono ?_
  rintro e wc ⟨rfl, hx⟩
  have B1 := hide (below_call (unhide V3) hx)
  clear hx OS3 OD3 OI V3
  have Z := below1 wc (.cells #[.int .i64 t1, .int .i64 t2, .int .i64 t3, .int .i64 t4, .int .i64 tc] 40)
  have W1 := hide (blk_new wc [.int .i64 t1, .int .i64 t2, .int .i64 t3, .int .i64 t4, .int .i64 tc] 40)
  replace B1 := hide (below_call (unhide B1) Z)
  clear Z
  go_wp2_with fail
  generalize wc.alloc (.cells #[.int .i64 t1, .int .i64 t2, .int .i64 t3, .int .i64 t4, .int .i64 tc] 40) = wc1 at B1 W1 ⊢
  generalize wc.heap.size = wb at *
  clear wc
  refine (unhide cT _ ((unhide HS).kept (unhide B1))).mono ?_
  rintro e w3 ⟨rfl, ho, hx⟩
  have O3 := hide ho
  have W3 := hide ((unhide W1).kept hx)
  have B3 := hide (below_call (unhide B1) hx)
  generalize wc1.heap.size = xb at *
  clear ho hx
  clear W1 B1
  go_wp2_with fail
  refine (unhide cD _ ((unhide HD).kept (unhide B3))).mono ?_
  rintro e w4 ⟨rfl, ho, hx⟩
  have D4 := hide ho
  have W4 := hide ((unhide W3).kept hx)
  have O4 := hide ((unhide O3).kept hx)
  have B4 := hide (below_call (unhide B3) hx)
  generalize w3.heap.size = yb at *
  clear ho hx
  clear W3 O3 B3
  go_wp2_with fail
  refine (unhide cI _ ((unhide HI).kept (unhide B4))).mono ?_
  rintro e w5 ⟨rfl, ho, hx⟩
  have I5 := hide ho
  have W5 := hide ((unhide W4).kept hx)
  have O5 := hide ((unhide O4).kept hx)
  have D5 := hide ((unhide D4).kept hx)
  have B5 := hide (below_call (unhide B4) hx)
  generalize w4.heap.size = zb at *
  clear ho hx
  clear W4 O4 D4 B4
  go_wp2_with fail
  refine (unhide cR _ _ _ _ (unhide O5).stars (unhide D5).dirs (nums_of (unhide I5)) ((unhide HE).kept (unhide B5))).mono ?_
  rintro e w6 ⟨rfl, hx⟩
  have W6 := hide ((unhide W5).kept hx)
  have O6 := hide ((unhide O5).kept hx)
  have D6 := hide ((unhide D5).kept hx)
  have I6 := hide ((unhide I5).kept hx)
  have B6 := hide (below_call (unhide B5) hx)
  clear hx
  clear W5 O5 D5 I5 B5
  have Z := below1 w6 (.cells #[.int .i64 t1, .int .i64 t2, .int .i64 t3, .int .i64 t4, .int .i64 tc] 40)
  have G7 := hide (blk_new w6 [.int .i64 t1, .int .i64 t2, .int .i64 t3, .int .i64 t4, .int .i64 tc] 40)
  have W7 := hide ((unhide W6).kept Z)
  have O7 := hide ((unhide O6).kept Z)
  have D7 := hide ((unhide D6).kept Z)
  have I7 := hide ((unhide I6).kept Z)
  have B7 := hide (below_call (unhide B6) Z)
  clear Z
  clear W6 O6 D6 I6 B6
  have p0 := (unhide W7).cell 0 _ rfl
  have p1 := (unhide W7).cell 1 _ rfl
  have p2 := (unhide W7).cell 2 _ rfl
  have p3 := (unhide W7).cell 3 _ rfl
  have p4 := (unhide W7).cell 4 _ rfl
  have q0 := (unhide G7).cell 0 _ rfl
  have q1 := (unhide G7).cell 1 _ rfl
  have q2 := (unhide G7).cell 2 _ rfl
  have q3 := (unhide G7).cell 3 _ rfl
  have q4 := (unhide G7).cell 4 _ rfl
  go_wp2_with fail
  clear p0 p1 p2 p3 p4 q0 q1 q2 q3 q4
  refine (eqTurnOut_same t1 t2 t3 t4 tc _).mono ?_
  rintro e w8 ⟨rfl, hx⟩
  have O8 := hide ((unhide O7).kept hx)
  have D8 := hide ((unhide D7).kept hx)
  have I8 := hide ((unhide I7).kept hx)
  have B8 := hide (below_call (unhide B7) hx)
  clear hx G7 W7
  clear O7 D7 I7 B7
  go_wp2_with fail
  refine (unhide cT _ ((unhide HS).kept (unhide B8))).mono ?_
  rintro e w9 ⟨rfl, ho, hx⟩
  have OT := hide ho
  have O9 := hide ((unhide O8).kept hx)
  have D9 := hide ((unhide D8).kept hx)
  have I9 := hide ((unhide I8).kept hx)
  have B9 := hide (below_call (unhide B8) hx)
  generalize w8.heap.size = xb2 at *
  clear ho hx
  clear O8 D8 I8 B8
  go_wp2_with fail
  refine (eqStarS_same L n (some ⟨xb, 0, none⟩) (some ⟨xb2, 0, none⟩) n n _ hn (unhide O9).stars (unhide OT).stars).mono ?_
  rintro e wa ⟨rfl, hx⟩
  have Da := hide ((unhide D9).kept hx)
  have Ia := hide ((unhide I9).kept hx)
  have Ba := hide (below_call (unhide B9) hx)
  clear hx OT
  clear O9 D9 I9 B9
  go_wp2_with fail
  refine (unhide cD _ ((unhide HD).kept (unhide Ba))).mono ?_
  rintro e wb' ⟨rfl, ho, hx⟩
  have OT := hide ho
  have Db := hide ((unhide Da).kept hx)
  have Ib := hide ((unhide Ia).kept hx)
  have Bb := hide (below_call (unhide Ba) hx)
  generalize wa.heap.size = yb2 at *
  clear ho hx
  clear Da Ia Ba
  go_wp2_with fail
  refine (eqVecS_same S m (some ⟨yb, 0, none⟩) (some ⟨yb2, 0, none⟩) m m _ hm2 (unhide Db).dirs (unhide OT).dirs).mono ?_
  rintro e wd ⟨rfl, hx⟩
  have Id := hide ((unhide Ib).kept hx)
  have Bd := hide (below_call (unhide Bb) hx)
  clear hx OT
  clear Db Ib Bb
  go_wp2_with fail
  refine (unhide cI _ ((unhide HI).kept (unhide Bd))).mono ?_
  rintro e we ⟨rfl, ho, hx⟩
  have OT := hide ho
  have Ie := hide ((unhide Id).kept hx)
  have Be := hide (below_call (unhide Bd) hx)
  generalize wd.heap.size = zb2 at *
  clear ho hx
  clear Id Bd
  go_wp2_with fail
  refine (eqInt64S_any k 0 we.heap.size 0 we.heap.size (.slice (some ⟨zb, 0, none⟩) k k) (.slice (some ⟨zb2, 0, none⟩) k k) (fun j => ids.getD j 0) (fun _ => false) we hi (prow_of (unhide Ie) k) (prow_of (unhide OT) k)).mono ?_
  rintro e wf ⟨rfl, hx⟩
  have Bf := below_call (unhide Be) hx
  go_wp2_with fail
  go_ret
  exact ⟨rfl, Bf⟩
set_option maxRecDepth 100000 in
theorem lawTurnFor_big (n m k : Nat) (ar br ir : Option Addr) (cr dr er : Nat) (w : World) (hn : n ≤ 9223372036854775807) (hm : m ≤ 9223372036854775807) (hk : k ≤ 9223372036854775807) (h : 1048576 < k ∨ (k ≤ 1048576 ∧ 1048576 < n) ∨ (k ≤ 1048576 ∧ n ≤ 1048576 ∧ (1048576 : Int) - (n : Int) < (m : Int))) :
    Calls Tryd.prog 4 #[.slice ar n cr, .slice br m dr, .slice ir k er] w fun e w' => e = .returned (.bool true) ∧ Below w.heap.size w w' := by
  rcases h with h | ⟨h, h1⟩ | ⟨h, h1, h2⟩
  · have h' : (1048576 : Int) < (k : Int) := by omega
    go_enter Tryd.func4, Tryd.ntmps4
    go_wp2_with fail
    go_ret
    exact ⟨rfl, Below.refl _ _⟩
  · have h' : ¬ (1048576 : Int) < (k : Int) := by omega
    go_enter Tryd.func4, Tryd.ntmps4
    go_wp2_with fail
    refine (szStarS_big ar n cr _ h1 hn).mono ?_
    rintro e w1 ⟨rfl, hw⟩
    rw [hw]
    go_wp2_with fail
    go_ret
    exact ⟨rfl, Below.refl _ _⟩
  · have h' : ¬ (1048576 : Int) < (k : Int) := by omega
    have h0 : ¬ (1048576 : Int) - (n : Int) < 0 := by omega
    go_enter Tryd.func4, Tryd.ntmps4
    go_wp2_with fail
    refine (szStarS_any ar n cr _ h1).mono ?_
    rintro e w1 ⟨rfl, hw⟩
    rw [hw]
    clear hw w1
    go_wp2_with fail
    refine (szVecS_big br m dr (1048576 - (n : Int)) _ (by omega) (by omega) (by omega) hm).mono ?_
    rintro e w1 ⟨rfl, hw⟩
    rw [hw]
    go_wp2_with fail
    go_ret
    exact ⟨rfl, Below.refl _ _⟩
theorem lawTurnFor_all (L : List St) (ar : Option Addr) (len cap : Nat) (hl : L.length = len) (hm : len ≤ maxLen) (S : List D3) (br : Option Addr) (len2 cap2 : Nat) (hl2 : S.length = len2) (hm2 : len2 ≤ maxLen) (ids : List Int) (ir : Option Addr) (len3 cap3 : Nat) (hl3 : ids.length = len3) (hm3 : len3 ≤ maxLen) (w : World) (hS : Stars w ar L len) (hD : Dirs w br S len2) (hI : Nums w ir ids len3) (hE : ∃ p, ErrSky p w) :
    Calls Tryd.prog 4 #[.slice ar len cap, .slice br len2 cap2, .slice ir len3 cap3] w fun e w' => e = .returned (.bool true) ∧ Below w.heap.size w w' := by
  obtain ⟨p, hp⟩ := hE
  subst hl hl2 hl3
  have hm' : maxLen ≤ 9223372036854775807 := by decide +kernel
  by_cases h : ids.length ≤ 1048576 ∧ L.length ≤ 1048576 ∧ (S.length : Int) ≤ 1048576 - (L.length : Int)
  · exact lawTurnFor L S ids ar br ir cap cap2 cap3 p w h.2.1 h.2.2 h.1 hS hD hI hp
  · exact lawTurnFor_big L.length S.length ids.length ar br ir cap cap2 cap3 w (by omega) (by omega) (by omega) (by omega)
end Go.Proofs.YtphfllkkpblbaaaDoor

namespace Go.Proofs.YtphfllkkpblbaaaDoor
open Go.RowKit Go.Deep Go.ChangeShapes
set_option linter.unusedVariables false

def laidSky : List (String × DataW Unit) := [("loop.example/g00577/impl.errNoSky", Rows.laid_loop_example_g00577_impl_errNoSky)]
theorem star_ptr : "*" ++ "errors.errorString" = "*errors.errorString" := by decide
theorem rowE (u : TypeId) (h : Tryd.prog.typeName? 3 u = some "*errors.errorString") : u = 117 :=
  typeName_ptr_named (nm := "errors.errorString") (by rw [star_ptr]; kernel_rfl) (by kernel_rfl) (by decide) u (by rw [star_ptr]; exact h)
theorem errNamed : Tryd.prog.globalNamed "loop.example/g00577/impl.errNoSky" = some 0 := by kernel_rfl
theorem errType : (Tryd.prog.globals[0]?).map (·.type) = some 72 := by kernel_rfl
theorem errVar_of_laid {W : World} (h : laidMetH Tryd.prog laidSky W) : ∃ p, W.var? Tryd.prog "loop.example/g00577/impl.errNoSky" = some #[.iface 117 (.pointer (some p))] := by
  have h' : laidMet Tryd.prog laidSky W := h
  obtain ⟨a, s, hv, _⟩ := laid_sentinel h' errNamed errType Tryd.underlying72 rowE Tryd.underlying117 Tryd.underlying143 rfl rfl Tryd.underlying9 (by kernel_rfl) (by kernel_rfl)
  exact ⟨a, hv⟩
theorem errSky_of_var {W : World} {p : Addr} (hv : W.var? Tryd.prog "loop.example/g00577/impl.errNoSky" = some #[.iface 117 (.pointer (some p))]) : ErrSky p W := by
  unfold ErrSky
  rw [World.var?_cell errNamed hv 0]
  rfl
theorem err_read {H : Type} (enc : TypeId × Value → H) {W : World} {p : Addr} (hv : W.var? Tryd.prog "loop.example/g00577/impl.errNoSky" = some #[.iface 117 (.pointer (some p))]) (sp : Nat → Bool) :
    DataW.TrodVars enc Tryd.prog W sp ["loop.example/g00577/impl.errNoSky"] [tok enc (.iface 117 (.pointer (some p)))] [.cell 0 0] :=
  vars_read1 enc errNamed errType Tryd.underlying72 hv trivial sp
theorem door_met (os : Os) (args : Array Value) : laidMetH Tryd.prog laidSky ((World.doorLaid Tryd.prog 400 os).forCall (fun _ _ => 0) ⟨#[], args, []⟩).memory :=
  laidMet_of_run' 8 (by kernel_rfl) (by kernel_rfl)

theorem stA_range (n : Nat) (f : Nat → St) {i : Nat} (h : i < n) : stA ((List.range n).map f) i = f i := by
  unfold stA
  rw [List.getD_eq_getElem?_getD, List.getElem?_map, List.getElem?_range h]
  rfl
theorem cellsS : Tryd.prog.cellsOf 52 = 4 := by kernel_rfl
theorem cellsV3 : Tryd.prog.cellsOf 50 = 3 := by kernel_rfl
theorem cellsI : Tryd.prog.cellsOf 2 = 1 := by kernel_rfl
theorem spot_none {w : World} {x : Addr} {v : Value} (h : w.cell? x = some v) : x.spot = none := by
  cases hs : x.spot with
  | none => rfl
  | some k =>
    exfalso
    unfold World.cell? at h
    rw [hs] at h
    revert h
    split <;> simp
set_option maxRecDepth 100000 in
theorem open_stars {H : Type} {enc : TypeId × Value → H} {w : World} {fuel : Nat} {a : Option Addr} {len cap : Nat} {x : DataW H × List MemPlace}
    (h : DataW.trod enc Tryd.prog w 0 (fun _ => true) true fuel 22 [.slice a len cap] = some x) : ∃ L : List St, L.length = len ∧ Stars w a L len ∧ len ≤ maxLen := by
  rcases open_slice Tryd.underlying22 h with ⟨hcs, _⟩ | ⟨a', l, c, m, n, D, Pl, hcs, _, hl, hm, hmm, _, hel⟩
  · simp at hcs
    obtain ⟨rfl, rfl, rfl⟩ := hcs
    exact ⟨[], rfl, .inl rfl, Nat.zero_le _⟩
  · simp at hcs
    obtain ⟨rfl, rfl, rfl⟩ := hcs
    have hlm : len ≤ m := by rw [hmm]; simp; exact hl
    have each : ∀ i, i < len → ∃ s : St, w.cell? (a'.add (i * 4)) = some (.int .i64 s.1) ∧ w.cell? (a'.add (i * 4 + 1)) = some (.int .i64 s.2.1) ∧ w.cell? (a'.add (i * 4 + 2)) = some (.int .i64 s.2.2.1) ∧ w.cell? (a'.add (i * 4 + 3)) = some (.int .i64 s.2.2.2) := by
      intro i hi
      obtain ⟨cs, h1, h2⟩ := hel i (by omega)
      rw [cellsS] at h1
      obtain ⟨_, hlen, hcell⟩ := World.cells?_some h1
      obtain ⟨y0, y1, n1, _, _, g0, g1⟩ := trod_struct2 Tryd.underlying52 h2
      match cs, hlen with
      | [v0, v1, v2, v3], _ =>
        have g0' : DataW.trod enc Tryd.prog w 0 (fun _ => true) true n1 2 (([v0, v1, v2, v3].drop 0).take (Tryd.prog.cellsOf 2)) = some y0 := g0
        have g1' : DataW.trod enc Tryd.prog w 0 (fun _ => true) true n1 50 (([v0, v1, v2, v3].drop 1).take (Tryd.prog.cellsOf 50)) = some y1 := g1
        rw [cellsI] at g0'
        rw [cellsV3] at g1'
        obtain ⟨z0, z1, z2, n2, _, _, k0, k1, k2⟩ := trod_struct3 Tryd.underlying50 g1'
        have k0' : DataW.trod enc Tryd.prog w 0 (fun _ => true) true n2 2 (([v1, v2, v3].drop 0).take (Tryd.prog.cellsOf 2)) = some z0 := k0
        have k1' : DataW.trod enc Tryd.prog w 0 (fun _ => true) true n2 2 (([v1, v2, v3].drop 1).take (Tryd.prog.cellsOf 2)) = some z1 := k1
        have k2' : DataW.trod enc Tryd.prog w 0 (fun _ => true) true n2 2 (([v1, v2, v3].drop 2).take (Tryd.prog.cellsOf 2)) = some z2 := k2
        rw [cellsI] at k0' k1' k2'
        obtain ⟨i0, e0, _, _⟩ := DataW.trod_int Tryd.underlying2 g0'
        obtain ⟨i1, e1, _, _⟩ := DataW.trod_int Tryd.underlying2 k0'
        obtain ⟨i2, e2, _, _⟩ := DataW.trod_int Tryd.underlying2 k1'
        obtain ⟨i3, e3, _, _⟩ := DataW.trod_int Tryd.underlying2 k2'
        simp at e0 e1 e2 e3
        subst e0 e1 e2 e3
        have c0 := hcell 0 (by omega)
        have c1 := hcell 1 (by omega)
        have c2 := hcell 2 (by omega)
        have c3 := hcell 3 (by omega)
        rw [add_add] at c0 c1 c2 c3
        exact ⟨(i0, i1, i2, i3), by simpa using c0, by simpa using c1, by simpa using c2, by simpa using c3⟩
    obtain ⟨f, hf⟩ := choose_lt each
    refine ⟨(List.range len).map f, by simp, ?_, by omega⟩
    rcases Nat.eq_zero_or_pos len with h0 | h0
    · exact .inl h0
    · have hs : (a'.add (0 * 4)).spot = none := spot_none (hf 0 h0).1
      have hb : (a'.add (0 * 4)).block < w.heap.size := World.block_lt_of_cell? w _ (hf 0 h0).1
      obtain ⟨bx, ox, sx⟩ := a'
      have hs' : sx = none := by simpa [Addr.add] using hs
      subst hs'
      have hA : ∀ j, (⟨bx, ox, none⟩ : Addr).add j = ⟨bx, ox + j, none⟩ := fun j => by unfold Addr.add; split <;> simp_all
      refine .inr ⟨bx, ox, rfl, by simpa [Addr.add] using hb, fun i hi => ?_⟩
      obtain ⟨c0, c1, c2, c3⟩ := hf i hi
      rw [hA] at c0 c1 c2 c3
      rw [stA_range len f hi]
      exact ⟨c0, by rw [Nat.add_assoc]; exact c1, by rw [Nat.add_assoc]; exact c2, by rw [Nat.add_assoc]; exact c3⟩
end Go.Proofs.YtphfllkkpblbaaaDoor

namespace Go.Proofs.YtphfllkkpblbaaaDoor
open Go.RowKit Go.Deep Go.ChangeShapes
set_option linter.unusedVariables false

theorem vA_range (n : Nat) (f : Nat → D3) {i : Nat} (h : i < n) : vA ((List.range n).map f) i = f i := by
  unfold vA
  rw [List.getD_eq_getElem?_getD, List.getElem?_map, List.getElem?_range h]
  rfl
theorem cellsDV : Tryd.prog.cellsOf 50 = 3 := by kernel_rfl
theorem cellsDI : Tryd.prog.cellsOf 2 = 1 := by kernel_rfl
theorem spot_noneD {w : World} {x : Addr} {v : Value} (h : w.cell? x = some v) : x.spot = none := by
  cases hs : x.spot with
  | none => rfl
  | some k =>
    exfalso
    unfold World.cell? at h
    rw [hs] at h
    revert h
    split <;> simp
set_option maxRecDepth 100000 in
theorem open_dirs {H : Type} {enc : TypeId × Value → H} {w : World} {fuel : Nat} {a : Option Addr} {len cap : Nat} {x : DataW H × List MemPlace}
    (h : DataW.trod enc Tryd.prog w 0 (fun _ => true) true fuel 23 [.slice a len cap] = some x) : ∃ L : List D3, L.length = len ∧ Dirs w a L len ∧ len ≤ maxLen := by
  rcases open_slice Tryd.underlying23 h with ⟨hcs, _⟩ | ⟨a', l, c, m, n, D, Pl, hcs, _, hl, hm, hmm, _, hel⟩
  · simp at hcs
    obtain ⟨rfl, rfl, rfl⟩ := hcs
    exact ⟨[], rfl, .inl rfl, Nat.zero_le _⟩
  · simp at hcs
    obtain ⟨rfl, rfl, rfl⟩ := hcs
    have hlm : len ≤ m := by rw [hmm]; simp; exact hl
    have each : ∀ i, i < len → ∃ s : D3, w.cell? (a'.add (i * 3)) = some (.int .i64 s.1) ∧ w.cell? (a'.add (i * 3 + 1)) = some (.int .i64 s.2.1) ∧ w.cell? (a'.add (i * 3 + 2)) = some (.int .i64 s.2.2) := by
      intro i hi
      obtain ⟨cs, h1, h2⟩ := hel i (by omega)
      rw [cellsDV] at h1
      obtain ⟨_, hlen, hcell⟩ := World.cells?_some h1
      match cs, hlen with
      | [v1, v2, v3], _ =>
        obtain ⟨z0, z1, z2, n2, _, _, k0, k1, k2⟩ := trod_struct3 Tryd.underlying50 h2
        have k0' : DataW.trod enc Tryd.prog w 0 (fun _ => true) true n2 2 (([v1, v2, v3].drop 0).take (Tryd.prog.cellsOf 2)) = some z0 := k0
        have k1' : DataW.trod enc Tryd.prog w 0 (fun _ => true) true n2 2 (([v1, v2, v3].drop 1).take (Tryd.prog.cellsOf 2)) = some z1 := k1
        have k2' : DataW.trod enc Tryd.prog w 0 (fun _ => true) true n2 2 (([v1, v2, v3].drop 2).take (Tryd.prog.cellsOf 2)) = some z2 := k2
        rw [cellsDI] at k0' k1' k2'
        obtain ⟨i1, e1, _, _⟩ := DataW.trod_int Tryd.underlying2 k0'
        obtain ⟨i2, e2, _, _⟩ := DataW.trod_int Tryd.underlying2 k1'
        obtain ⟨i3, e3, _, _⟩ := DataW.trod_int Tryd.underlying2 k2'
        simp at e1 e2 e3
        subst e1 e2 e3
        have c0 := hcell 0 (by omega)
        have c1 := hcell 1 (by omega)
        have c2 := hcell 2 (by omega)
        rw [add_add] at c0 c1 c2
        exact ⟨(i1, i2, i3), by simpa using c0, by simpa using c1, by simpa using c2⟩
    obtain ⟨f, hf⟩ := choose_lt each
    refine ⟨(List.range len).map f, by simp, ?_, by omega⟩
    rcases Nat.eq_zero_or_pos len with h0 | h0
    · exact .inl h0
    · have hs : (a'.add (0 * 3)).spot = none := spot_noneD (hf 0 h0).1
      have hb : (a'.add (0 * 3)).block < w.heap.size := World.block_lt_of_cell? w _ (hf 0 h0).1
      obtain ⟨bx, ox, sx⟩ := a'
      have hs' : sx = none := by simpa [Addr.add] using hs
      subst hs'
      have hA : ∀ j, (⟨bx, ox, none⟩ : Addr).add j = ⟨bx, ox + j, none⟩ := fun j => by unfold Addr.add; split <;> simp_all
      refine .inr ⟨bx, ox, rfl, by simpa [Addr.add] using hb, fun i hi => ?_⟩
      obtain ⟨c0, c1, c2⟩ := hf i hi
      rw [hA] at c0 c1 c2
      rw [vA_range len f hi]
      exact ⟨c0, by rw [Nat.add_assoc]; exact c1, by rw [Nat.add_assoc]; exact c2⟩
end Go.Proofs.YtphfllkkpblbaaaDoor

namespace Go.Proofs.YtphfllkkpblbaaaDoor
open Go.RowKit Go.Deep Go.ChangeShapes
set_option linter.unusedVariables false

theorem nums_range (n : Nat) (f : Nat → Int) {i : Nat} (h : i < n) : ((List.range n).map f).getD i 0 = f i := by
  rw [List.getD_eq_getElem?_getD, List.getElem?_map, List.getElem?_range h]
  rfl
set_option maxRecDepth 100000 in
theorem open_nums {H : Type} {enc : TypeId × Value → H} {w : World} {fuel : Nat} {a : Option Addr} {len cap : Nat} {x : DataW H × List MemPlace}
    (h : DataW.trod enc Tryd.prog w 0 (fun _ => true) true fuel 24 [.slice a len cap] = some x) : ∃ L : List Int, L.length = len ∧ Nums w a L len ∧ len ≤ maxLen := by
  rcases open_slice Tryd.underlying24 h with ⟨hcs, _⟩ | ⟨a', l, c, m, n, D, Pl, hcs, _, hl, hm, hmm, _, hel⟩
  · simp at hcs
    obtain ⟨rfl, rfl, rfl⟩ := hcs
    exact ⟨[], rfl, .inl rfl, Nat.zero_le _⟩
  · simp at hcs
    obtain ⟨rfl, rfl, rfl⟩ := hcs
    have hlm : len ≤ m := by rw [hmm]; simp; exact hl
    have each : ∀ i, i < len → ∃ z : Int, w.cell? (a'.add i) = some (.int .i64 z) := by
      intro i hi
      obtain ⟨cs, h1, h2⟩ := hel i (by omega)
      rw [cellsDI] at h1
      obtain ⟨_, hlen, hcell⟩ := World.cells?_some h1
      match cs, hlen with
      | [v1], _ =>
        obtain ⟨i1, e1, _, _⟩ := DataW.trod_int Tryd.underlying2 h2
        simp at e1
        subst e1
        have c0 := hcell 0 (by omega)
        rw [add_add] at c0
        exact ⟨i1, by simpa using c0⟩
    obtain ⟨f, hf⟩ := choose_lt each
    refine ⟨(List.range len).map f, by simp, ?_, by omega⟩
    rcases Nat.eq_zero_or_pos len with h0 | h0
    · exact .inl h0
    · have hs : (a'.add 0).spot = none := spot_noneD (hf 0 h0)
      have hb : (a'.add 0).block < w.heap.size := World.block_lt_of_cell? w _ (hf 0 h0)
      obtain ⟨bx, ox, sx⟩ := a'
      have hs' : sx = none := by simpa [Addr.add] using hs
      subst hs'
      have hA : ∀ j, (⟨bx, ox, none⟩ : Addr).add j = ⟨bx, ox + j, none⟩ := fun j => by unfold Addr.add; split <;> simp_all
      refine .inr ⟨bx, ox, rfl, by simpa [Addr.add] using hb, fun i hi => ?_⟩
      have c0 := hf i hi
      rw [hA] at c0
      rw [nums_range len f hi]
      exact c0
end Go.Proofs.YtphfllkkpblbaaaDoor
