/- The law on Identify, walked. -/
import Derived.Test.YtjdehbpgdplolaaDoorIeV
import Derived.Deep.RegionHeld
import Derived.Deep.DeepCutAuto
namespace Go.Proofs.YtjdehbpgdplolaaDoor
open Go.RowKit Go.Sort
set_option linter.unusedVariables false

theorem Blk.apartI {w w' : World} {b lo hi : Nat} {cs : List Value} {t : TypeId} (h : Blk w b cs t) (ha : Apart lo hi w w') (hd : b < lo ∨ hi ≤ b) : Blk w' b cs t := (ha.block b h.lt hd).trans h
theorem OwnD.apartI {w w' : World} {lo hi b n k : Nat} {L : List D3} (h : OwnD w b n L k) (ha : Apart lo hi w w') (hb : b < lo ∨ hi ≤ b) : OwnD w' b n L k := by
  have e := ha.block b h.lt hb
  obtain ⟨cur, hc, r⟩ := h
  exact ⟨cur, by rw [e]; exact hc, r⟩
theorem belowI {B lo hi : Nat} {w w1 w2 : World} (h : Below B w w1) (ha : Apart lo hi w1 w2) (hB : B ≤ lo) (hs : B ≤ w1.heap.size) : Below B w w2 :=
  h.trans ⟨ha.os, ha.tape, ha.output, ha.size, fun k hk => ha.block k (by omega) (.inl (by omega))⟩
theorem ownS_addr {w : World} {b : Nat} (h : b < w.heap.size) : ∀ y, (some (⟨b, 0, none⟩ : Addr)) = some y → y.block < w.heap.size := by
  intro y e
  rw [← Option.some.inj e]
  exact h
set_option maxHeartbeats 16000000 in
set_option maxRecDepth 100000 in
theorem lawIdentify (L : List St) (S : List D3) (ar br : Option Addr) (cr dr : Nat) (p : Addr) (w : World) (hn : L.length ≤ 1048576) (hm : (S.length : Int) ≤ 1048576 - (L.length : Int)) (hS : Stars w ar L L.length) (hD : Dirs w br S S.length) (hE : ErrSky p w) :
    Calls Tryd.prog 3 #[.slice ar L.length cr, .slice br S.length dr] w fun e w' => e = .returned (.bool true) ∧ Below w.heap.size w w' := by
  have HS := hide hS
  have HD := hide hD
  have HE := hide hE
  have hm2 : S.length ≤ 1048576 := by omega
  clear hS hD hE
  have hm8 : 1048576 ≤ maxLen := by decide +kernel
  have cT := hide (fun W hW => toStarS_any L ar cr W hn hW)
  have cD := hide (fun W hW => toVecS_any S S.length br dr W hm2 hW)
  obtain ⟨k, cnt, code, fI, hk, cS, cR⟩ : ∃ (k : Nat) (cnt code : Int) (fI : Nat → Int), k ≤ 6 ∧ Hid (∀ (W : World) (q q' : Nat), q < W.heap.size → q' < W.heap.size → Stars W (some ⟨q, 0, none⟩) L L.length → Dirs W (some ⟨q', 0, none⟩) S S.length → Calls Tryd.prog 6 #[.slice (some ⟨q, 0, none⟩) L.length L.length, .slice (some ⟨q', 0, none⟩) S.length S.length] W fun e w' => ∃ a kk, e = .returned (.agg #[.slice a k kk, .int .i64 cnt, .int .i64 code]) ∧ PRow w' 2 1 W.heap.size w'.heap.size k (.slice a k kk) (valInt64S fI (fun _ => false)) ∧ Below W.heap.size W w')
      ∧ Hid (∀ (W : World) (q q' : Nat), q < W.heap.size → q' < W.heap.size → Stars W (some ⟨q, 0, none⟩) L L.length → Dirs W (some ⟨q', 0, none⟩) S S.length → ErrSky p W → Calls Tryd.prog 9 #[.slice (some ⟨q, 0, none⟩) L.length L.length, .slice (some ⟨q', 0, none⟩) S.length S.length] W fun e w' => ∃ a kk, e = .returned (.agg #[.slice a k kk, .int .i64 cnt, .int .i64 code]) ∧ PRow w' 2 1 W.heap.size w'.heap.size k (.slice a k kk) (valInt64S fI (fun _ => false)) ∧ Below W.heap.size W w') := by
    refine ⟨(identL L S).length, identC L S, identK L S, fun j => (identL L S).getD j 0, identL_len L S, hide (fun W q q' g1 g2 h1 h2 => (specIdentify_any L S _ _ _ _ W hn hm2 (Nat.le_refl _) (by omega) h1 h2 (ownS_addr g1) (ownS_addr g2)).mono fun e w' h => ?_), hide (fun W q q' g1 g2 h1 h2 h3 => (identify_any L S _ _ _ _ p W hn hm2 (Nat.le_refl _) (by omega) (Nat.le_refl _) (by omega) h1 h2 (ownS_addr g1) (ownS_addr g2) h3).mono fun e w' h => ?_)⟩
    · obtain ⟨a, kk, he, hp⟩ := prow_outI h.1
      exact ⟨a, kk, he, hp, h.2⟩
    · obtain ⟨a, kk, he, hp⟩ := prow_outP h.1
      exact ⟨a, kk, he, hp, h.2⟩
  generalize S.length = m at *
  generalize L.length = n at *
  have h0 : ¬ (1048576 : Int) - (n : Int) < 0 := by omega
  have h1 : ¬ (1048576 : Int) - (n : Int) - (m : Int) < 0 := by omega
  go_enter Tryd.func3, Tryd.ntmps3
  go_wp2_with fail
  refine (szStarS_any ar n cr _ hn).mono ?_
  rintro e w1 ⟨rfl, hw⟩
  rw [hw]
  clear hw w1
  go_wp2_with fail
  refine (szVecS_any br m dr (1048576 - (n : Int)) _ (by omega) (by omega) (by omega)).mono ?_
  rintro e w1 ⟨rfl, hw⟩
  rw [hw]
  clear hw w1
  go_wp2_with fail
  refine (unhide cT _ (unhide HS)).mono ?_
  rintro e v1 ⟨rfl, ho, hx⟩
  have OS := hide ho
  have V1 := hide hx
  have hbw : w.heap.size < v1.heap.size := ho.lt
  clear ho hx
  go_wp2_with fail
  refine (unhide cD _ ((unhide HD).kept (unhide V1))).mono ?_
  rintro e v2 ⟨rfl, ho, hx⟩
  have OD := hide ho
  have OS2 := hide ((unhide OS).kept hx)
  have V2 := hide (below_call (unhide V1) hx)
  clear ho hx OS V1
  go_wp2_with fail
  refine (unhide cS _ _ _ (unhide OS2).lt (unhide OD).lt (unhide OS2).stars (unhide OD).dirs).mono ?_
  rintro e wc ⟨a4, k4, rfl, hp, hx⟩
  have Z := below1 wc (.cells #[.slice a4 k k4, .int .i64 cnt, .int .i64 code] 28)
  have S1 := hide (hp.kept Z)
  have W1 := hide (blk_new wc [.slice a4 k k4, .int .i64 cnt, .int .i64 code] 28)
  have B1 := hide (below_call (below_call (unhide V2) hx) Z)
  have l1 := Z.size
  clear hx hp OS2 OD V2 Z
  go_wp2_with fail
  generalize wc.alloc (.cells #[.slice a4 k k4, .int .i64 cnt, .int .i64 code] 28) = wc1 at B1 W1 S1 l1 ⊢
  have lw : wc.heap.size < wc1.heap.size := (unhide W1).lt
  generalize wc.heap.size = wb at *
  clear wc
  refine (unhide cT _ ((unhide HS).kept (unhide B1))).mono ?_
  rintro e w3 ⟨rfl, ho, hx⟩
  have O3 := hide ho
  have S3 := hide ((unhide S1).kept hx)
  have W3 := hide ((unhide W1).kept hx)
  have B3 := hide (below_call (unhide B1) hx)
  have l3 : wc1.heap.size < w3.heap.size := ho.lt
  have l3w : w.heap.size ≤ wc1.heap.size := (unhide B1).size
  generalize wc1.heap.size = xb at *
  clear ho hx
  clear W1 B1 S1
  go_wp2_with fail
  refine (unhide cD _ ((unhide HD).kept (unhide B3))).mono ?_
  rintro e w4 ⟨rfl, ho, hx⟩
  have D4 := hide ho
  have S4 := hide ((unhide S3).kept hx)
  have W4 := hide ((unhide W3).kept hx)
  have O4 := hide ((unhide O3).kept hx)
  have B4 := hide (below_call (unhide B3) hx)
  have l4 : w3.heap.size < w4.heap.size := ho.lt
  generalize w3.heap.size = yb at *
  clear ho hx
  clear W3 O3 B3 S3
  go_wp2_with fail
  refine (unhide cR _ _ _ (unhide O4).lt (unhide D4).lt (unhide O4).stars (unhide D4).dirs ((unhide HE).kept (unhide B4))).mono ?_
  rintro e w6 ⟨a7, k7, rfl, hp, hx⟩
  have Z := below1 w6 (.cells #[.slice a7 k k7, .int .i64 cnt, .int .i64 code] 28)
  have G7 := hide (hp.kept Z)
  have Q7 := hide (blk_new w6 [.slice a7 k k7, .int .i64 cnt, .int .i64 code] 28)
  have S7 := hide (((unhide S4).kept hx).kept Z)
  have W7 := hide (((unhide W4).kept hx).kept Z)
  have O7 := hide (((unhide O4).kept hx).kept Z)
  have D7 := hide (((unhide D4).kept hx).kept Z)
  have B7 := hide (below_call (below_call (unhide B4) hx) Z)
  have l6 := hx.size
  clear hx hp Z
  clear W4 O4 D4 B4 S4
  generalize w4.heap.size = lo at *
  have p0 := (unhide W7).cell 0 _ rfl
  have p1 := (unhide W7).cell 1 _ rfl
  have p2 := (unhide W7).cell 2 _ rfl
  have q0 := (unhide Q7).cell 0 _ rfl
  have q1 := (unhide Q7).cell 1 _ rfl
  have q2 := (unhide Q7).cell 2 _ rfl
  go_wp2_with fail
  clear p0 p1 p2 q0 q1 q2
  generalize w6.alloc (.cells #[.slice a7 k k7, .int .i64 cnt, .int .i64 code] 28) = w7 at G7 Q7 S7 W7 O7 D7 B7 ⊢
  have l7 : w6.heap.size < w7.heap.size := (unhide Q7).lt
  generalize w6.heap.size = hi at *
  clear w6
  refine (eqIdentOut_any k _ _ _ _ _ _ cnt code fI _ _ (by omega) (unhide G7) (unhide S7)).mono ?_
  rintro e w8 ⟨rfl, hx⟩
  have l8 := hx.size
  have S8 := hide ((unhide S7).kept hx)
  have W8 := hide ((unhide W7).kept hx)
  have O8 := hide ((unhide O7).kept hx)
  have D8 := hide ((unhide D7).kept hx)
  have G8 := hide ((unhide G7).kept hx)
  have Q8 := hide ((unhide Q7).kept hx)
  have B8 := hide (below_call (unhide B7) hx)
  clear hx
  clear S7 W7 O7 D7 G7 Q7 B7
  go_wp2_with fail
  refine (unhide cT _ ((unhide HS).kept (unhide B8))).mono ?_
  rintro e w9 ⟨rfl, ho, hx⟩
  have OT := hide ho
  have l9 := hx.size
  have S9 := hide ((unhide S8).kept hx)
  have W9 := hide ((unhide W8).kept hx)
  have O9 := hide ((unhide O8).kept hx)
  have D9 := hide ((unhide D8).kept hx)
  have G9 := hide ((unhide G8).kept hx)
  have Q9 := hide ((unhide Q8).kept hx)
  have B9 := hide (below_call (unhide B8) hx)
  generalize w8.heap.size = xb2 at *
  clear ho hx
  clear S8 W8 O8 D8 G8 Q8 B8
  go_wp2_with fail
  refine (eqStarS_same L n (some ⟨xb, 0, none⟩) (some ⟨xb2, 0, none⟩) n n _ hn (unhide O9).stars (unhide OT).stars).mono ?_
  rintro e wa ⟨rfl, hx⟩
  have la := hx.size
  have Sa := hide ((unhide S9).kept hx)
  have Wa := hide ((unhide W9).kept hx)
  have Oa := hide ((unhide O9).kept hx)
  have Da := hide ((unhide D9).kept hx)
  have Ga := hide ((unhide G9).kept hx)
  have Qa := hide ((unhide Q9).kept hx)
  have Ba := hide (below_call (unhide B9) hx)
  clear hx OT
  clear S9 W9 O9 D9 G9 Q9 B9
  go_wp2_with fail
  refine (unhide cD _ ((unhide HD).kept (unhide Ba))).mono ?_
  rintro e wb' ⟨rfl, ho, hx⟩
  have OT := hide ho
  have lb := hx.size
  have Sb := hide ((unhide Sa).kept hx)
  have Wb := hide ((unhide Wa).kept hx)
  have Ob := hide ((unhide Oa).kept hx)
  have Db := hide ((unhide Da).kept hx)
  have Gb := hide ((unhide Ga).kept hx)
  have Qb := hide ((unhide Qa).kept hx)
  have Bb := hide (below_call (unhide Ba) hx)
  generalize wa.heap.size = yb2 at *
  clear ho hx
  clear Sa Wa Oa Da Ga Qa Ba
  go_wp2_with fail
  refine (eqVecS_same S m (some ⟨yb, 0, none⟩) (some ⟨yb2, 0, none⟩) m m _ hm2 (unhide Db).dirs (unhide OT).dirs).mono ?_
  rintro e wc ⟨rfl, hx⟩
  have lc := hx.size
  have Sc := hide ((unhide Sb).kept hx)
  have Wc := hide ((unhide Wb).kept hx)
  have Oc := hide ((unhide Ob).kept hx)
  have Dc := hide ((unhide Db).kept hx)
  have Gc := hide ((unhide Gb).kept hx)
  have Qc := hide ((unhide Qb).kept hx)
  have Bc := hide (below_call (unhide Bb) hx)
  clear hx OT
  clear Sb Wb Ob Db Gb Qb Bb
  go_wp2_with fail
  obtain ⟨fs, hfs⟩ := rowOfStars (unhide Oc)
  refine (markStarS_any n n xb fs _ hn hfs).mono ?_
  rintro e wd ⟨rfl, _, hg⟩
  have ha := Apart.of (lo := xb) (hi := xb + 1) hg (Nat.le_refl _) (by omega)
  have ld := ha.size
  have Gd := hide ((unhide Gc).apart ha (by omega))
  have Qd := hide ((unhide Qc).apartI ha (by omega))
  have Dd := hide ((unhide Dc).apartI ha (by omega))
  have Sd := hide ((unhide Sc).apart ha (by omega))
  have Wd := hide ((unhide Wc).apartI ha (by omega))
  have Bd := hide (belowI (unhide Bc) ha (by omega) (by omega))
  clear hg ha hfs
  clear Sc Wc Oc Dc Gc Qc Bc
  go_wp2_with fail
  obtain ⟨fv, hfv⟩ := rowOfDirs (unhide Dd)
  refine (markVecS_from m m yb (1 + (n : Int) * 4) fv _ hm2 (by omega) (by omega) hfv).mono ?_
  rintro e we ⟨rfl, hg⟩
  have ha := Apart.of (lo := yb) (hi := yb + 1) hg (Nat.le_refl _) (by omega)
  have le := ha.size
  have Ge := hide ((unhide Gd).apart ha (by omega))
  have Qe := hide ((unhide Qd).apartI ha (by omega))
  have Se := hide ((unhide Sd).apart ha (by omega))
  have We := hide ((unhide Wd).apartI ha (by omega))
  have Be := hide (belowI (unhide Bd) ha (by omega) (by omega))
  clear hg ha hfv
  clear Sd Wd Dd Gd Qd Bd
  have hk0 : ¬ (1 + (n : Int) * 4 + (m : Int) * 3) < 0 := by omega
  have hk1 : decide ((1 + (n : Int) * 4 + (m : Int) * 3) < 0) = false := by simp; omega
  have p0 := (unhide We).cell 0 _ rfl
  have p1 := (unhide We).cell 1 _ rfl
  have p2 := (unhide We).cell 2 _ rfl
  have q0 := (unhide Qe).cell 0 _ rfl
  have q1 := (unhide Qe).cell 1 _ rfl
  have q2 := (unhide Qe).cell 2 _ rfl
  go_wp2_with fail
  clear p0 p1 p2 q0 q1 q2
  refine (eqIdentOut_any k _ _ _ _ _ _ cnt code fI _ _ (by omega) (unhide Ge) (unhide Se)).mono ?_
  rintro e wf ⟨rfl, hx⟩
  have lf := hx.size
  have Sf := hide ((unhide Se).kept hx)
  have Wf := hide ((unhide We).kept hx)
  have Gf := hide ((unhide Ge).kept hx)
  have Qf := hide ((unhide Qe).kept hx)
  have Bf := hide (below_call (unhide Be) hx)
  clear hx
  clear Se We Ge Qe Be
  have q0 := (unhide Qf).cell 0 _ rfl
  have q1 := (unhide Qf).cell 1 _ rfl
  have q2 := (unhide Qf).cell 2 _ rfl
  go_wp2_with fail
  clear q0 q1 q2
  refine (markIdentOut_any k lo hi _ cnt code _ _ (by omega) (by omega) (unhide Gf)).mono ?_
  rintro e wg ⟨rfl, hp, wz, hx, ha⟩
  have lz := hx.size
  have lg := ha.size
  have Gg := hide hp
  have Qg := hide (((unhide Qf).kept hx).apartI ha (by omega))
  have Sg := hide (((unhide Sf).kept hx).apart ha (by omega))
  have Wg := hide (((unhide Wf).kept hx).apartI ha (by omega))
  have Bg := hide (belowI (below_call (unhide Bf) hx) ha (by omega) (by omega))
  clear hp hx ha
  clear Sf Wf Gf Qf Bf
  obtain ⟨K, hK⟩ : ∃ K : Int, K = 1 + (k : Int) := ⟨_, rfl⟩
  have hK0 : ¬ K < 0 := by omega
  have cH : Hid (∀ W : World, PRow W 2 1 lo hi k (.slice a7 k k7) markInt64SV → Calls Tryd.prog 16 #[.agg #[.slice a7 k k7, .int .i64 cnt, .int .i64 code], .int .i64 1] W fun e w' => e = .returned (.int .i64 K) ∧ Below W.heap.size W w') := hide (fun W h => by rw [hK]; exact heldIdentOut_any k lo hi _ cnt code W (by omega) h)
  rw [← hK]
  clear hK
  have q0 := (unhide Qg).cell 0 _ rfl
  have q1 := (unhide Qg).cell 1 _ rfl
  have q2 := (unhide Qg).cell 2 _ rfl
  go_wp2_with fail
  clear q0 q1 q2
  refine (unhide cH _ (unhide Gg)).mono ?_
  rintro e wh ⟨rfl, hx⟩
  have Sh := hide ((unhide Sg).kept hx)
  have Wh := hide ((unhide Wg).kept hx)
  have Gh := hide ((unhide Gg).kept hx)
  have Qh := hide ((unhide Qg).kept hx)
  have Bh := hide (below_call (unhide Bg) hx)
  clear hx
  clear Sg Wg Gg Qg Bg
  go_wp2_with fail
  refine (unhide cT _ ((unhide HS).kept (unhide Bh))).mono ?_
  rintro e wi ⟨rfl, ho, hx⟩
  have Oi := hide ho
  have Si := hide ((unhide Sh).kept hx)
  have Wi := hide ((unhide Wh).kept hx)
  have Gi := hide ((unhide Gh).kept hx)
  have Qi := hide ((unhide Qh).kept hx)
  have Bi := hide (below_call (unhide Bh) hx)
  clear ho hx
  clear Sh Wh Gh Qh Bh
  go_wp2_with fail
  refine (unhide cD _ ((unhide HD).kept (unhide Bi))).mono ?_
  rintro e wj ⟨rfl, ho, hx⟩
  have Dj := hide ho
  have Oj := hide ((unhide Oi).kept hx)
  have Sj := hide ((unhide Si).kept hx)
  have Wj := hide ((unhide Wi).kept hx)
  have Gj := hide ((unhide Gi).kept hx)
  have Qj := hide ((unhide Qi).kept hx)
  have Bj := hide (below_call (unhide Bi) hx)
  clear ho hx Oi
  clear Si Wi Gi Qi Bi
  go_wp2_with fail
  refine (unhide cR _ _ _ (unhide Oj).lt (unhide Dj).lt (unhide Oj).stars (unhide Dj).dirs ((unhide HE).kept (unhide Bj))).mono ?_
  rintro e wk ⟨a9, k9, rfl, hp, hx⟩
  have Z := below1 wk (.cells #[.slice a9 k k9, .int .i64 cnt, .int .i64 code] 28)
  have Hl := hide (hp.kept Z)
  have Nl := hide (blk_new wk [.slice a9 k k9, .int .i64 cnt, .int .i64 code] 28)
  have Sl := hide (((unhide Sj).kept hx).kept Z)
  have Wl := hide (((unhide Wj).kept hx).kept Z)
  have Gl := hide (((unhide Gj).kept hx).kept Z)
  have Ql := hide (((unhide Qj).kept hx).kept Z)
  have Bl := hide (below_call (below_call (unhide Bj) hx) Z)
  clear hx hp Z
  clear Sj Wj Gj Qj Bj Oj Dj
  have p0 := (unhide Wl).cell 0 _ rfl
  have p1 := (unhide Wl).cell 1 _ rfl
  have p2 := (unhide Wl).cell 2 _ rfl
  have q0 := (unhide Nl).cell 0 _ rfl
  have q1 := (unhide Nl).cell 1 _ rfl
  have q2 := (unhide Nl).cell 2 _ rfl
  go_wp2_with fail
  clear p0 p1 p2 q0 q1 q2
  generalize wk.alloc (.cells #[.slice a9 k k9, .int .i64 cnt, .int .i64 code] 28) = wl at Hl Nl Sl Wl Gl Ql Bl ⊢
  clear Nl
  refine (eqIdentOut_any k _ _ _ _ _ _ cnt code fI _ _ (by omega) (unhide Hl) (unhide Sl)).mono ?_
  rintro e wm ⟨rfl, hx⟩
  have Gm := hide ((unhide Gl).kept hx)
  have Qm := hide ((unhide Ql).kept hx)
  have Bm := hide (below_call (unhide Bl) hx)
  clear hx Hl Sl Wl Gl Ql Bl
  have q0 := (unhide Qm).cell 0 _ rfl
  have q1 := (unhide Qm).cell 1 _ rfl
  have q2 := (unhide Qm).cell 2 _ rfl
  go_wp2_with fail
  clear q0 q1 q2
  refine (unhide cH _ (unhide Gm)).mono ?_
  rintro e wo ⟨rfl, hx⟩
  have Bo := hide (below_call (unhide Bm) hx)
  clear hx
  go_wp2_with fail
  go_ret
  exact ⟨rfl, unhide Bo⟩
set_option maxRecDepth 100000 in
theorem lawIdentify_big (n m : Nat) (ar br : Option Addr) (cr dr : Nat) (w : World) (hn : n ≤ 9223372036854775807) (hm : m ≤ 9223372036854775807) (h : 1048576 < n ∨ (n ≤ 1048576 ∧ (1048576 : Int) - (n : Int) < (m : Int))) :
    Calls Tryd.prog 3 #[.slice ar n cr, .slice br m dr] w fun e w' => e = .returned (.bool true) ∧ Below w.heap.size w w' := by
  rcases h with h1 | ⟨h1, h2⟩
  · go_enter Tryd.func3, Tryd.ntmps3
    go_wp2_with fail
    refine (szStarS_big ar n cr _ h1 hn).mono ?_
    rintro e w1 ⟨rfl, hw⟩
    rw [hw]
    go_wp2_with fail
    go_ret
    exact ⟨rfl, Below.refl _ _⟩
  · have h0 : ¬ (1048576 : Int) - (n : Int) < 0 := by omega
    go_enter Tryd.func3, Tryd.ntmps3
    go_wp2_with fail
    refine (szStarS_any ar n cr _ h1).mono ?_
    rintro e w1 ⟨rfl, hw⟩
    rw [hw]
    clear hw w1
    go_wp2_with fail
    refine (szVecS_big br m dr (1048576 - (n : Int)) _ (by omega) (by omega) (by omega) hm).mono ?_
    rintro e w1 ⟨rfl, hw⟩
    rw [hw]
    go_wp2_with fail
    go_ret
    exact ⟨rfl, Below.refl _ _⟩
theorem lawIdentify_all (L : List St) (ar : Option Addr) (len cap : Nat) (hl : L.length = len) (hm : len ≤ maxLen) (S : List D3) (br : Option Addr) (len2 cap2 : Nat) (hl2 : S.length = len2) (hm2 : len2 ≤ maxLen) (w : World) (hS : Stars w ar L len) (hD : Dirs w br S len2) (hE : ∃ p, ErrSky p w) :
    Calls Tryd.prog 3 #[.slice ar len cap, .slice br len2 cap2] w fun e w' => e = .returned (.bool true) ∧ Below w.heap.size w w' := by
  obtain ⟨p, hp⟩ := hE
  subst hl hl2
  have hm' : maxLen ≤ 9223372036854775807 := by decide +kernel
  by_cases h : L.length ≤ 1048576 ∧ (S.length : Int) ≤ 1048576 - (L.length : Int)
  · exact lawIdentify L S ar br cap cap2 p w h.1 h.2 hS hD hp
  · exact lawIdentify_big L.length S.length ar br cap cap2 w (by omega) (by omega) (by omega)
end Go.Proofs.YtjdehbpgdplolaaDoor
