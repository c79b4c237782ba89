/- Several texts in one: ModI, DsC. -/
import Derived.BigRegion
import Derived.Deep.DeepCutAuto
import Derived.Test.YtlleafjdgblhcaaGreatDoorQDeskRunOwn8
import Derived.Test.YtlleafjdgblhcaaGreatDoorQDeskRunOwn1
import Derived.Test.YtlleafjdgblhcaaGreatDoorQDeskRunOwn24
import Derived.Test.YtlleafjdgblhcaaGreatDoorQDeskRunOwn9
namespace Go.Proofs.YtlleafjdgblhcaaGreatDoor
set_option linter.unusedVariables false
set_option linter.unusedSimpArgs false
set_option maxRecDepth 100000
set_option maxHeartbeats 8000000
section
open Go.RowKit Go.Sort
theorem jr (L : List St) (lim mode A B C D coast fr : Int) (ad : Option Addr) (c : Nat) (w : World) (hn : L.length ≤ 1048576) (hS : aR w ad L L.length) :
    Calls Tryz.prog 54 #[.agg #[.slice ad L.length c, .int .i64 lim, .int .i64 mode, .int .i64 A, .int .i64 B, .int .i64 C, .int .i64 D, .int .i64 coast, .int .i64 fr]] w fun e w' => ∃ a cap, e = .returned (.agg #[.slice a L.length cap, .int .i64 lim, .int .i64 mode, .int .i64 A, .int .i64 B, .int .i64 C, .int .i64 D, .int .i64 coast, .int .i64 fr]) ∧ az w' (w.heap.size + 2) L a cap ∧ Below w.heap.size w w' := by
  have B0 := aO w (.cells #[.slice ad L.length c, .int .i64 lim, .int .i64 mode, .int .i64 A, .int .i64 B, .int .i64 C, .int .i64 D, .int .i64 coast, .int .i64 fr] 34) (.cells #[.slice none 0 0, .int .i64 0, .int .i64 0, .int .i64 0, .int .i64 0, .int .i64 0, .int .i64 0, .int .i64 0, .int .i64 0] 116)
  have S1 := yz (hS.kept B0)
  have S0 := (dy w (.slice ad L.length c) lim mode A B C D coast fr 34).kept (an _ (.cells #[.slice none 0 0, .int .i64 0, .int .i64 0, .int .i64 0, .int .i64 0, .int .i64 0, .int .i64 0, .int .i64 0, .int .i64 0] 116))
  have R0 := (by simpa using dy (w.alloc (.cells #[.slice ad L.length c, .int .i64 lim, .int .i64 mode, .int .i64 A, .int .i64 B, .int .i64 C, .int .i64 D, .int .i64 coast, .int .i64 fr] 34)) (.slice none 0 0) 0 0 0 0 0 0 0 0 116 : dQ ((w.alloc (.cells #[.slice ad L.length c, .int .i64 lim, .int .i64 mode, .int .i64 A, .int .i64 B, .int .i64 C, .int .i64 D, .int .i64 coast, .int .i64 fr] 34)).alloc (.cells #[.slice none 0 0, .int .i64 0, .int .i64 0, .int .i64 0, .int .i64 0, .int .i64 0, .int .i64 0, .int .i64 0, .int .i64 0] 116)) (w.heap.size + 1) (.slice none 0 0) 0 0 0 0 0 0 0 0)
  have G0 := (by simpa using du (w.alloc (.cells #[.slice ad L.length c, .int .i64 lim, .int .i64 mode, .int .i64 A, .int .i64 B, .int .i64 C, .int .i64 D, .int .i64 coast, .int .i64 fr] 34)) #[.slice none 0 0, .int .i64 0, .int .i64 0, .int .i64 0, .int .i64 0, .int .i64 0, .int .i64 0, .int .i64 0, .int .i64 0] 116 : fF ((w.alloc (.cells #[.slice ad L.length c, .int .i64 lim, .int .i64 mode, .int .i64 A, .int .i64 B, .int .i64 C, .int .i64 D, .int .i64 coast, .int .i64 fr] 34)).alloc (.cells #[.slice none 0 0, .int .i64 0, .int .i64 0, .int .i64 0, .int .i64 0, .int .i64 0, .int .i64 0, .int .i64 0, .int .i64 0] 116)) (w.heap.size + 1))
  have HB := yz B0
  have HS := yz S0
  have HR := yz R0
  have HG := yz G0
  have hsz : ((w.alloc (.cells #[.slice ad L.length c, .int .i64 lim, .int .i64 mode, .int .i64 A, .int .i64 B, .int .i64 C, .int .i64 D, .int .i64 coast, .int .i64 fr] 34)).alloc (.cells #[.slice none 0 0, .int .i64 0, .int .i64 0, .int .i64 0, .int .i64 0, .int .i64 0, .int .i64 0, .int .i64 0, .int .i64 0] 116)).heap.size = w.heap.size + 2 := by simp
  clear B0 S0 R0 G0 hS
  obtain ⟨i0, hinf, hz0, hz1, hz2⟩ := info_parts nF
  go_enter Tryz.func54, Tryz.ntmps54
  go_wp2_with fail
  generalize (w.alloc (.cells #[.slice ad L.length c, .int .i64 lim, .int .i64 mode, .int .i64 A, .int .i64 B, .int .i64 C, .int .i64 D, .int .i64 coast, .int .i64 fr] 34)).alloc (.cells #[.slice none 0 0, .int .i64 0, .int .i64 0, .int .i64 0, .int .i64 0, .int .i64 0, .int .i64 0, .int .i64 0, .int .i64 0] 116) = W at *
  obtain ⟨s0, s1, s2, s3, s4, s5, s6, s7, s8⟩ := yy HS
  refine wp_region_held_drew (S := (fun w' => w'.cell? ⟨w.heap.size, 0, none⟩ = some (.slice ad L.length c) ∧ w'.cell? ⟨w.heap.size, 1, none⟩ = some (.int .i64 lim) ∧ w'.cell? ⟨w.heap.size, 2, none⟩ = some (.int .i64 mode) ∧ w'.cell? ⟨w.heap.size, 3, none⟩ = some (.int .i64 A) ∧ w'.cell? ⟨w.heap.size, 4, none⟩ = some (.int .i64 B) ∧ w'.cell? ⟨w.heap.size, 5, none⟩ = some (.int .i64 C) ∧ w'.cell? ⟨w.heap.size, 6, none⟩ = some (.int .i64 D) ∧ w'.cell? ⟨w.heap.size, 7, none⟩ = some (.int .i64 coast) ∧ w'.cell? ⟨w.heap.size, 8, none⟩ = some (.int .i64 fr))) (by kernel_rfl) ?_ (fun hHeld => ?_)
  · exact ⟨s0, s1, s2, s3, s4, s5, s6, s7, s8⟩
  refine ac 0 rfl ?_
  try simp only [Act.put, ah, ai, aj]
  refine ac 1 rfl ?_
  try simp only [Act.put, ah, ai, aj]
  refine ac 4 rfl ?_
  try simp only [Act.put, ah, ai, aj]
  refine ac 5 rfl ?_
  try simp only [Act.put, ah, ai, aj]
  refine ac 6 rfl ?_
  try simp only [Act.put, ah, ai, aj]
  refine ac 7 rfl ?_
  try simp only [Act.put, ah, ai, aj]
  refine ac 8 rfl ?_
  try simp only [Act.put, ah, ai, aj]
  refine ac 9 rfl ?_
  try simp only [Act.put, ah, ai, aj]
  refine ac 10 rfl ?_
  try simp only [Act.put, ah, ai, aj]
  refine ac 11 rfl ?_
  try simp only [Act.put, ah, ai, aj]
  refine ac 12 rfl ?_
  try simp only [Act.put, ah, ai, aj]
  refine ac 13 rfl ?_
  try simp only [Act.put, ah, ai, aj]
  have S1d : aR W.drew ad L L.length := (yy S1).kept (Below.refl _ _).drew
  have HBd : Below w.heap.size w W.drew := (yy HB).drew
  have R0d : dQ W.drew (w.heap.size + 1) (.slice none 0 0) 0 0 0 0 0 0 0 0 := yy HR
  have G0d : fF W.drew (w.heap.size + 1) := yy HG
  have hszd : W.drew.heap.size = w.heap.size + 2 := hsz
  refine af 2 rfl fun K hK => ?_
  have hnil : W.drew.ownsRow (w.heap.size + 2) 60 4 (.slice none 0 0) 0 [] := World.ownsRow_nil _ _ _ _
  have hcells := lT S1d
  refine (if_pos (by kernel_rfl)).mpr ?_
  simp only [List.getElem_toArray, List.getElem_cons_succ, List.getElem_cons_zero]
  generalize hA : ({ tmps := _, defers := _ } : Act) = aa
  have hf0 : aa.eval (Operand.const (Value.slice none 0 0)) = .slice none 0 0 := by subst hA; simp [go_sem]
  have hf1 : aa.eval (Operand.tmp 4) = .slice ad L.length c := by subst hA; simp [go_sem]
  refine jW W.drew (Operand.const (Value.slice none 0 0)) (Operand.tmp 4) 30 rfl (w.heap.size + 2) 60 i0 (.agg #[.int .i64 0, .int .i64 0, .int .i64 0, .int .i64 0]) 4 32 Tryz.underlying30 hinf hz0 hz1 hz2 rfl (by decide) (.slice none 0 0) 0 [] hf0 hnil ad L.length c (dt L) hf1 (gY L) (pg S1d) hcells (fun u hu => lA hu) ?d1 ?d2 ?d3 ?_
  case d1 => have : 1048576 ≤ maxLen := by decide +kernel
             omega
  case d2 => omega
  case d3 => omega
  intro v' w1 ho hg
  subst hA
  rw [Nat.zero_add, List.nil_append] at ho
  obtain ⟨a, cap, rfl, hC⟩ := jR ho
  have B1 := yz (nK HBd hg HBd.size (fun g e => by simp [Value.ownBlock] at e))
  have S2 : dQ w1 w.heap.size (.slice ad L.length c) lim mode A B C D coast fr := dQ.grown (w := W.drew) (yy HS) hg (by simp [Value.ownBlock])
  have R2 := yz (R0d.grown hg (by simp [Value.ownBlock]))
  have G2 := yz (G0d.grown R0d.lt hg (by simp [Value.ownBlock]))
  have C1 := yz hC
  clear ho hg hC s0 s1 s2 s3 s4 s5 s6 s7 s8
  obtain ⟨s0, s1, s2, s3, s4, s5, s6, s7, s8⟩ := S2
  refine hK.out _ _ ?_ (fun hHeld1 => ?_)
  · exact ⟨s0, s1, s2, s3, s4, s5, s6, s7, s8⟩
  clear hK K hHeld hf0 hf1 hcells hnil
  try simp only [Act.put, ah, ai, aj]
  refine ac 3 rfl ?_
  try simp only [Act.put, ah, ai, aj]
  refine ac 14 rfl ?_
  try simp only [Act.put, ah, ai, aj]
  obtain ⟨r0, r1, r2, r3, r4, r5, r6, r7, r8⟩ := yy R2
  have g0 := yy G2 0
  have g1 := yy G2 1
  have g2 := yy G2 2
  have g3 := yy G2 3
  have g4 := yy G2 4
  have g5 := yy G2 5
  have g6 := yy G2 6
  have g7 := yy G2 7
  have g8 := yy G2 8
  refine af 15 rfl fun K hK => ?_
  go_simp
  have S3 : Hid (dQ w1 w.heap.size (.slice ad L.length c) lim mode A B C D coast fr) := yz ⟨s0, s1, s2, s3, s4, s5, s6, s7, s8⟩
  clear s0 s1 s2 s3 s4 s5 s6 s7 s8 r0 r1 r2 r3 r4 r5 r6 r7 r8 g0 g1 g2 g3 g4 g5 g6 g7 g8
  refine hK.out _ _ ?_ (fun hHeld2 => ?_)
  · show dQ _ w.heap.size (.slice ad L.length c) lim mode A B C D coast fr
    iterate 9 (refine dQ.far ?_ (show w.heap.size ≠ w.heap.size + 1 by omega) _ _)
    exact yy S3
  clear hK K hHeld1
  refine wpAnyH_done (by kernel_rfl) ?_ _
  clear hHeld2
  go_wp2_with fail
  refine bodyPost_ret (v := .agg #[.slice a L.length cap, .int .i64 lim, .int .i64 mode, .int .i64 A, .int .i64 B, .int .i64 C, .int .i64 D, .int .i64 coast, .int .i64 fr]) ?_ rfl ⟨a, cap, rfl, ?_, ?_⟩
  · refine xv _ _ (w.heap.size + 1) _ lim mode A B C D coast fr rfl ?_
    exact dM (lim0 := 0) (mode0 := 0) (A0 := 0) (B0 := 0) (C0 := 0) (D0 := 0) (coast0 := 0) (fr0 := 0) (u := .slice none 0 0) (yy R2) _ lim mode A B C D coast fr
  · iterate 9 (refine az.far ?_ (show w.heap.size + 1 < w.heap.size + 2 by omega) _ _)
    exact yy C1
  · iterate 9 (refine aC ?_ (show w.heap.size ≤ w.heap.size + 1 by omega) _ _)
    exact yy B1
end
section
open Go.RowKit
def jJ : Nat → List UInt8
 | 0 => iP
 | 1 => iI
 | 2 => qP
 | 3 => kW
 | 4 => iJ
 | 5 => rn
 | _ => iO
theorem ee {w : World} {B : Nat} {v : Value} {D : List (List UInt8)} (h : dK w B v D) (hn : D ≠ []) : ∃ g cap, v = .slice (some ⟨g, 0, none⟩) D.length cap ∧ D.length ≤ cap ∧ cap ≤ maxLen ∧ B ≤ g ∧ g < w.heap.size ∧ ∀ (j : Nat) x, D[j]? = some x → w.cell? ⟨g, j, none⟩ = some (bW x) := by
 have hl : 0 < D.length := List.length_pos_iff.2 hn
 rcases h.2 with ⟨_, h0⟩ | ⟨g, cap, cur, hv, hb, hg, h1, h2, h3, h4⟩
 ·omega
 ·refine ⟨g, cap, hv, h1, h2, hb, (Array.getElem?_eq_some_iff.1 hg).1, fun j x hj => ?_⟩
  have hjl : j < D.length := (List.getElem?_eq_some_iff.1 hj).1
  rw [cell_of_row w g j cur _ _ hg]
  have e : (D.map bW)[j]? = some (bW x) := by rw [List.getElem?_map, hj]; rfl
  rw [← h4, List.getElem?_take, if_pos (by omega)] at e
  simpa using e
theorem eD {w w' : World} {g j : Nat} {u : Value} (h : w.cell? ⟨g, j, none⟩ = some u) (hB : Below w.heap.size w w') : w'.cell? ⟨g, j, none⟩ = some u := by
 rw [hB.cell (p := ⟨g, j, none⟩) (World.block_lt_of_cell? w _ h)]; exact h
def dV (s : ByteArray) (e : Ending) : Prop := (∃ l, bh s.data.toList = some l ∧ e = .returned (.tuple #[.agg #[bW (jJ l.k), bW l.t, .int .i64 l.n], .bool true])) ∨ (bh s.data.toList = none ∧ ∃ a b n, e = .returned (.tuple #[.agg #[.string a, .string b, .int .i64 n], .bool false]))
theorem cy {s : ByteArray} (h : bh s.data.toList = none) (a b : ByteArray) (n : Int) : dV s (.returned (.tuple #[.agg #[.string a, .string b, .int .i64 n], .bool false])) := .inr ⟨h, a, b, n, rfl⟩
theorem eF {s : ByteArray} {l : Ln} (h : bh s.data.toList = some l) : dV s (.returned (.tuple #[.agg #[bW (jJ l.k), bW l.t, .int .i64 l.n], .bool true])) := .inl ⟨l, h, rfl⟩
theorem bT (T : Array Value) (X : World) (b : Nat) (a t n : Value) (ok : Bool) (hT : T.getD 2 undef = .pointer (some ⟨b, 0, none⟩)) (hT3 : T.getD 3 undef = .bool ok) (h0 : X.cell? ⟨b, 0, none⟩ = some a) (h1 : X.cell? ⟨b, 1, none⟩ = some t) (h2 : X.cell? ⟨b, 2, none⟩ = some n) : (results Tryz.f10 T).run Tryz.prog X = .ok (.tuple #[.agg #[a, t, n], .bool ok]) X := by
 simp only [Array.getD_eq_getD_getElem?] at hT hT3
 simp [results, Tryz.results10, go_sem, hT, hT3, h0, h1, h2]
theorem eZ {s : List UInt8} {p0 : List UInt8} {r : List (List UInt8)} (h : pcs 32 s = p0 :: r) : bh s = if p0 = iP then gw 0 r else if p0 = iI then hF 1 r else if p0 = qP then iH 2 r else if p0 = kW then hF 3 r else if p0 = iJ then gw 4 r else if p0 = rn then iH 5 r else if p0 = iO then gw 6 r else none := by
 unfold bh
 rw [h]
theorem nX {y : List UInt8} (h : fq y = true) : 0 ≤ jg y := by
 have hy : (⟨y.toArray⟩ : ByteArray).data.toList = y := by simp
 rw [← hy] at h ⊢
 rw [fH, Bool.and_eq_true] at h
 rw [← tm]
 exact (mV _ _ (Nat.le_refl _) h.2).1
theorem go (c : UInt8) (s : List UInt8) : ∀ x ∈ pcs c s, x.length ≤ s.length := by
 induction s with
 | nil => intro x hx; simp [pcs] at hx; subst hx; simp
 | cons y ys ih =>
  intro x hx
  rw [pcs] at hx
  split at hx
  ·rcases List.mem_cons.1 hx with rfl | h
   ·simp
   ·have := ih x h; simp; omega
  ·have hne := jD c ys
   cases hp : pcs c ys with
   | nil => exact absurd hp hne
   | cons d D =>
    rw [hp] at hx
    simp at hx
    rcases hx with rfl | h
    ·have := ih d (by rw [hp]; exact List.mem_cons_self ..); simp; omega
    ·have := ih x (by rw [hp]; exact List.mem_cons_of_mem _ h); simp; omega
theorem eM (c : UInt8) (s : List UInt8) : (pcs c s).length ≤ s.length + 1 := by
 induction s with
 | nil => simp [pcs]
 | cons y ys ih =>
  rw [pcs]
  split
  ·simp; omega
  ·have hne := jD c ys
   have : 0 < (pcs c ys).length := List.length_pos_iff.2 hne
   simp; omega
theorem qS (s : ByteArray) (r : List (List UInt8)) (w : World) (hs : s.size ≤ 8000) (hp : pcs 32 s.data.toList = iP :: r) :
  Calls Tryz.prog 10 #[.string s] w fun e w' => dV s e ∧ Below w.heap.size w w' := by
 have HL : Hid (bh s.data.toList = gw 0 r) := yz (by rw [eZ hp]; rfl)
 have HSZ := yz (go 32 s.data.toList)
 have HCT := yz (eM 32 s.data.toList)
 have cS : Hid (Calls Tryz.prog 7 #[.string s, .int .u8 32] (w.alloc (.cells #[.string ⟨#[]⟩, .string ⟨#[]⟩, .int .i64 0] 43)) fun e w' => (∃ v, e = .returned v ∧ dK w' (w.alloc (.cells #[.string ⟨#[]⟩, .string ⟨#[]⟩, .int .i64 0] 43)).heap.size v (iP :: r)) ∧ Below (w.alloc (.cells #[.string ⟨#[]⟩, .string ⟨#[]⟩, .int .i64 0] 43)).heap.size (w.alloc (.cells #[.string ⟨#[]⟩, .string ⟨#[]⟩, .int .i64 0] 43)) w') := yz (by have := ce s 32 (w.alloc (.cells #[.string ⟨#[]⟩, .string ⟨#[]⟩, .int .i64 0] 43)) hs; rw [hp] at this; exact this)
 rw [hp] at HSZ HCT
 clear hp
 have B0 := yz (an w (.cells #[.string ⟨#[]⟩, .string ⟨#[]⟩, .int .i64 0] 43))
 have R0 := yz (ap w [.string ⟨#[]⟩, .string ⟨#[]⟩, .int .i64 0] 43)
 go_enter Tryz.func10, Tryz.ntmps10
 go_wp2_with fail
 refine (yy cS).mono ?_
 rintro e w1 ⟨⟨v, rfl, ht⟩, hx⟩
 obtain ⟨g, cap, rfl, hc1, hc2, hgb, hg, hcell⟩ := ee ht (by simp)
 have hm8 : maxLen ≤ 9223372036854775807 := by decide +kernel
 have Z := an w1 (.cells #[.string ⟨#[98, 108, 105, 110, 100]⟩, .string ⟨#[]⟩, .int .i64 0] 43)
 have B1 := yz (ak (ak (yy B0) hx) Z)
 have R1 := yz (((yy R0).kept hx).kept Z)
 have X1 := yz (ap w1 [.string ⟨#[98, 108, 105, 110, 100]⟩, .string ⟨#[]⟩, .int .i64 0] 43)
 have c0 : w1.cell? ⟨g, 0, none⟩ = some (.string ⟨#[98, 108, 105, 110, 100]⟩) := hcell 0 _ rfl
 have d0 := eD c0 Z
 have HCL := yz (fun (j : Nat) x h => eD (hcell j x h) Z)
 have hrl : w.heap.size < w1.heap.size := by have := hx.size; have := (yy R0).lt; omega
 clear cS ht hx hcell Z R0 B0
 obtain ⟨m, hm⟩ : ∃ m, (iP :: r).length = m := ⟨_, rfl⟩
 have HM := yz hm
 rw [hm] at hc1 HCT ⊢
 have hm1 : 1 ≤ m := by rw [← hm]; simp
 have hm9 : m ≤ 8001 := by have := yy HCT; rw [bg] at this; omega
 clear hm
 go_upto_region 3 with fail
 clear c0
 generalize w1.alloc (.cells #[.string ⟨#[98, 108, 105, 110, 100]⟩, .string ⟨#[]⟩, .int .i64 0] 43) = W2 at *
 generalize w1.heap.size = xb at *
 have r0 := (yy R1).cell 0 _ rfl
 have f0 := (yy R1).free 0
 have x0 := (yy X1).cell 0 _ rfl
 have r1 := (yy R1).cell 1 _ rfl
 have f1 := (yy R1).free 1
 have x1 := (yy X1).cell 1 _ rfl
 have r2 := (yy R1).cell 2 _ rfl
 have f2 := (yy R1).free 2
 have x2 := (yy X1).cell 2 _ rfl
 by_cases h1 : m = 1
 ·subst h1
  have HR : Hid (bh s.data.toList = some ⟨0, [], 0⟩) := yz (by
   have : r = [] := by have := yy HM; simpa using this
   rw [yy HL, this]
   rfl)
  go_wp2
  refine bodyPost_ret (v := .tuple #[.agg #[.string ⟨#[98, 108, 105, 110, 100]⟩, .string ⟨#[]⟩, .int .i64 0], .bool true]) ?_ rfl ⟨eF (yy HR), ?_⟩
  ·refine bT _ _ w.heap.size _ _ _ true rfl rfl ?_ ?_ ?_ <;> go_simp
  ·skip
   iterate 3 (refine Below.setCell ?_ (Nat.le_refl w.heap.size) _)
   exact yy B1
 ·have hb : ((m : Int) == 1) = false := by simpa using (show (m : Int) ≠ 1 by omega)
  have HR : Hid (bh s.data.toList = none) := yz (by
   have : r ≠ [] := fun e => by have h := yy HM; rw [e] at h; simp at h; omega
   rw [yy HL]
   match r, this with
   | y :: ys, _ => rfl)
  go_wp2
  refine bodyPost_ret (v := .tuple #[.agg #[.string ⟨#[98, 108, 105, 110, 100]⟩, .string ⟨#[]⟩, .int .i64 0], .bool false]) ?_ rfl ⟨cy (yy HR) _ _ _, ?_⟩
  ·refine bT _ _ w.heap.size _ _ _ false rfl rfl ?_ ?_ ?_ <;> go_simp
  ·skip
   iterate 3 (refine Below.setCell ?_ (Nat.le_refl w.heap.size) _)
   exact yy B1
theorem qL (s : ByteArray) (r : List (List UInt8)) (w : World) (hs : s.size ≤ 8000) (hp : pcs 32 s.data.toList = iI :: r) :
  Calls Tryz.prog 10 #[.string s] w fun e w' => dV s e ∧ Below w.heap.size w w' := by
 have HL : Hid (bh s.data.toList = hF 1 r) := yz (by rw [eZ hp]; rfl)
 have HSZ := yz (go 32 s.data.toList)
 have HCT := yz (eM 32 s.data.toList)
 have cS : Hid (Calls Tryz.prog 7 #[.string s, .int .u8 32] (w.alloc (.cells #[.string ⟨#[]⟩, .string ⟨#[]⟩, .int .i64 0] 43)) fun e w' => (∃ v, e = .returned v ∧ dK w' (w.alloc (.cells #[.string ⟨#[]⟩, .string ⟨#[]⟩, .int .i64 0] 43)).heap.size v (iI :: r)) ∧ Below (w.alloc (.cells #[.string ⟨#[]⟩, .string ⟨#[]⟩, .int .i64 0] 43)).heap.size (w.alloc (.cells #[.string ⟨#[]⟩, .string ⟨#[]⟩, .int .i64 0] 43)) w') := yz (by have := ce s 32 (w.alloc (.cells #[.string ⟨#[]⟩, .string ⟨#[]⟩, .int .i64 0] 43)) hs; rw [hp] at this; exact this)
 rw [hp] at HSZ HCT
 clear hp
 have B0 := yz (an w (.cells #[.string ⟨#[]⟩, .string ⟨#[]⟩, .int .i64 0] 43))
 have R0 := yz (ap w [.string ⟨#[]⟩, .string ⟨#[]⟩, .int .i64 0] 43)
 go_enter Tryz.func10, Tryz.ntmps10
 go_wp2_with fail
 refine (yy cS).mono ?_
 rintro e w1 ⟨⟨v, rfl, ht⟩, hx⟩
 obtain ⟨g, cap, rfl, hc1, hc2, hgb, hg, hcell⟩ := ee ht (by simp)
 have hm8 : maxLen ≤ 9223372036854775807 := by decide +kernel
 have Z := an w1 (.cells #[.string ⟨#[100, 114, 105, 102, 116]⟩, .string ⟨#[]⟩, .int .i64 0] 43)
 have B1 := yz (ak (ak (yy B0) hx) Z)
 have R1 := yz (((yy R0).kept hx).kept Z)
 have X1 := yz (ap w1 [.string ⟨#[100, 114, 105, 102, 116]⟩, .string ⟨#[]⟩, .int .i64 0] 43)
 have c0 : w1.cell? ⟨g, 0, none⟩ = some (.string ⟨#[100, 114, 105, 102, 116]⟩) := hcell 0 _ rfl
 have d0 := eD c0 Z
 have HCL := yz (fun (j : Nat) x h => eD (hcell j x h) Z)
 have hrl : w.heap.size < w1.heap.size := by have := hx.size; have := (yy R0).lt; omega
 clear cS ht hx hcell Z R0 B0
 obtain ⟨m, hm⟩ : ∃ m, (iI :: r).length = m := ⟨_, rfl⟩
 have HM := yz hm
 rw [hm] at hc1 HCT ⊢
 have hm1 : 1 ≤ m := by rw [← hm]; simp
 have hm9 : m ≤ 8001 := by have := yy HCT; rw [bg] at this; omega
 clear hm
 go_upto_region 3 with fail
 clear c0
 generalize w1.alloc (.cells #[.string ⟨#[100, 114, 105, 102, 116]⟩, .string ⟨#[]⟩, .int .i64 0] 43) = W2 at *
 generalize w1.heap.size = xb at *
 by_cases h2 : m = 2
 ·subst h2
  obtain ⟨y, hy⟩ : ∃ y, r = [y] := by
   have h := yy HM
   match r, h with
   | [y], _ => exact ⟨y, rfl⟩
  have c1 := yy HCL 1 y (by rw [hy]; rfl)
  have hyl : y.length ≤ 8000 := by have := yy HSZ y (by rw [hy]; simp); rw [bg] at this; omega
  unfold bW at c1
  have HL2 : Hid (bh s.data.toList = if y = [] then none else some ⟨1, y, 0⟩) := yz (by rw [yy HL, hy]; rfl)
  obtain ⟨yb, hyb⟩ : ∃ yb : ByteArray, (⟨y.toArray⟩ : ByteArray) = yb := ⟨_, rfl⟩
  rw [hyb] at c1
  have HY := yz hyb
  clear hyb hy
  have r0 := (yy R1).cell 0 _ rfl
  have f0 := (yy R1).free 0
  have x0 := (yy X1).cell 0 _ rfl
  have r1 := (yy R1).cell 1 _ rfl
  have f1 := (yy R1).free 1
  have x1 := (yy X1).cell 1 _ rfl
  have r2 := (yy R1).cell 2 _ rfl
  have f2 := (yy R1).free 2
  have x2 := (yy X1).cell 2 _ rfl
  have fx := (yy X1).free 1
  have hne : xb ≠ w.heap.size := by omega
  have hne' : w.heap.size ≠ xb := by omega
  by_cases hz : y = []
  ·have he : (yb.toList == []) = true := oO (l := []) (by rw [← yy HY, hz])
   have HR : Hid (bh s.data.toList = none) := yz (by rw [yy HL2, if_pos hz])
   go_wp2
   go_region
   all_goals
    go_wp2
    refine bodyPost_ret (v := .tuple #[.agg #[.string ⟨#[100, 114, 105, 102, 116]⟩, .string yb, .int .i64 0], .bool false]) ?_ rfl ⟨cy (yy HR) _ _ _, ?_⟩
    ·refine bT _ _ w.heap.size _ _ _ false rfl rfl ?_ ?_ ?_ <;> go_simp
    ·refine Below.drew ?_
     iterate 3 (refine Below.setCell ?_ (Nat.le_refl w.heap.size) _)
     refine Below.setCell ?_ (Nat.le_of_lt hrl) _
     exact yy B1
  ·have he : (yb.toList == []) = false := fe (l := []) (fun e => hz (by rw [← yy HY] at e; have := congrArg (fun b : ByteArray => b.data.toList) e; simpa using this))
   have HR := yz (show bh s.data.toList = some ⟨1, y, 0⟩ by rw [yy HL2, if_neg hz])
   have HE : Hid (dV s (.returned (.tuple #[.agg #[.string ⟨#[100, 114, 105, 102, 116]⟩, .string yb, .int .i64 0], .bool true]))) := yz (by rw [← yy HY]; exact eF (yy HR))
   go_wp2
   go_region
   all_goals
    go_wp2
    refine bodyPost_ret (v := .tuple #[.agg #[.string ⟨#[100, 114, 105, 102, 116]⟩, .string yb, .int .i64 0], .bool true]) ?_ rfl ⟨yy HE, ?_⟩
    ·refine bT _ _ w.heap.size _ _ _ true rfl rfl ?_ ?_ ?_ <;> go_simp
    ·refine Below.drew ?_
     iterate 3 (refine Below.setCell ?_ (Nat.le_refl w.heap.size) _)
     refine Below.setCell ?_ (Nat.le_of_lt hrl) _
     exact yy B1
 ·have hb : ((m : Int) == 2) = false := by simpa using (show (m : Int) ≠ 2 by omega)
  have HR : Hid (bh s.data.toList = none) := yz (by
   rw [yy HL]
   have h := yy HM
   match r, h with
   | [], _ => rfl
   | [y], h => simp at h; omega
   | y :: y2 :: ys, _ => rfl)
  have r0 := (yy R1).cell 0 _ rfl
  have f0 := (yy R1).free 0
  have x0 := (yy X1).cell 0 _ rfl
  have r1 := (yy R1).cell 1 _ rfl
  have f1 := (yy R1).free 1
  have x1 := (yy X1).cell 1 _ rfl
  have r2 := (yy R1).cell 2 _ rfl
  have f2 := (yy R1).free 2
  have x2 := (yy X1).cell 2 _ rfl
  go_wp2
  refine bodyPost_ret (v := .tuple #[.agg #[.string ⟨#[100, 114, 105, 102, 116]⟩, .string ⟨#[]⟩, .int .i64 0], .bool false]) ?_ rfl ⟨cy (yy HR) _ _ _, ?_⟩
  ·refine bT _ _ w.heap.size _ _ _ false rfl rfl ?_ ?_ ?_ <;> go_simp
  ·skip
   iterate 3 (refine Below.setCell ?_ (Nat.le_refl w.heap.size) _)
   exact yy B1
theorem uI (s : ByteArray) (r : List (List UInt8)) (w : World) (hs : s.size ≤ 8000) (hp : pcs 32 s.data.toList = qP :: r) :
  Calls Tryz.prog 10 #[.string s] w fun e w' => dV s e ∧ Below w.heap.size w w' := by
 have HL : Hid (bh s.data.toList = iH 2 r) := yz (by rw [eZ hp]; rfl)
 have HSZ := yz (go 32 s.data.toList)
 have HCT := yz (eM 32 s.data.toList)
 have cS : Hid (Calls Tryz.prog 7 #[.string s, .int .u8 32] (w.alloc (.cells #[.string ⟨#[]⟩, .string ⟨#[]⟩, .int .i64 0] 43)) fun e w' => (∃ v, e = .returned v ∧ dK w' (w.alloc (.cells #[.string ⟨#[]⟩, .string ⟨#[]⟩, .int .i64 0] 43)).heap.size v (qP :: r)) ∧ Below (w.alloc (.cells #[.string ⟨#[]⟩, .string ⟨#[]⟩, .int .i64 0] 43)).heap.size (w.alloc (.cells #[.string ⟨#[]⟩, .string ⟨#[]⟩, .int .i64 0] 43)) w') := yz (by have := ce s 32 (w.alloc (.cells #[.string ⟨#[]⟩, .string ⟨#[]⟩, .int .i64 0] 43)) hs; rw [hp] at this; exact this)
 rw [hp] at HSZ HCT
 clear hp
 have B0 := yz (an w (.cells #[.string ⟨#[]⟩, .string ⟨#[]⟩, .int .i64 0] 43))
 have R0 := yz (ap w [.string ⟨#[]⟩, .string ⟨#[]⟩, .int .i64 0] 43)
 go_enter Tryz.func10, Tryz.ntmps10
 go_wp2_with fail
 refine (yy cS).mono ?_
 rintro e w1 ⟨⟨v, rfl, ht⟩, hx⟩
 obtain ⟨g, cap, rfl, hc1, hc2, hgb, hg, hcell⟩ := ee ht (by simp)
 have hm8 : maxLen ≤ 9223372036854775807 := by decide +kernel
 have Z := an w1 (.cells #[.string ⟨#[105, 100, 115]⟩, .string ⟨#[]⟩, .int .i64 0] 43)
 have B1 := yz (ak (ak (yy B0) hx) Z)
 have R1 := yz (((yy R0).kept hx).kept Z)
 have X1 := yz (ap w1 [.string ⟨#[105, 100, 115]⟩, .string ⟨#[]⟩, .int .i64 0] 43)
 have c0 : w1.cell? ⟨g, 0, none⟩ = some (.string ⟨#[105, 100, 115]⟩) := hcell 0 _ rfl
 have d0 := eD c0 Z
 have HCL := yz (fun (j : Nat) x h => eD (hcell j x h) Z)
 have hrl : w.heap.size < w1.heap.size := by have := hx.size; have := (yy R0).lt; omega
 clear cS ht hx hcell Z R0 B0
 obtain ⟨m, hm⟩ : ∃ m, (qP :: r).length = m := ⟨_, rfl⟩
 have HM := yz hm
 rw [hm] at hc1 HCT ⊢
 have hm1 : 1 ≤ m := by rw [← hm]; simp
 have hm9 : m ≤ 8001 := by have := yy HCT; rw [bg] at this; omega
 clear hm
 go_upto_region 3 with fail
 clear c0
 generalize w1.alloc (.cells #[.string ⟨#[105, 100, 115]⟩, .string ⟨#[]⟩, .int .i64 0] 43) = W2 at *
 generalize w1.heap.size = xb at *
 by_cases h2 : m = 2
 ·subst h2
  obtain ⟨y, hy⟩ : ∃ y, r = [y] := by
   have h := yy HM
   match r, h with
   | [y], _ => exact ⟨y, rfl⟩
  have c1 := yy HCL 1 y (by rw [hy]; rfl)
  have hyl : y.length ≤ 8000 := by have := yy HSZ y (by rw [hy]; simp); rw [bg] at this; omega
  unfold bW at c1
  have HL2 : Hid (bh s.data.toList = if fq y = true then some ⟨2, [], jg y⟩ else none) := yz (by rw [yy HL, hy]; rfl)
  obtain ⟨yb, hyb⟩ : ∃ yb : ByteArray, (⟨y.toArray⟩ : ByteArray) = yb := ⟨_, rfl⟩
  rw [hyb] at c1
  have hys : yb.size ≤ 8000 := by rw [← hyb]; show y.toArray.size ≤ 8000; simpa using hyl
  have HY : Hid (yb.data.toList = y) := yz (by rw [← hyb])
  have cN := yz (fun W => pS yb W hys)
  rw [yy HY] at cN
  clear hyb hy
  obtain ⟨z, hz⟩ : ∃ z : Int, (if fq y = true then jg y else -1) = z := ⟨_, rfl⟩
  rw [hz] at cN
  have HZ := yz hz
  clear hz
  go_wp2_with fail
  refine (yy cN _).mono ?_
  rintro e W3 ⟨rfl, hw3⟩
  rw [hw3]
  clear hw3 W3
  have r0 := (yy R1).cell 0 _ rfl
  have f0 := (yy R1).free 0
  have x0 := (yy X1).cell 0 _ rfl
  have r1 := (yy R1).cell 1 _ rfl
  have f1 := (yy R1).free 1
  have x1 := (yy X1).cell 1 _ rfl
  have r2 := (yy R1).cell 2 _ rfl
  have f2 := (yy R1).free 2
  have x2 := (yy X1).cell 2 _ rfl
  have fx := (yy X1).free 2
  have hne : xb ≠ w.heap.size := by omega
  have hne' : w.heap.size ≠ xb := by omega
  by_cases hq : fq y = true
  ·have HR := yz (show bh s.data.toList = some ⟨2, [], z⟩ by rw [yy HL2, if_pos hq, ← yy HZ, if_pos hq])
   have hz0 : decide (0 ≤ z) = true := decide_eq_true (by have := yy HZ; rw [if_pos hq] at this; rw [← this]; exact nX hq)
   go_wp2
   go_region
   all_goals
    go_wp2
    refine bodyPost_ret (v := .tuple #[.agg #[.string ⟨#[105, 100, 115]⟩, .string ⟨#[]⟩, .int .i64 z], .bool true]) ?_ rfl ⟨eF (yy HR), ?_⟩
    ·refine bT _ _ w.heap.size _ _ _ true rfl rfl ?_ ?_ ?_ <;> go_simp
    ·refine Below.drew ?_
     iterate 3 (refine Below.setCell ?_ (Nat.le_refl w.heap.size) _)
     refine Below.setCell ?_ (Nat.le_of_lt hrl) _
     exact yy B1
  ·have HR := yz (show bh s.data.toList = none by rw [yy HL2, if_neg hq])
   have hz0 : decide (0 ≤ z) = false := decide_eq_false (by have := yy HZ; rw [if_neg hq] at this; omega)
   go_wp2
   go_region
   all_goals
    go_wp2
    refine bodyPost_ret (v := .tuple #[.agg #[.string ⟨#[105, 100, 115]⟩, .string ⟨#[]⟩, .int .i64 z], .bool false]) ?_ rfl ⟨cy (yy HR) _ _ _, ?_⟩
    ·refine bT _ _ w.heap.size _ _ _ false rfl rfl ?_ ?_ ?_ <;> go_simp
    ·refine Below.drew ?_
     iterate 3 (refine Below.setCell ?_ (Nat.le_refl w.heap.size) _)
     refine Below.setCell ?_ (Nat.le_of_lt hrl) _
     exact yy B1
 ·have hb : ((m : Int) == 2) = false := by simpa using (show (m : Int) ≠ 2 by omega)
  have HR : Hid (bh s.data.toList = none) := yz (by
   rw [yy HL]
   have h := yy HM
   match r, h with
   | [], _ => rfl
   | [y], h => simp at h; omega
   | y :: y2 :: ys, _ => rfl)
  have r0 := (yy R1).cell 0 _ rfl
  have f0 := (yy R1).free 0
  have x0 := (yy X1).cell 0 _ rfl
  have r1 := (yy R1).cell 1 _ rfl
  have f1 := (yy R1).free 1
  have x1 := (yy X1).cell 1 _ rfl
  have r2 := (yy R1).cell 2 _ rfl
  have f2 := (yy R1).free 2
  have x2 := (yy X1).cell 2 _ rfl
  go_wp2
  refine bodyPost_ret (v := .tuple #[.agg #[.string ⟨#[105, 100, 115]⟩, .string ⟨#[]⟩, .int .i64 0], .bool false]) ?_ rfl ⟨cy (yy HR) _ _ _, ?_⟩
  ·refine bT _ _ w.heap.size _ _ _ false rfl rfl ?_ ?_ ?_ <;> go_simp
  ·skip
   iterate 3 (refine Below.setCell ?_ (Nat.le_refl w.heap.size) _)
   exact yy B1
theorem ug (s : ByteArray) (r : List (List UInt8)) (w : World) (hs : s.size ≤ 8000) (hp : pcs 32 s.data.toList = kW :: r) :
  Calls Tryz.prog 10 #[.string s] w fun e w' => dV s e ∧ Below w.heap.size w w' := by
 have HL : Hid (bh s.data.toList = hF 3 r) := yz (by rw [eZ hp]; rfl)
 have HSZ := yz (go 32 s.data.toList)
 have HCT := yz (eM 32 s.data.toList)
 have cS : Hid (Calls Tryz.prog 7 #[.string s, .int .u8 32] (w.alloc (.cells #[.string ⟨#[]⟩, .string ⟨#[]⟩, .int .i64 0] 43)) fun e w' => (∃ v, e = .returned v ∧ dK w' (w.alloc (.cells #[.string ⟨#[]⟩, .string ⟨#[]⟩, .int .i64 0] 43)).heap.size v (kW :: r)) ∧ Below (w.alloc (.cells #[.string ⟨#[]⟩, .string ⟨#[]⟩, .int .i64 0] 43)).heap.size (w.alloc (.cells #[.string ⟨#[]⟩, .string ⟨#[]⟩, .int .i64 0] 43)) w') := yz (by have := ce s 32 (w.alloc (.cells #[.string ⟨#[]⟩, .string ⟨#[]⟩, .int .i64 0] 43)) hs; rw [hp] at this; exact this)
 rw [hp] at HSZ HCT
 clear hp
 have B0 := yz (an w (.cells #[.string ⟨#[]⟩, .string ⟨#[]⟩, .int .i64 0] 43))
 have R0 := yz (ap w [.string ⟨#[]⟩, .string ⟨#[]⟩, .int .i64 0] 43)
 go_enter Tryz.func10, Tryz.ntmps10
 go_wp2_with fail
 refine (yy cS).mono ?_
 rintro e w1 ⟨⟨v, rfl, ht⟩, hx⟩
 obtain ⟨g, cap, rfl, hc1, hc2, hgb, hg, hcell⟩ := ee ht (by simp)
 have hm8 : maxLen ≤ 9223372036854775807 := by decide +kernel
 have Z := an w1 (.cells #[.string ⟨#[109, 111, 118, 101]⟩, .string ⟨#[]⟩, .int .i64 0] 43)
 have B1 := yz (ak (ak (yy B0) hx) Z)
 have R1 := yz (((yy R0).kept hx).kept Z)
 have X1 := yz (ap w1 [.string ⟨#[109, 111, 118, 101]⟩, .string ⟨#[]⟩, .int .i64 0] 43)
 have c0 : w1.cell? ⟨g, 0, none⟩ = some (.string ⟨#[109, 111, 118, 101]⟩) := hcell 0 _ rfl
 have d0 := eD c0 Z
 have HCL := yz (fun (j : Nat) x h => eD (hcell j x h) Z)
 have hrl : w.heap.size < w1.heap.size := by have := hx.size; have := (yy R0).lt; omega
 clear cS ht hx hcell Z R0 B0
 obtain ⟨m, hm⟩ : ∃ m, (kW :: r).length = m := ⟨_, rfl⟩
 have HM := yz hm
 rw [hm] at hc1 HCT ⊢
 have hm1 : 1 ≤ m := by rw [← hm]; simp
 have hm9 : m ≤ 8001 := by have := yy HCT; rw [bg] at this; omega
 clear hm
 go_upto_region 3 with fail
 clear c0
 generalize w1.alloc (.cells #[.string ⟨#[109, 111, 118, 101]⟩, .string ⟨#[]⟩, .int .i64 0] 43) = W2 at *
 generalize w1.heap.size = xb at *
 by_cases h2 : m = 2
 ·subst h2
  obtain ⟨y, hy⟩ : ∃ y, r = [y] := by
   have h := yy HM
   match r, h with
   | [y], _ => exact ⟨y, rfl⟩
  have c1 := yy HCL 1 y (by rw [hy]; rfl)
  have hyl : y.length ≤ 8000 := by have := yy HSZ y (by rw [hy]; simp); rw [bg] at this; omega
  unfold bW at c1
  have HL2 : Hid (bh s.data.toList = if y = [] then none else some ⟨3, y, 0⟩) := yz (by rw [yy HL, hy]; rfl)
  obtain ⟨yb, hyb⟩ : ∃ yb : ByteArray, (⟨y.toArray⟩ : ByteArray) = yb := ⟨_, rfl⟩
  rw [hyb] at c1
  have HY := yz hyb
  clear hyb hy
  have r0 := (yy R1).cell 0 _ rfl
  have f0 := (yy R1).free 0
  have x0 := (yy X1).cell 0 _ rfl
  have r1 := (yy R1).cell 1 _ rfl
  have f1 := (yy R1).free 1
  have x1 := (yy X1).cell 1 _ rfl
  have r2 := (yy R1).cell 2 _ rfl
  have f2 := (yy R1).free 2
  have x2 := (yy X1).cell 2 _ rfl
  have fx := (yy X1).free 1
  have hne : xb ≠ w.heap.size := by omega
  have hne' : w.heap.size ≠ xb := by omega
  by_cases hz : y = []
  ·have he : (yb.toList == []) = true := oO (l := []) (by rw [← yy HY, hz])
   have HR : Hid (bh s.data.toList = none) := yz (by rw [yy HL2, if_pos hz])
   go_wp2
   go_region
   all_goals
    go_wp2
    refine bodyPost_ret (v := .tuple #[.agg #[.string ⟨#[109, 111, 118, 101]⟩, .string yb, .int .i64 0], .bool false]) ?_ rfl ⟨cy (yy HR) _ _ _, ?_⟩
    ·refine bT _ _ w.heap.size _ _ _ false rfl rfl ?_ ?_ ?_ <;> go_simp
    ·refine Below.drew ?_
     iterate 3 (refine Below.setCell ?_ (Nat.le_refl w.heap.size) _)
     refine Below.setCell ?_ (Nat.le_of_lt hrl) _
     exact yy B1
  ·have he : (yb.toList == []) = false := fe (l := []) (fun e => hz (by rw [← yy HY] at e; have := congrArg (fun b : ByteArray => b.data.toList) e; simpa using this))
   have HR := yz (show bh s.data.toList = some ⟨3, y, 0⟩ by rw [yy HL2, if_neg hz])
   have HE : Hid (dV s (.returned (.tuple #[.agg #[.string ⟨#[109, 111, 118, 101]⟩, .string yb, .int .i64 0], .bool true]))) := yz (by rw [← yy HY]; exact eF (yy HR))
   go_wp2
   go_region
   all_goals
    go_wp2
    refine bodyPost_ret (v := .tuple #[.agg #[.string ⟨#[109, 111, 118, 101]⟩, .string yb, .int .i64 0], .bool true]) ?_ rfl ⟨yy HE, ?_⟩
    ·refine bT _ _ w.heap.size _ _ _ true rfl rfl ?_ ?_ ?_ <;> go_simp
    ·refine Below.drew ?_
     iterate 3 (refine Below.setCell ?_ (Nat.le_refl w.heap.size) _)
     refine Below.setCell ?_ (Nat.le_of_lt hrl) _
     exact yy B1
 ·have hb : ((m : Int) == 2) = false := by simpa using (show (m : Int) ≠ 2 by omega)
  have HR : Hid (bh s.data.toList = none) := yz (by
   rw [yy HL]
   have h := yy HM
   match r, h with
   | [], _ => rfl
   | [y], h => simp at h; omega
   | y :: y2 :: ys, _ => rfl)
  have r0 := (yy R1).cell 0 _ rfl
  have f0 := (yy R1).free 0
  have x0 := (yy X1).cell 0 _ rfl
  have r1 := (yy R1).cell 1 _ rfl
  have f1 := (yy R1).free 1
  have x1 := (yy X1).cell 1 _ rfl
  have r2 := (yy R1).cell 2 _ rfl
  have f2 := (yy R1).free 2
  have x2 := (yy X1).cell 2 _ rfl
  go_wp2
  refine bodyPost_ret (v := .tuple #[.agg #[.string ⟨#[109, 111, 118, 101]⟩, .string ⟨#[]⟩, .int .i64 0], .bool false]) ?_ rfl ⟨cy (yy HR) _ _ _, ?_⟩
  ·refine bT _ _ w.heap.size _ _ _ false rfl rfl ?_ ?_ ?_ <;> go_simp
  ·skip
   iterate 3 (refine Below.setCell ?_ (Nat.le_refl w.heap.size) _)
   exact yy B1
theorem qM (s : ByteArray) (r : List (List UInt8)) (w : World) (hs : s.size ≤ 8000) (hp : pcs 32 s.data.toList = iJ :: r) :
  Calls Tryz.prog 10 #[.string s] w fun e w' => dV s e ∧ Below w.heap.size w w' := by
 have HL : Hid (bh s.data.toList = gw 4 r) := yz (by rw [eZ hp]; rfl)
 have HSZ := yz (go 32 s.data.toList)
 have HCT := yz (eM 32 s.data.toList)
 have cS : Hid (Calls Tryz.prog 7 #[.string s, .int .u8 32] (w.alloc (.cells #[.string ⟨#[]⟩, .string ⟨#[]⟩, .int .i64 0] 43)) fun e w' => (∃ v, e = .returned v ∧ dK w' (w.alloc (.cells #[.string ⟨#[]⟩, .string ⟨#[]⟩, .int .i64 0] 43)).heap.size v (iJ :: r)) ∧ Below (w.alloc (.cells #[.string ⟨#[]⟩, .string ⟨#[]⟩, .int .i64 0] 43)).heap.size (w.alloc (.cells #[.string ⟨#[]⟩, .string ⟨#[]⟩, .int .i64 0] 43)) w') := yz (by have := ce s 32 (w.alloc (.cells #[.string ⟨#[]⟩, .string ⟨#[]⟩, .int .i64 0] 43)) hs; rw [hp] at this; exact this)
 rw [hp] at HSZ HCT
 clear hp
 have B0 := yz (an w (.cells #[.string ⟨#[]⟩, .string ⟨#[]⟩, .int .i64 0] 43))
 have R0 := yz (ap w [.string ⟨#[]⟩, .string ⟨#[]⟩, .int .i64 0] 43)
 go_enter Tryz.func10, Tryz.ntmps10
 go_wp2_with fail
 refine (yy cS).mono ?_
 rintro e w1 ⟨⟨v, rfl, ht⟩, hx⟩
 obtain ⟨g, cap, rfl, hc1, hc2, hgb, hg, hcell⟩ := ee ht (by simp)
 have hm8 : maxLen ≤ 9223372036854775807 := by decide +kernel
 have Z := an w1 (.cells #[.string ⟨#[114, 101, 115, 101, 116]⟩, .string ⟨#[]⟩, .int .i64 0] 43)
 have B1 := yz (ak (ak (yy B0) hx) Z)
 have R1 := yz (((yy R0).kept hx).kept Z)
 have X1 := yz (ap w1 [.string ⟨#[114, 101, 115, 101, 116]⟩, .string ⟨#[]⟩, .int .i64 0] 43)
 have c0 : w1.cell? ⟨g, 0, none⟩ = some (.string ⟨#[114, 101, 115, 101, 116]⟩) := hcell 0 _ rfl
 have d0 := eD c0 Z
 have HCL := yz (fun (j : Nat) x h => eD (hcell j x h) Z)
 have hrl : w.heap.size < w1.heap.size := by have := hx.size; have := (yy R0).lt; omega
 clear cS ht hx hcell Z R0 B0
 obtain ⟨m, hm⟩ : ∃ m, (iJ :: r).length = m := ⟨_, rfl⟩
 have HM := yz hm
 rw [hm] at hc1 HCT ⊢
 have hm1 : 1 ≤ m := by rw [← hm]; simp
 have hm9 : m ≤ 8001 := by have := yy HCT; rw [bg] at this; omega
 clear hm
 go_upto_region 3 with fail
 clear c0
 generalize w1.alloc (.cells #[.string ⟨#[114, 101, 115, 101, 116]⟩, .string ⟨#[]⟩, .int .i64 0] 43) = W2 at *
 generalize w1.heap.size = xb at *
 have r0 := (yy R1).cell 0 _ rfl
 have f0 := (yy R1).free 0
 have x0 := (yy X1).cell 0 _ rfl
 have r1 := (yy R1).cell 1 _ rfl
 have f1 := (yy R1).free 1
 have x1 := (yy X1).cell 1 _ rfl
 have r2 := (yy R1).cell 2 _ rfl
 have f2 := (yy R1).free 2
 have x2 := (yy X1).cell 2 _ rfl
 by_cases h1 : m = 1
 ·subst h1
  have HR : Hid (bh s.data.toList = some ⟨4, [], 0⟩) := yz (by
   have : r = [] := by have := yy HM; simpa using this
   rw [yy HL, this]
   rfl)
  go_wp2
  refine bodyPost_ret (v := .tuple #[.agg #[.string ⟨#[114, 101, 115, 101, 116]⟩, .string ⟨#[]⟩, .int .i64 0], .bool true]) ?_ rfl ⟨eF (yy HR), ?_⟩
  ·refine bT _ _ w.heap.size _ _ _ true rfl rfl ?_ ?_ ?_ <;> go_simp
  ·skip
   iterate 3 (refine Below.setCell ?_ (Nat.le_refl w.heap.size) _)
   exact yy B1
 ·have hb : ((m : Int) == 1) = false := by simpa using (show (m : Int) ≠ 1 by omega)
  have HR : Hid (bh s.data.toList = none) := yz (by
   have : r ≠ [] := fun e => by have h := yy HM; rw [e] at h; simp at h; omega
   rw [yy HL]
   match r, this with
   | y :: ys, _ => rfl)
  go_wp2
  refine bodyPost_ret (v := .tuple #[.agg #[.string ⟨#[114, 101, 115, 101, 116]⟩, .string ⟨#[]⟩, .int .i64 0], .bool false]) ?_ rfl ⟨cy (yy HR) _ _ _, ?_⟩
  ·refine bT _ _ w.heap.size _ _ _ false rfl rfl ?_ ?_ ?_ <;> go_simp
  ·skip
   iterate 3 (refine Below.setCell ?_ (Nat.le_refl w.heap.size) _)
   exact yy B1
theorem uO (s : ByteArray) (r : List (List UInt8)) (w : World) (hs : s.size ≤ 8000) (hp : pcs 32 s.data.toList = rn :: r) :
  Calls Tryz.prog 10 #[.string s] w fun e w' => dV s e ∧ Below w.heap.size w w' := by
 have HL : Hid (bh s.data.toList = iH 5 r) := yz (by rw [eZ hp]; rfl)
 have HSZ := yz (go 32 s.data.toList)
 have HCT := yz (eM 32 s.data.toList)
 have cS : Hid (Calls Tryz.prog 7 #[.string s, .int .u8 32] (w.alloc (.cells #[.string ⟨#[]⟩, .string ⟨#[]⟩, .int .i64 0] 43)) fun e w' => (∃ v, e = .returned v ∧ dK w' (w.alloc (.cells #[.string ⟨#[]⟩, .string ⟨#[]⟩, .int .i64 0] 43)).heap.size v (rn :: r)) ∧ Below (w.alloc (.cells #[.string ⟨#[]⟩, .string ⟨#[]⟩, .int .i64 0] 43)).heap.size (w.alloc (.cells #[.string ⟨#[]⟩, .string ⟨#[]⟩, .int .i64 0] 43)) w') := yz (by have := ce s 32 (w.alloc (.cells #[.string ⟨#[]⟩, .string ⟨#[]⟩, .int .i64 0] 43)) hs; rw [hp] at this; exact this)
 rw [hp] at HSZ HCT
 clear hp
 have B0 := yz (an w (.cells #[.string ⟨#[]⟩, .string ⟨#[]⟩, .int .i64 0] 43))
 have R0 := yz (ap w [.string ⟨#[]⟩, .string ⟨#[]⟩, .int .i64 0] 43)
 go_enter Tryz.func10, Tryz.ntmps10
 go_wp2_with fail
 refine (yy cS).mono ?_
 rintro e w1 ⟨⟨v, rfl, ht⟩, hx⟩
 obtain ⟨g, cap, rfl, hc1, hc2, hgb, hg, hcell⟩ := ee ht (by simp)
 have hm8 : maxLen ≤ 9223372036854775807 := by decide +kernel
 have Z := an w1 (.cells #[.string ⟨#[115, 101, 101]⟩, .string ⟨#[]⟩, .int .i64 0] 43)
 have B1 := yz (ak (ak (yy B0) hx) Z)
 have R1 := yz (((yy R0).kept hx).kept Z)
 have X1 := yz (ap w1 [.string ⟨#[115, 101, 101]⟩, .string ⟨#[]⟩, .int .i64 0] 43)
 have c0 : w1.cell? ⟨g, 0, none⟩ = some (.string ⟨#[115, 101, 101]⟩) := hcell 0 _ rfl
 have d0 := eD c0 Z
 have HCL := yz (fun (j : Nat) x h => eD (hcell j x h) Z)
 have hrl : w.heap.size < w1.heap.size := by have := hx.size; have := (yy R0).lt; omega
 clear cS ht hx hcell Z R0 B0
 obtain ⟨m, hm⟩ : ∃ m, (rn :: r).length = m := ⟨_, rfl⟩
 have HM := yz hm
 rw [hm] at hc1 HCT ⊢
 have hm1 : 1 ≤ m := by rw [← hm]; simp
 have hm9 : m ≤ 8001 := by have := yy HCT; rw [bg] at this; omega
 clear hm
 go_upto_region 3 with fail
 clear c0
 generalize w1.alloc (.cells #[.string ⟨#[115, 101, 101]⟩, .string ⟨#[]⟩, .int .i64 0] 43) = W2 at *
 generalize w1.heap.size = xb at *
 by_cases h2 : m = 2
 ·subst h2
  obtain ⟨y, hy⟩ : ∃ y, r = [y] := by
   have h := yy HM
   match r, h with
   | [y], _ => exact ⟨y, rfl⟩
  have c1 := yy HCL 1 y (by rw [hy]; rfl)
  have hyl : y.length ≤ 8000 := by have := yy HSZ y (by rw [hy]; simp); rw [bg] at this; omega
  unfold bW at c1
  have HL2 : Hid (bh s.data.toList = if fq y = true then some ⟨5, [], jg y⟩ else none) := yz (by rw [yy HL, hy]; rfl)
  obtain ⟨yb, hyb⟩ : ∃ yb : ByteArray, (⟨y.toArray⟩ : ByteArray) = yb := ⟨_, rfl⟩
  rw [hyb] at c1
  have hys : yb.size ≤ 8000 := by rw [← hyb]; show y.toArray.size ≤ 8000; simpa using hyl
  have HY : Hid (yb.data.toList = y) := yz (by rw [← hyb])
  have cN := yz (fun W => pS yb W hys)
  rw [yy HY] at cN
  clear hyb hy
  obtain ⟨z, hz⟩ : ∃ z : Int, (if fq y = true then jg y else -1) = z := ⟨_, rfl⟩
  rw [hz] at cN
  have HZ := yz hz
  clear hz
  go_wp2_with fail
  refine (yy cN _).mono ?_
  rintro e W3 ⟨rfl, hw3⟩
  rw [hw3]
  clear hw3 W3
  have r0 := (yy R1).cell 0 _ rfl
  have f0 := (yy R1).free 0
  have x0 := (yy X1).cell 0 _ rfl
  have r1 := (yy R1).cell 1 _ rfl
  have f1 := (yy R1).free 1
  have x1 := (yy X1).cell 1 _ rfl
  have r2 := (yy R1).cell 2 _ rfl
  have f2 := (yy R1).free 2
  have x2 := (yy X1).cell 2 _ rfl
  have fx := (yy X1).free 2
  have hne : xb ≠ w.heap.size := by omega
  have hne' : w.heap.size ≠ xb := by omega
  by_cases hq : fq y = true
  ·have HR := yz (show bh s.data.toList = some ⟨5, [], z⟩ by rw [yy HL2, if_pos hq, ← yy HZ, if_pos hq])
   have hz0 : decide (0 ≤ z) = true := decide_eq_true (by have := yy HZ; rw [if_pos hq] at this; rw [← this]; exact nX hq)
   go_wp2
   go_region
   all_goals
    go_wp2
    refine bodyPost_ret (v := .tuple #[.agg #[.string ⟨#[115, 101, 101]⟩, .string ⟨#[]⟩, .int .i64 z], .bool true]) ?_ rfl ⟨eF (yy HR), ?_⟩
    ·refine bT _ _ w.heap.size _ _ _ true rfl rfl ?_ ?_ ?_ <;> go_simp
    ·refine Below.drew ?_
     iterate 3 (refine Below.setCell ?_ (Nat.le_refl w.heap.size) _)
     refine Below.setCell ?_ (Nat.le_of_lt hrl) _
     exact yy B1
  ·have HR := yz (show bh s.data.toList = none by rw [yy HL2, if_neg hq])
   have hz0 : decide (0 ≤ z) = false := decide_eq_false (by have := yy HZ; rw [if_neg hq] at this; omega)
   go_wp2
   go_region
   all_goals
    go_wp2
    refine bodyPost_ret (v := .tuple #[.agg #[.string ⟨#[115, 101, 101]⟩, .string ⟨#[]⟩, .int .i64 z], .bool false]) ?_ rfl ⟨cy (yy HR) _ _ _, ?_⟩
    ·refine bT _ _ w.heap.size _ _ _ false rfl rfl ?_ ?_ ?_ <;> go_simp
    ·refine Below.drew ?_
     iterate 3 (refine Below.setCell ?_ (Nat.le_refl w.heap.size) _)
     refine Below.setCell ?_ (Nat.le_of_lt hrl) _
     exact yy B1
 ·have hb : ((m : Int) == 2) = false := by simpa using (show (m : Int) ≠ 2 by omega)
  have HR : Hid (bh s.data.toList = none) := yz (by
   rw [yy HL]
   have h := yy HM
   match r, h with
   | [], _ => rfl
   | [y], h => simp at h; omega
   | y :: y2 :: ys, _ => rfl)
  have r0 := (yy R1).cell 0 _ rfl
  have f0 := (yy R1).free 0
  have x0 := (yy X1).cell 0 _ rfl
  have r1 := (yy R1).cell 1 _ rfl
  have f1 := (yy R1).free 1
  have x1 := (yy X1).cell 1 _ rfl
  have r2 := (yy R1).cell 2 _ rfl
  have f2 := (yy R1).free 2
  have x2 := (yy X1).cell 2 _ rfl
  go_wp2
  refine bodyPost_ret (v := .tuple #[.agg #[.string ⟨#[115, 101, 101]⟩, .string ⟨#[]⟩, .int .i64 0], .bool false]) ?_ rfl ⟨cy (yy HR) _ _ _, ?_⟩
  ·refine bT _ _ w.heap.size _ _ _ false rfl rfl ?_ ?_ ?_ <;> go_simp
  ·skip
   iterate 3 (refine Below.setCell ?_ (Nat.le_refl w.heap.size) _)
   exact yy B1
theorem qV (s : ByteArray) (r : List (List UInt8)) (w : World) (hs : s.size ≤ 8000) (hp : pcs 32 s.data.toList = iO :: r) :
  Calls Tryz.prog 10 #[.string s] w fun e w' => dV s e ∧ Below w.heap.size w w' := by
 have HL : Hid (bh s.data.toList = gw 6 r) := yz (by rw [eZ hp]; rfl)
 have HSZ := yz (go 32 s.data.toList)
 have HCT := yz (eM 32 s.data.toList)
 have cS : Hid (Calls Tryz.prog 7 #[.string s, .int .u8 32] (w.alloc (.cells #[.string ⟨#[]⟩, .string ⟨#[]⟩, .int .i64 0] 43)) fun e w' => (∃ v, e = .returned v ∧ dK w' (w.alloc (.cells #[.string ⟨#[]⟩, .string ⟨#[]⟩, .int .i64 0] 43)).heap.size v (iO :: r)) ∧ Below (w.alloc (.cells #[.string ⟨#[]⟩, .string ⟨#[]⟩, .int .i64 0] 43)).heap.size (w.alloc (.cells #[.string ⟨#[]⟩, .string ⟨#[]⟩, .int .i64 0] 43)) w') := yz (by have := ce s 32 (w.alloc (.cells #[.string ⟨#[]⟩, .string ⟨#[]⟩, .int .i64 0] 43)) hs; rw [hp] at this; exact this)
 rw [hp] at HSZ HCT
 clear hp
 have B0 := yz (an w (.cells #[.string ⟨#[]⟩, .string ⟨#[]⟩, .int .i64 0] 43))
 have R0 := yz (ap w [.string ⟨#[]⟩, .string ⟨#[]⟩, .int .i64 0] 43)
 go_enter Tryz.func10, Tryz.ntmps10
 go_wp2_with fail
 refine (yy cS).mono ?_
 rintro e w1 ⟨⟨v, rfl, ht⟩, hx⟩
 obtain ⟨g, cap, rfl, hc1, hc2, hgb, hg, hcell⟩ := ee ht (by simp)
 have hm8 : maxLen ≤ 9223372036854775807 := by decide +kernel
 have Z := an w1 (.cells #[.string ⟨#[115, 116, 97, 116, 101]⟩, .string ⟨#[]⟩, .int .i64 0] 43)
 have B1 := yz (ak (ak (yy B0) hx) Z)
 have R1 := yz (((yy R0).kept hx).kept Z)
 have X1 := yz (ap w1 [.string ⟨#[115, 116, 97, 116, 101]⟩, .string ⟨#[]⟩, .int .i64 0] 43)
 have c0 : w1.cell? ⟨g, 0, none⟩ = some (.string ⟨#[115, 116, 97, 116, 101]⟩) := hcell 0 _ rfl
 have d0 := eD c0 Z
 have HCL := yz (fun (j : Nat) x h => eD (hcell j x h) Z)
 have hrl : w.heap.size < w1.heap.size := by have := hx.size; have := (yy R0).lt; omega
 clear cS ht hx hcell Z R0 B0
 obtain ⟨m, hm⟩ : ∃ m, (iO :: r).length = m := ⟨_, rfl⟩
 have HM := yz hm
 rw [hm] at hc1 HCT ⊢
 have hm1 : 1 ≤ m := by rw [← hm]; simp
 have hm9 : m ≤ 8001 := by have := yy HCT; rw [bg] at this; omega
 clear hm
 go_upto_region 3 with fail
 clear c0
 generalize w1.alloc (.cells #[.string ⟨#[115, 116, 97, 116, 101]⟩, .string ⟨#[]⟩, .int .i64 0] 43) = W2 at *
 generalize w1.heap.size = xb at *
 have r0 := (yy R1).cell 0 _ rfl
 have f0 := (yy R1).free 0
 have x0 := (yy X1).cell 0 _ rfl
 have r1 := (yy R1).cell 1 _ rfl
 have f1 := (yy R1).free 1
 have x1 := (yy X1).cell 1 _ rfl
 have r2 := (yy R1).cell 2 _ rfl
 have f2 := (yy R1).free 2
 have x2 := (yy X1).cell 2 _ rfl
 by_cases h1 : m = 1
 ·subst h1
  have HR : Hid (bh s.data.toList = some ⟨6, [], 0⟩) := yz (by
   have : r = [] := by have := yy HM; simpa using this
   rw [yy HL, this]
   rfl)
  go_wp2
  refine bodyPost_ret (v := .tuple #[.agg #[.string ⟨#[115, 116, 97, 116, 101]⟩, .string ⟨#[]⟩, .int .i64 0], .bool true]) ?_ rfl ⟨eF (yy HR), ?_⟩
  ·refine bT _ _ w.heap.size _ _ _ true rfl rfl ?_ ?_ ?_ <;> go_simp
  ·skip
   iterate 3 (refine Below.setCell ?_ (Nat.le_refl w.heap.size) _)
   exact yy B1
 ·have hb : ((m : Int) == 1) = false := by simpa using (show (m : Int) ≠ 1 by omega)
  have HR : Hid (bh s.data.toList = none) := yz (by
   have : r ≠ [] := fun e => by have h := yy HM; rw [e] at h; simp at h; omega
   rw [yy HL]
   match r, this with
   | y :: ys, _ => rfl)
  go_wp2
  refine bodyPost_ret (v := .tuple #[.agg #[.string ⟨#[115, 116, 97, 116, 101]⟩, .string ⟨#[]⟩, .int .i64 0], .bool false]) ?_ rfl ⟨cy (yy HR) _ _ _, ?_⟩
  ·refine bT _ _ w.heap.size _ _ _ false rfl rfl ?_ ?_ ?_ <;> go_simp
  ·skip
   iterate 3 (refine Below.setCell ?_ (Nat.le_refl w.heap.size) _)
   exact yy B1
theorem tW (s : ByteArray) (p0 : List UInt8) (r : List (List UInt8)) (w : World) (hs : s.size ≤ 8000) (hp : pcs 32 s.data.toList = p0 :: r) (nBlind : p0 ≠ iP) (nDrift : p0 ≠ iI) (nIds : p0 ≠ qP) (nMove : p0 ≠ kW) (nReset : p0 ≠ iJ) (nSee : p0 ≠ rn) (nState : p0 ≠ iO) :
  Calls Tryz.prog 10 #[.string s] w fun e w' => dV s e ∧ Below w.heap.size w w' := by
 have HL : Hid (bh s.data.toList = none) := yz (by rw [eZ hp, if_neg nBlind, if_neg nDrift, if_neg nIds, if_neg nMove, if_neg nReset, if_neg nSee, if_neg nState])
 obtain ⟨pb, hpb⟩ : ∃ pb : ByteArray, (⟨p0.toArray⟩ : ByteArray) = pb := ⟨_, rfl⟩
 have eBlind : (pb.toList == [98, 108, 105, 110, 100]) = false := fe (l := [98, 108, 105, 110, 100]) (fun e => nBlind (by rw [← hpb] at e; have := congrArg (fun b : ByteArray => b.data.toList) e; simpa [iP] using this))
 have eDrift : (pb.toList == [100, 114, 105, 102, 116]) = false := fe (l := [100, 114, 105, 102, 116]) (fun e => nDrift (by rw [← hpb] at e; have := congrArg (fun b : ByteArray => b.data.toList) e; simpa [iI] using this))
 have eIds : (pb.toList == [105, 100, 115]) = false := fe (l := [105, 100, 115]) (fun e => nIds (by rw [← hpb] at e; have := congrArg (fun b : ByteArray => b.data.toList) e; simpa [qP] using this))
 have eMove : (pb.toList == [109, 111, 118, 101]) = false := fe (l := [109, 111, 118, 101]) (fun e => nMove (by rw [← hpb] at e; have := congrArg (fun b : ByteArray => b.data.toList) e; simpa [kW] using this))
 have eReset : (pb.toList == [114, 101, 115, 101, 116]) = false := fe (l := [114, 101, 115, 101, 116]) (fun e => nReset (by rw [← hpb] at e; have := congrArg (fun b : ByteArray => b.data.toList) e; simpa [iJ] using this))
 have eSee : (pb.toList == [115, 101, 101]) = false := fe (l := [115, 101, 101]) (fun e => nSee (by rw [← hpb] at e; have := congrArg (fun b : ByteArray => b.data.toList) e; simpa [rn] using this))
 have eState : (pb.toList == [115, 116, 97, 116, 101]) = false := fe (l := [115, 116, 97, 116, 101]) (fun e => nState (by rw [← hpb] at e; have := congrArg (fun b : ByteArray => b.data.toList) e; simpa [iO] using this))
 have HCT := yz (eM 32 s.data.toList)
 have cS : Hid (Calls Tryz.prog 7 #[.string s, .int .u8 32] (w.alloc (.cells #[.string ⟨#[]⟩, .string ⟨#[]⟩, .int .i64 0] 43)) fun e w' => (∃ v, e = .returned v ∧ dK w' (w.alloc (.cells #[.string ⟨#[]⟩, .string ⟨#[]⟩, .int .i64 0] 43)).heap.size v (p0 :: r)) ∧ Below (w.alloc (.cells #[.string ⟨#[]⟩, .string ⟨#[]⟩, .int .i64 0] 43)).heap.size (w.alloc (.cells #[.string ⟨#[]⟩, .string ⟨#[]⟩, .int .i64 0] 43)) w') := yz (by have := ce s 32 (w.alloc (.cells #[.string ⟨#[]⟩, .string ⟨#[]⟩, .int .i64 0] 43)) hs; rw [hp] at this; exact this)
 rw [hp] at HCT
 clear hp
 have B0 := yz (an w (.cells #[.string ⟨#[]⟩, .string ⟨#[]⟩, .int .i64 0] 43))
 have R0 := yz (ap w [.string ⟨#[]⟩, .string ⟨#[]⟩, .int .i64 0] 43)
 go_enter Tryz.func10, Tryz.ntmps10
 go_wp2_with fail
 refine (yy cS).mono ?_
 rintro e w1 ⟨⟨v, rfl, ht⟩, hx⟩
 obtain ⟨g, cap, rfl, hc1, hc2, hgb, hg, hcell⟩ := ee ht (by simp)
 have hm8 : maxLen ≤ 9223372036854775807 := by decide +kernel
 have Z := an w1 (.cells #[.string pb, .string ⟨#[]⟩, .int .i64 0] 43)
 have B1 := yz (ak (ak (yy B0) hx) Z)
 have R1 := yz (((yy R0).kept hx).kept Z)
 have X1 := yz (ap w1 [.string pb, .string ⟨#[]⟩, .int .i64 0] 43)
 have c0 : w1.cell? ⟨g, 0, none⟩ = some (.string pb) := by rw [← hpb]; exact hcell 0 _ rfl
 have d0 := eD c0 Z
 have HCL := yz (fun (j : Nat) x h => eD (hcell j x h) Z)
 have hrl : w.heap.size < w1.heap.size := by have := hx.size; have := (yy R0).lt; omega
 clear cS ht hx hcell Z R0 B0
 obtain ⟨m, hm⟩ : ∃ m, (p0 :: r).length = m := ⟨_, rfl⟩
 have HM := yz hm
 rw [hm] at hc1 HCT ⊢
 have hm1 : 1 ≤ m := by rw [← hm]; simp
 have hm9 : m ≤ 8001 := by have := yy HCT; rw [bg] at this; omega
 clear hm
 go_upto_region 3 with fail
 clear c0
 generalize w1.alloc (.cells #[.string pb, .string ⟨#[]⟩, .int .i64 0] 43) = W2 at *
 generalize w1.heap.size = xb at *
 have r0 := (yy R1).cell 0 _ rfl
 have f0 := (yy R1).free 0
 have x0 := (yy X1).cell 0 _ rfl
 have r1 := (yy R1).cell 1 _ rfl
 have f1 := (yy R1).free 1
 have x1 := (yy X1).cell 1 _ rfl
 have r2 := (yy R1).cell 2 _ rfl
 have f2 := (yy R1).free 2
 have x2 := (yy X1).cell 2 _ rfl
 clear hpb
 go_wp2
 refine bodyPost_ret (v := .tuple #[.agg #[.string pb, .string ⟨#[]⟩, .int .i64 0], .bool false]) ?_ rfl ⟨cy (yy HL) _ _ _, ?_⟩
 ·refine bT _ _ w.heap.size _ _ _ false rfl rfl ?_ ?_ ?_ <;> go_simp
 ·skip
  iterate 3 (refine Below.setCell ?_ (Nat.le_refl w.heap.size) _)
  exact yy B1
theorem vK (s : ByteArray) (w : World) (hs : s.size ≤ 8000) :
  Calls Tryz.prog 10 #[.string s] w fun e w' => dV s e ∧ Below w.heap.size w w' := by
 cases hp : pcs 32 s.data.toList with
 | nil => exact absurd hp (jD _ _)
 | cons p0 r =>
  by_cases nBlind : p0 = iP
  ·subst nBlind
   exact qS s r w hs hp
  by_cases nDrift : p0 = iI
  ·subst nDrift
   exact qL s r w hs hp
  by_cases nIds : p0 = qP
  ·subst nIds
   exact uI s r w hs hp
  by_cases nMove : p0 = kW
  ·subst nMove
   exact ug s r w hs hp
  by_cases nReset : p0 = iJ
  ·subst nReset
   exact qM s r w hs hp
  by_cases nSee : p0 = rn
  ·subst nSee
   exact uO s r w hs hp
  by_cases nState : p0 = iO
  ·subst nState
   exact qV s r w hs hp
  exact tW s p0 r w hs hp nBlind nDrift nIds nMove nReset nSee nState
end
end Go.Proofs.YtlleafjdgblhcaaGreatDoor
