/- Several texts in one: ModI, ModK, ModQ, ModF, ModR, ModS, LkA. -/
import Derived.BigRegion
import Derived.Test.YtjdehbpgdplolaaGreatDoorQLookOwn18
import Derived.Test.YtjdehbpgdplolaaGreatDoorQLookOwn6
namespace Go.Proofs.YtjdehbpgdplolaaGreatDoor
open Go.RowKit Go.Sort
set_option linter.unusedVariables false
set_option linter.unusedSimpArgs false

theorem stepAppend {P : Program} {ops : Array Oper} {o : Oper} {a : Act} {w : World} {K : Act → World → Prop} {Q : Exit → Act → World → Prop} {E : Prop} (hgd : o.guard = none) (s x : Operand) (t : TypeId)
    (ho : o.op = .call { callee := .builtin .append, args := #[s, x], argTypes := #[t, t] })
    (base : Nat) (e : TypeId) (i : TypeInfo) (z : Value) (size bytes : Nat) (ht : P.underlying t = some (.slice e)) (hi : P.info? e = some i) (hz : i.zero = some z)
    (hsize : i.size = size) (hby : i.bytes = bytes) (hzs : z.cells.size = size) (hsz : 0 < size)
    (v : Value) (n : Nat) (xs : List Value) (hs : a.eval s = v) (hown : w.ownsRow base e size v n xs)
    (ad : Addr) (m c : Nat) (news : List Value) (hx : a.eval x = .slice (some ad) m c) (hl : news.length = m * size) (hnews : ∀ j u, news[j]? = some u → w.cell? (ad.add j) = some u) (h1 : ∀ u ∈ news, u.oneCell' = true)
    (h63 : n + m ≤ maxLen) (hbytes : (n + m) * bytes ≤ 140737488355328) (hbase : base ≤ w.heap.size)
    (h : ∀ v' w', w'.ownsRow base e size v' (n + m) (xs ++ news) → w.grownBy w' v.ownBlock → K (a.put o.dst v') w') : if Region.wanted o (yielded ops a.tmps) = true then Oper.wp P o a w K Q else E := by
  have hw : Region.wanted o (yielded ops a.tmps) = true := by simp [Region.wanted, hgd]
  rw [if_pos hw]
  exact wp_append_own w s x t ho base e i z size bytes ht hi hz hsize hby hzs hsz v n xs hs hown ad m c news hx hl hnews h1 h63 hbytes hbase fun v' w' h2 h3 _ => h v' w' h2 h3

set_option maxHeartbeats 8000000 in
set_option maxRecDepth 100000 in
theorem workOf_any (L : List St) (lim mode A B C D coast fr : Int) (b o c : Nat) (w : World) (hn : L.length ≤ 1048576) (hS : Stars w (some ⟨b, o, none⟩) L L.length) :
    Calls Tryz.prog 27 #[.agg #[.slice (some ⟨b, o, none⟩) L.length c, .int .i64 lim, .int .i64 mode, .int .i64 A, .int .i64 B, .int .i64 C, .int .i64 D, .int .i64 coast, .int .i64 fr]] w fun e w' => ∃ a cap, e = .returned (.agg #[.slice a L.length cap, .int .i64 lim, .int .i64 mode, .int .i64 A, .int .i64 B, .int .i64 C, .int .i64 D, .int .i64 coast, .int .i64 fr]) ∧ Copied w' (w.heap.size + 2) L a cap ∧ Below w.heap.size w w' := by
  have B0 := below2 w (.cells #[.slice (some ⟨b, o, none⟩) L.length c, .int .i64 lim, .int .i64 mode, .int .i64 A, .int .i64 B, .int .i64 C, .int .i64 D, .int .i64 coast, .int .i64 fr] 33) (.cells #[.slice none 0 0, .int .i64 0, .int .i64 0, .int .i64 0, .int .i64 0, .int .i64 0, .int .i64 0, .int .i64 0, .int .i64 0] 60)
  have S1 := hide (hS.kept B0)
  have S0 := (tkAt_new w (.slice (some ⟨b, o, none⟩) L.length c) lim mode A B C D coast fr 33).kept (below1 _ (.cells #[.slice none 0 0, .int .i64 0, .int .i64 0, .int .i64 0, .int .i64 0, .int .i64 0, .int .i64 0, .int .i64 0, .int .i64 0] 60))
  have R0 := (by simpa using tkAt_new (w.alloc (.cells #[.slice (some ⟨b, o, none⟩) L.length c, .int .i64 lim, .int .i64 mode, .int .i64 A, .int .i64 B, .int .i64 C, .int .i64 D, .int .i64 coast, .int .i64 fr] 33)) (.slice none 0 0) 0 0 0 0 0 0 0 0 60 : TkAt ((w.alloc (.cells #[.slice (some ⟨b, o, none⟩) L.length c, .int .i64 lim, .int .i64 mode, .int .i64 A, .int .i64 B, .int .i64 C, .int .i64 D, .int .i64 coast, .int .i64 fr] 33)).alloc (.cells #[.slice none 0 0, .int .i64 0, .int .i64 0, .int .i64 0, .int .i64 0, .int .i64 0, .int .i64 0, .int .i64 0, .int .i64 0] 60)) (w.heap.size + 1) (.slice none 0 0) 0 0 0 0 0 0 0 0)
  have G0 := (by simpa using freeK_new (w.alloc (.cells #[.slice (some ⟨b, o, none⟩) L.length c, .int .i64 lim, .int .i64 mode, .int .i64 A, .int .i64 B, .int .i64 C, .int .i64 D, .int .i64 coast, .int .i64 fr] 33)) #[.slice none 0 0, .int .i64 0, .int .i64 0, .int .i64 0, .int .i64 0, .int .i64 0, .int .i64 0, .int .i64 0, .int .i64 0] 60 : FreeK ((w.alloc (.cells #[.slice (some ⟨b, o, none⟩) L.length c, .int .i64 lim, .int .i64 mode, .int .i64 A, .int .i64 B, .int .i64 C, .int .i64 D, .int .i64 coast, .int .i64 fr] 33)).alloc (.cells #[.slice none 0 0, .int .i64 0, .int .i64 0, .int .i64 0, .int .i64 0, .int .i64 0, .int .i64 0, .int .i64 0, .int .i64 0] 60)) (w.heap.size + 1))
  have HB := hide B0
  have HS := hide S0
  have HR := hide R0
  have HG := hide G0
  have hsz : ((w.alloc (.cells #[.slice (some ⟨b, o, none⟩) L.length c, .int .i64 lim, .int .i64 mode, .int .i64 A, .int .i64 B, .int .i64 C, .int .i64 D, .int .i64 coast, .int .i64 fr] 33)).alloc (.cells #[.slice none 0 0, .int .i64 0, .int .i64 0, .int .i64 0, .int .i64 0, .int .i64 0, .int .i64 0, .int .i64 0, .int .i64 0] 60)).heap.size = w.heap.size + 2 := by simp
  clear B0 S0 R0 G0 hS
  obtain ⟨i0, hinf, hz0, hz1, hz2⟩ := info_parts info_star
  go_enter Tryz.func27, Tryz.ntmps27
  go_wp2_with fail
  generalize (w.alloc (.cells #[.slice (some ⟨b, o, none⟩) L.length c, .int .i64 lim, .int .i64 mode, .int .i64 A, .int .i64 B, .int .i64 C, .int .i64 D, .int .i64 coast, .int .i64 fr] 33)).alloc (.cells #[.slice none 0 0, .int .i64 0, .int .i64 0, .int .i64 0, .int .i64 0, .int .i64 0, .int .i64 0, .int .i64 0, .int .i64 0] 60) = W at *
  obtain ⟨s0, s1, s2, s3, s4, s5, s6, s7, s8⟩ := unhide HS
  refine wp_region_held_drew (S := (fun w' => w'.cell? ⟨w.heap.size, 0, none⟩ = some (.slice (some ⟨b, o, none⟩) L.length c) ∧ w'.cell? ⟨w.heap.size, 1, none⟩ = some (.int .i64 lim) ∧ w'.cell? ⟨w.heap.size, 2, none⟩ = some (.int .i64 mode) ∧ w'.cell? ⟨w.heap.size, 3, none⟩ = some (.int .i64 A) ∧ w'.cell? ⟨w.heap.size, 4, none⟩ = some (.int .i64 B) ∧ w'.cell? ⟨w.heap.size, 5, none⟩ = some (.int .i64 C) ∧ w'.cell? ⟨w.heap.size, 6, none⟩ = some (.int .i64 D) ∧ w'.cell? ⟨w.heap.size, 7, none⟩ = some (.int .i64 coast) ∧ w'.cell? ⟨w.heap.size, 8, none⟩ = some (.int .i64 fr))) (by kernel_rfl) ?_ (fun hHeld => ?_)
  · exact ⟨s0, s1, s2, s3, s4, s5, s6, s7, s8⟩
  refine wpAnyH_take (i := 0) (v := ?_) rfl (by kernel_rfl) (by kernel_rfl) (by kernel_rfl) (fun _ _ _ h => h) (Or.inl ⟨by rfl, ?_⟩) (by assumption) ?_
  rotate_left
  · intro W0 hSw; (try dsimp only at hSw); go_simp <;> with_reducible rfl
  try simp only [Act.put, List.setIfInBounds_toArray, List.set_cons_zero, List.set_cons_succ]
  refine wpAnyH_take (i := 1) (v := ?_) rfl (by kernel_rfl) (by kernel_rfl) (by kernel_rfl) (fun _ _ _ h => h) (Or.inl ⟨by rfl, ?_⟩) (by assumption) ?_
  rotate_left
  · intro W0 hSw; (try dsimp only at hSw); go_simp <;> with_reducible rfl
  try simp only [Act.put, List.setIfInBounds_toArray, List.set_cons_zero, List.set_cons_succ]
  refine wpAnyH_take (i := 4) (v := ?_) rfl (by kernel_rfl) (by kernel_rfl) (by kernel_rfl) (fun _ _ _ h => h) (Or.inl ⟨by rfl, ?_⟩) (by assumption) ?_
  rotate_left
  · intro W0 hSw; (try dsimp only at hSw); go_simp <;> with_reducible rfl
  try simp only [Act.put, List.setIfInBounds_toArray, List.set_cons_zero, List.set_cons_succ]
  refine wpAnyH_take (i := 5) (v := ?_) rfl (by kernel_rfl) (by kernel_rfl) (by kernel_rfl) (fun _ _ _ h => h) (Or.inl ⟨by rfl, ?_⟩) (by assumption) ?_
  rotate_left
  · intro W0 hSw; (try dsimp only at hSw); go_simp <;> with_reducible rfl
  try simp only [Act.put, List.setIfInBounds_toArray, List.set_cons_zero, List.set_cons_succ]
  refine wpAnyH_take (i := 6) (v := ?_) rfl (by kernel_rfl) (by kernel_rfl) (by kernel_rfl) (fun _ _ _ h => h) (Or.inl ⟨by rfl, ?_⟩) (by assumption) ?_
  rotate_left
  · intro W0 hSw; (try dsimp only at hSw); go_simp <;> with_reducible rfl
  try simp only [Act.put, List.setIfInBounds_toArray, List.set_cons_zero, List.set_cons_succ]
  refine wpAnyH_take (i := 7) (v := ?_) rfl (by kernel_rfl) (by kernel_rfl) (by kernel_rfl) (fun _ _ _ h => h) (Or.inl ⟨by rfl, ?_⟩) (by assumption) ?_
  rotate_left
  · intro W0 hSw; (try dsimp only at hSw); go_simp <;> with_reducible rfl
  try simp only [Act.put, List.setIfInBounds_toArray, List.set_cons_zero, List.set_cons_succ]
  refine wpAnyH_take (i := 8) (v := ?_) rfl (by kernel_rfl) (by kernel_rfl) (by kernel_rfl) (fun _ _ _ h => h) (Or.inl ⟨by rfl, ?_⟩) (by assumption) ?_
  rotate_left
  · intro W0 hSw; (try dsimp only at hSw); go_simp <;> with_reducible rfl
  try simp only [Act.put, List.setIfInBounds_toArray, List.set_cons_zero, List.set_cons_succ]
  refine wpAnyH_take (i := 9) (v := ?_) rfl (by kernel_rfl) (by kernel_rfl) (by kernel_rfl) (fun _ _ _ h => h) (Or.inl ⟨by rfl, ?_⟩) (by assumption) ?_
  rotate_left
  · intro W0 hSw; (try dsimp only at hSw); go_simp <;> with_reducible rfl
  try simp only [Act.put, List.setIfInBounds_toArray, List.set_cons_zero, List.set_cons_succ]
  refine wpAnyH_take (i := 10) (v := ?_) rfl (by kernel_rfl) (by kernel_rfl) (by kernel_rfl) (fun _ _ _ h => h) (Or.inl ⟨by rfl, ?_⟩) (by assumption) ?_
  rotate_left
  · intro W0 hSw; (try dsimp only at hSw); go_simp <;> with_reducible rfl
  try simp only [Act.put, List.setIfInBounds_toArray, List.set_cons_zero, List.set_cons_succ]
  refine wpAnyH_take (i := 11) (v := ?_) rfl (by kernel_rfl) (by kernel_rfl) (by kernel_rfl) (fun _ _ _ h => h) (Or.inl ⟨by rfl, ?_⟩) (by assumption) ?_
  rotate_left
  · intro W0 hSw; (try dsimp only at hSw); go_simp <;> with_reducible rfl
  try simp only [Act.put, List.setIfInBounds_toArray, List.set_cons_zero, List.set_cons_succ]
  refine wpAnyH_take (i := 12) (v := ?_) rfl (by kernel_rfl) (by kernel_rfl) (by kernel_rfl) (fun _ _ _ h => h) (Or.inl ⟨by rfl, ?_⟩) (by assumption) ?_
  rotate_left
  · intro W0 hSw; (try dsimp only at hSw); go_simp <;> with_reducible rfl
  try simp only [Act.put, List.setIfInBounds_toArray, List.set_cons_zero, List.set_cons_succ]
  refine wpAnyH_take (i := 13) (v := ?_) rfl (by kernel_rfl) (by kernel_rfl) (by kernel_rfl) (fun _ _ _ h => h) (Or.inl ⟨by rfl, ?_⟩) (by assumption) ?_
  rotate_left
  · intro W0 hSw; (try dsimp only at hSw); go_simp <;> with_reducible rfl
  try simp only [Act.put, List.setIfInBounds_toArray, List.set_cons_zero, List.set_cons_succ]
  have S1d : Stars W.drew (some ⟨b, o, none⟩) L L.length := (unhide S1).kept (Below.refl _ _).drew
  have HBd : Below w.heap.size w W.drew := (unhide HB).drew
  have R0d : TkAt W.drew (w.heap.size + 1) (.slice none 0 0) 0 0 0 0 0 0 0 0 := unhide HR
  have G0d : FreeK W.drew (w.heap.size + 1) := unhide HG
  have hszd : W.drew.heap.size = w.heap.size + 2 := hsz
  refine wpAnyH_ready (rs := [2]) (by kernel_rfl) (by simp) ?_
  refine AllReadyH.cons rfl (fun K hK => ?_) AllReadyH.nil
  have hnil : W.drew.ownsRow (w.heap.size + 2) 85 4 (.slice none 0 0) 0 [] := World.ownsRow_nil _ _ _ _
  have hcells := stars_cells S1d
  refine (if_pos (by kernel_rfl)).mpr ?_
  simp only [List.getElem_toArray, List.getElem_cons_succ, List.getElem_cons_zero]
  generalize hA : ({ tmps := _, defers := _ } : Act) = aa
  have hf0 : aa.eval (Operand.const (Value.slice none 0 0)) = .slice none 0 0 := by subst hA; simp [go_sem]
  have hf1 : aa.eval (Operand.tmp 4) = .slice (some ⟨b, o, none⟩) L.length c := by subst hA; simp [go_sem]
  refine wp_append_own W.drew (Operand.const (Value.slice none 0 0)) (Operand.tmp 4) 30 rfl (w.heap.size + 2) 85 i0 (.agg #[.int .i64 0, .int .i64 0, .int .i64 0, .int .i64 0]) 4 32 Tryz.underlying30 hinf hz0 hz1 hz2 rfl (by decide) (.slice none 0 0) 0 [] hf0 hnil ⟨b, o, none⟩ L.length c (flatSt L) hf1 (flatSt_len L) hcells (fun u hu => flatSt_one hu) ?d1 ?d2 ?d3 ?_
  case d1 => have : 1048576 ≤ maxLen := by decide +kernel
             omega
  case d2 => omega
  case d3 => omega
  intro v' w1 ho hg _
  subst hA
  rw [Nat.zero_add, List.nil_append] at ho
  obtain ⟨a, cap, rfl, hC⟩ := copied_form ho
  have B1 := hide (belowR HBd hg HBd.size (fun g e => by simp [Value.ownBlock] at e))
  have S2 : TkAt w1 w.heap.size (.slice (some ⟨b, o, none⟩) L.length c) lim mode A B C D coast fr := TkAt.grown (w := W.drew) (unhide HS) hg (by simp [Value.ownBlock])
  have R2 := hide (R0d.grown hg (by simp [Value.ownBlock]))
  have G2 := hide (G0d.grown R0d.lt hg (by simp [Value.ownBlock]))
  have C1 := hide hC
  clear ho hg hC s0 s1 s2 s3 s4 s5 s6 s7 s8
  obtain ⟨s0, s1, s2, s3, s4, s5, s6, s7, s8⟩ := S2
  refine hK.out _ _ ?_ (fun hHeld1 => ?_)
  · exact ⟨s0, s1, s2, s3, s4, s5, s6, s7, s8⟩
  clear hK K hHeld hf0 hf1 hcells hnil
  try simp only [Act.put, List.setIfInBounds_toArray, List.set_cons_zero, List.set_cons_succ]
  refine wpAnyH_take (i := 3) (v := ?_) rfl (by kernel_rfl) (by kernel_rfl) (by kernel_rfl) (fun _ _ _ h => h) (Or.inl ⟨by rfl, ?_⟩) (by assumption) ?_
  rotate_left
  · intro W0 hSw; (try dsimp only at hSw); go_simp <;> with_reducible rfl
  try simp only [Act.put, List.setIfInBounds_toArray, List.set_cons_zero, List.set_cons_succ]
  refine wpAnyH_take (i := 14) (v := ?_) rfl (by kernel_rfl) (by kernel_rfl) (by kernel_rfl) (fun _ _ _ h => h) (Or.inl ⟨by rfl, ?_⟩) (by assumption) ?_
  rotate_left
  · intro W0 hSw; (try dsimp only at hSw); go_simp <;> with_reducible rfl
  try simp only [Act.put, List.setIfInBounds_toArray, List.set_cons_zero, List.set_cons_succ]
  obtain ⟨r0, r1, r2, r3, r4, r5, r6, r7, r8⟩ := unhide R2
  have g0 := unhide G2 0
  have g1 := unhide G2 1
  have g2 := unhide G2 2
  have g3 := unhide G2 3
  have g4 := unhide G2 4
  have g5 := unhide G2 5
  have g6 := unhide G2 6
  have g7 := unhide G2 7
  have g8 := unhide G2 8
  refine wpAnyH_ready (rs := [15]) (by kernel_rfl) (by simp) ?_
  refine AllReadyH.cons rfl (fun K hK => ?_) AllReadyH.nil
  go_simp
  have S3 : Hid (TkAt w1 w.heap.size (.slice (some ⟨b, o, none⟩) L.length c) lim mode A B C D coast fr) := hide ⟨s0, s1, s2, s3, s4, s5, s6, s7, s8⟩
  clear s0 s1 s2 s3 s4 s5 s6 s7 s8 r0 r1 r2 r3 r4 r5 r6 r7 r8 g0 g1 g2 g3 g4 g5 g6 g7 g8
  refine hK.out _ _ ?_ (fun hHeld2 => ?_)
  · show TkAt _ w.heap.size (.slice (some ⟨b, o, none⟩) L.length c) lim mode A B C D coast fr
    iterate 9 (refine TkAt.far ?_ (show w.heap.size ≠ w.heap.size + 1 by omega) _ _)
    exact unhide S3
  clear hK K hHeld1
  refine wpAnyH_done (by kernel_rfl) ?_ _
  clear hHeld2
  go_wp2_with fail
  refine bodyPost_ret (v := .agg #[.slice a L.length cap, .int .i64 lim, .int .i64 mode, .int .i64 A, .int .i64 B, .int .i64 C, .int .i64 D, .int .i64 coast, .int .i64 fr]) ?_ rfl ⟨a, cap, rfl, ?_, ?_⟩
  · refine res_workOf _ _ (w.heap.size + 1) _ lim mode A B C D coast fr rfl ?_
    exact tkAt_set9 (lim0 := 0) (mode0 := 0) (A0 := 0) (B0 := 0) (C0 := 0) (D0 := 0) (coast0 := 0) (fr0 := 0) (u := .slice none 0 0) (unhide R2) _ lim mode A B C D coast fr
  · iterate 9 (refine Copied.far ?_ (show w.heap.size + 1 < w.heap.size + 2 by omega) _ _)
    exact unhide C1
  · iterate 9 (refine belowSet ?_ (show w.heap.size ≤ w.heap.size + 1 by omega) _ _)
    exact unhide B1
end Go.Proofs.YtjdehbpgdplolaaGreatDoor

namespace Go.Proofs.YtjdehbpgdplolaaGreatDoor
open Go.RowKit Go.Sort
set_option linter.unusedVariables false

end Go.Proofs.YtjdehbpgdplolaaGreatDoor

namespace Go.Proofs.YtjdehbpgdplolaaGreatDoor
open Go.RowKit Go.Sort
set_option linter.unusedVariables false

def coV1 (g1 g2 g3 g4 a b c d : Int) : Int := coP g1 g2 g3 g4 a b c d (coA g1 g2 g3 g4 a b c d)
def coV2 (g1 g2 g3 g4 a b c d : Int) : Int := coP g1 g2 g3 g4 a b c d (coB g1 g2 g3 g4 a b c d)
def coV3 (g1 g2 g3 g4 a b c d : Int) : Int := coP g1 g2 g3 g4 a b c d (coC g1 g2 g3 g4 a b c d)
def coV4 (g1 g2 g3 g4 a b c d : Int) : Int := coP g1 g2 g3 g4 a b c d (coD g1 g2 g3 g4 a b c d)
def turnedT (t : Tk) (g1 g2 g3 g4 : Int) : Tk := if t.mode = 0 then t else if coK g1 g2 g3 g4 t.A t.B t.C t.D = 0 then { t with A := coV1 g1 g2 g3 g4 t.A t.B t.C t.D, B := coV2 g1 g2 g3 g4 t.A t.B t.C t.D, C := coV3 g1 g2 g3 g4 t.A t.B t.C t.D, D := coV4 g1 g2 g3 g4 t.A t.B t.C t.D } else lostT t
def tkV (a : Option Addr) (n c : Nat) (t : Tk) : Value := .agg #[.slice a n c, .int .i64 t.lim, .int .i64 t.mode, .int .i64 t.A, .int .i64 t.B, .int .i64 t.C, .int .i64 t.D, .int .i64 t.coast, .int .i64 t.fr]
theorem tkAt_setT {w : World} {b : Nat} {u : Value} {lim mode A0 B0 C0 D0 coast fr : Int} (h : TkAt w b u lim mode A0 B0 C0 D0 coast fr) (A B C D : Int) : TkAt ((((w.setCell ⟨b, 3, none⟩ (.int .i64 A)).setCell ⟨b, 4, none⟩ (.int .i64 B)).setCell ⟨b, 5, none⟩ (.int .i64 C)).setCell ⟨b, 6, none⟩ (.int .i64 D)) b u lim mode A B C D coast fr := by
  obtain ⟨h0, h1, h2, h3, h4, h5, h6, h7, h8⟩ := h
  refine ⟨?_, ?_, ?_, ?_, ?_, ?_, ?_, ?_, ?_⟩ <;> simp [go_sem, h0, h1, h2, h3, h4, h5, h6, h7, h8]

end Go.Proofs.YtjdehbpgdplolaaGreatDoor

namespace Go.Proofs.YtjdehbpgdplolaaGreatDoor
open Go.RowKit Go.Sort
set_option linter.unusedVariables false

theorem stepTkZ {w1 wx wn : World} {X : Prop} (hx : Below wx.heap.size wx wn) (h : X ∧ Below w1.heap.size w1 wx) : Below w1.heap.size w1 wn := below_call h.2 hx
theorem stepTkD {w1 wx wn : World} {X : Prop} (hx : Below wx.drew.heap.size wx.drew wn) (h : X ∧ Below w1.heap.size w1 wx) : Below w1.heap.size w1 wn := h.2.drew.trans (hx.mono h.2.size)
theorem holdTT {w1 wx : World} {P Q : Nat} {u v : Value} {lim mode A B C D coast fr : Int} (ta : TkAt w1 P u lim mode A B C D coast fr) (tb : TkAt w1 Q v lim mode A B C D coast fr) (h : Below w1.heap.size w1 wx) : ((wx.cell? ⟨P, 0, none⟩ = some (u) ∧ wx.cell? ⟨P, 1, none⟩ = some (.int .i64 lim) ∧ wx.cell? ⟨P, 2, none⟩ = some (.int .i64 mode) ∧ wx.cell? ⟨P, 3, none⟩ = some (.int .i64 A) ∧ wx.cell? ⟨P, 4, none⟩ = some (.int .i64 B) ∧ wx.cell? ⟨P, 5, none⟩ = some (.int .i64 C) ∧ wx.cell? ⟨P, 6, none⟩ = some (.int .i64 D) ∧ wx.cell? ⟨P, 7, none⟩ = some (.int .i64 coast) ∧ wx.cell? ⟨P, 8, none⟩ = some (.int .i64 fr)) ∧ (wx.cell? ⟨Q, 0, none⟩ = some (v) ∧ wx.cell? ⟨Q, 1, none⟩ = some (.int .i64 lim) ∧ wx.cell? ⟨Q, 2, none⟩ = some (.int .i64 mode) ∧ wx.cell? ⟨Q, 3, none⟩ = some (.int .i64 A) ∧ wx.cell? ⟨Q, 4, none⟩ = some (.int .i64 B) ∧ wx.cell? ⟨Q, 5, none⟩ = some (.int .i64 C) ∧ wx.cell? ⟨Q, 6, none⟩ = some (.int .i64 D) ∧ wx.cell? ⟨Q, 7, none⟩ = some (.int .i64 coast) ∧ wx.cell? ⟨Q, 8, none⟩ = some (.int .i64 fr))) ∧ Below w1.heap.size w1 wx := ⟨⟨ta.kept h, tb.kept h⟩, h⟩

end Go.Proofs.YtjdehbpgdplolaaGreatDoor

namespace Go.Proofs.YtjdehbpgdplolaaGreatDoor
open Go.RowKit Go.Sort
set_option linter.unusedVariables false

def gyroOk (t : Tk) (g1 g2 g3 g4 : Int) : Bool := trackB t && rightT g1 g2 g3 g4
def gyroT (t : Tk) (g1 g2 g3 g4 : Int) : Tk := if gyroOk t g1 g2 g3 g4 = true then turnedT t g1 g2 g3 g4 else zeroK
def gyroC (t : Tk) (g1 g2 g3 g4 : Int) : Int := if gyroOk t g1 g2 g3 g4 = true then 0 else 1
theorem turned_L (t : Tk) (g1 g2 g3 g4 : Int) : (turnedT t g1 g2 g3 g4).L = t.L := by
  unfold turnedT
  split
  · rfl
  · split <;> rfl
theorem Copied.off {w : World} {B : Nat} {L : List St} {a : Option Addr} {cap : Nat} (h : Copied w B L a cap) {b : Nat} (hne : ∀ x, a = some x → x.block ≠ b) (o : Nat) (y : Value) : Copied (w.setCell ⟨b, o, none⟩ y) B L a cap := by
  obtain ⟨h1, h2⟩ := h
  refine ⟨h1, ?_⟩
  rcases h2 with h2 | ⟨g, c', cur, e, hg, hh, r⟩
  · exact .inl h2
  · injection e with e1 e2 e3
    exact .inr ⟨g, c', cur, by rw [e1, e2, e3], hg, by rw [Below.heap_setCell w ⟨b, o, none⟩ y g (fun e => hne _ e1 e)]; exact hh, r⟩
end Go.Proofs.YtjdehbpgdplolaaGreatDoor

namespace Go.Proofs.YtjdehbpgdplolaaGreatDoor
open Go.RowKit Go.Sort
set_option linter.unusedVariables false
set_option linter.unusedSimpArgs false

theorem TurnAt.far {w : World} {b : Nat} {p q r s : Int} (h : TurnAt w b p q r s) {b' : Nat} (hne : b ≠ b') (o : Nat) (x : Value) : TurnAt (w.setCell ⟨b', o, none⟩ x) b p q r s := by
  obtain ⟨h0, h1, h2, h3⟩ := h
  refine ⟨?_, ?_, ?_, ?_⟩ <;> (rw [World.cell?_setCell_far _ _ _ _ (Ne.symm hne)]; assumption)
end Go.Proofs.YtjdehbpgdplolaaGreatDoor

namespace Go.Proofs.YtjdehbpgdplolaaGreatDoor
open Go.RowKit Go.Sort
set_option linter.unusedVariables false
set_option linter.unusedSimpArgs false

def trackT (t : Tk) (p q r s : Int) : Tk := { t with mode := 1, A := p, B := q, C := r, D := s, coast := 0 }
def unseenT (t : Tk) : Tk := if t.mode = 0 then t else if t.lim < t.coast + 1 then lostT t else { t with mode := 2, coast := t.coast + 1 }
theorem res_tracking (T : Array Value) (X : World) (b : Nat) (v : Value) (lim mode A B C D coast fr : Int) (hT : T.getD 4 undef = .pointer (some ⟨b, 0, none⟩)) (h : TkAt X b v lim mode A B C D coast fr) : (results Tryz.f53 T).run Tryz.prog X = .ok (.agg #[v, .int .i64 lim, .int .i64 mode, .int .i64 A, .int .i64 B, .int .i64 C, .int .i64 D, .int .i64 coast, .int .i64 fr]) X := by
  obtain ⟨h0, h1, h2, h3, h4, h5, h6, h7, h8⟩ := h
  simp only [Array.getD_eq_getD_getElem?] at hT
  simp [results, Tryz.results53, go_sem, hT, h0, h1, h2, h3, h4, h5, h6, h7, h8]
theorem res_unseeing (T : Array Value) (X : World) (b : Nat) (v : Value) (lim mode A B C D coast fr : Int) (hT : T.getD 2 undef = .pointer (some ⟨b, 0, none⟩)) (h : TkAt X b v lim mode A B C D coast fr) : (results Tryz.f55 T).run Tryz.prog X = .ok (.agg #[v, .int .i64 lim, .int .i64 mode, .int .i64 A, .int .i64 B, .int .i64 C, .int .i64 D, .int .i64 coast, .int .i64 fr]) X := by
  obtain ⟨h0, h1, h2, h3, h4, h5, h6, h7, h8⟩ := h
  simp only [Array.getD_eq_getD_getElem?] at hT
  simp [results, Tryz.results55, go_sem, hT, h0, h1, h2, h3, h4, h5, h6, h7, h8]
theorem res_ltrack (T : Array Value) (X : World) (b : Nat) (v : Value) (lim mode A B C D coast fr code : Int) (hT : T.getD 4 undef = .pointer (some ⟨b, 0, none⟩)) (h : TkO X b v lim mode A B C D coast fr code) : (results Tryz.f43 T).run Tryz.prog X = .ok (.agg #[v, .int .i64 lim, .int .i64 mode, .int .i64 A, .int .i64 B, .int .i64 C, .int .i64 D, .int .i64 coast, .int .i64 fr, .int .i64 code]) X := by
  obtain ⟨⟨h0, h1, h2, h3, h4, h5, h6, h7, h8⟩, h9⟩ := h
  simp only [Array.getD_eq_getD_getElem?] at hT
  simp [results, Tryz.results43, go_sem, hT, h0, h1, h2, h3, h4, h5, h6, h7, h8, h9]

set_option maxHeartbeats 4000000 in
set_option maxRecDepth 100000 in
theorem tracking_any (lim mode A B C D coast fr p q r s : Int) (a : Option Addr) (n c : Nat) (w : World) :
    Calls Tryz.prog 53 #[.agg #[.slice a n c, .int .i64 lim, .int .i64 mode, .int .i64 A, .int .i64 B, .int .i64 C, .int .i64 D, .int .i64 coast, .int .i64 fr], .agg #[.int .i64 p, .int .i64 q, .int .i64 r, .int .i64 s]] w fun e w' => e = .returned (.agg #[.slice a n c, .int .i64 lim, .int .i64 1, .int .i64 p, .int .i64 q, .int .i64 r, .int .i64 s, .int .i64 0, .int .i64 fr]) ∧ Below w.heap.size w w' := by
  go_enter Tryz.func53, Tryz.ntmps53
  go_wp2_with fail
  go_region
  go_wp2
  exact bodyPost_ret (v := .agg #[.slice a n c, .int .i64 lim, .int .i64 1, .int .i64 p, .int .i64 q, .int .i64 r, .int .i64 s, .int .i64 0, .int .i64 fr]) (by simp [results, Tryz.results53, go_sem]) rfl ⟨rfl, (below3 _ _ _ _).drew⟩

set_option maxHeartbeats 2000000 in
set_option maxRecDepth 100000 in
theorem l07Track_any (lim mode A B C D coast fr p q r s : Int) (a : Option Addr) (n c : Nat) (w : World) :
    Calls Tryz.prog 43 #[.agg #[.slice a n c, .int .i64 lim, .int .i64 mode, .int .i64 A, .int .i64 B, .int .i64 C, .int .i64 D, .int .i64 coast, .int .i64 fr], .agg #[.int .i64 p, .int .i64 q, .int .i64 r, .int .i64 s]] w fun e w' => e = .returned (.agg #[.slice a n c, .int .i64 lim, .int .i64 1, .int .i64 p, .int .i64 q, .int .i64 r, .int .i64 s, .int .i64 0, .int .i64 fr, .int .i64 0]) ∧ Below w.heap.size w w' := by
  go_enter Tryz.func43, Tryz.ntmps43
  go_wp2
  exact bodyPost_ret (v := .agg #[.slice a n c, .int .i64 lim, .int .i64 1, .int .i64 p, .int .i64 q, .int .i64 r, .int .i64 s, .int .i64 0, .int .i64 fr, .int .i64 0]) (by simp [results, Tryz.results43, go_sem]) rfl ⟨rfl, below3 _ _ _ _⟩

set_option maxHeartbeats 4000000 in
set_option maxRecDepth 100000 in
theorem unseeing_any (L : List St) (lim mode A B C D coast fr : Int) (a : Option Addr) (n c : Nat) (w : World) (hm : mode = 0 ∨ mode = 1 ∨ mode = 2) (hc0 : 0 ≤ coast) (hc5 : coast ≤ 1000) :
    Calls Tryz.prog 55 #[.agg #[.slice a n c, .int .i64 lim, .int .i64 mode, .int .i64 A, .int .i64 B, .int .i64 C, .int .i64 D, .int .i64 coast, .int .i64 fr]] w fun e w' => e = .returned (tkV a n c (unseenT ⟨L, lim, mode, A, B, C, D, coast, fr⟩)) ∧ Below w.heap.size w w' := by
  have hw : wrap64 (coast + 1) = coast + 1 := wrap_id (by omega) (by omega)
  rcases hm with rfl | rfl | rfl
  · have HO : Hid (tkV a n c (unseenT ⟨L, lim, 0, A, B, C, D, coast, fr⟩) = .agg #[.slice a n c, .int .i64 lim, .int .i64 0, .int .i64 A, .int .i64 B, .int .i64 C, .int .i64 D, .int .i64 coast, .int .i64 fr]) := hide (by unfold unseenT tkV; rw [if_pos rfl])
    go_enter Tryz.func55, Tryz.ntmps55
    go_wp2
    rw [unhide HO]
    exact bodyPost_ret (v := .agg #[.slice a n c, .int .i64 lim, .int .i64 0, .int .i64 A, .int .i64 B, .int .i64 C, .int .i64 D, .int .i64 coast, .int .i64 fr]) (by simp [results, Tryz.results55, go_sem]) rfl ⟨rfl, below2 _ _ _⟩
  · by_cases hl : lim < coast + 1
    · have HO : Hid (tkV a n c (unseenT ⟨L, lim, 1, A, B, C, D, coast, fr⟩) = .agg #[.slice a n c, .int .i64 lim, .int .i64 0, .int .i64 0, .int .i64 0, .int .i64 0, .int .i64 0, .int .i64 0, .int .i64 fr]) := hide (by unfold unseenT tkV; rw [if_neg (by show ¬ (1 : Int) = 0; omega), if_pos hl]; rfl)
      have B0 := hide (below2 w (.cells #[.slice a n c, .int .i64 lim, .int .i64 2, .int .i64 A, .int .i64 B, .int .i64 C, .int .i64 D, .int .i64 (coast + 1), .int .i64 fr] 60) (.cells #[.slice none 0 0, .int .i64 0, .int .i64 0, .int .i64 0, .int .i64 0, .int .i64 0, .int .i64 0, .int .i64 0, .int .i64 0] 60))
      have R0 := hide (by simpa using blk_new (w.alloc (.cells #[.slice a n c, .int .i64 lim, .int .i64 2, .int .i64 A, .int .i64 B, .int .i64 C, .int .i64 D, .int .i64 (coast + 1), .int .i64 fr] 60)) [.slice none 0 0, .int .i64 0, .int .i64 0, .int .i64 0, .int .i64 0, .int .i64 0, .int .i64 0, .int .i64 0, .int .i64 0] 60 : Blk ((w.alloc (.cells #[.slice a n c, .int .i64 lim, .int .i64 2, .int .i64 A, .int .i64 B, .int .i64 C, .int .i64 D, .int .i64 (coast + 1), .int .i64 fr] 60)).alloc (.cells #[.slice none 0 0, .int .i64 0, .int .i64 0, .int .i64 0, .int .i64 0, .int .i64 0, .int .i64 0, .int .i64 0, .int .i64 0] 60)) (w.heap.size + 1) [.slice none 0 0, .int .i64 0, .int .i64 0, .int .i64 0, .int .i64 0, .int .i64 0, .int .i64 0, .int .i64 0, .int .i64 0] 60)
      go_enter Tryz.func55, Tryz.ntmps55
      go_wp2_with fail
      refine (wlost_any lim 2 A B C D (coast + 1) fr a n c _).mono ?_
      rintro e w1 ⟨rfl, hx⟩
      have B1 := hide (below_call (unhide B0) hx)
      have R1 := hide ((unhide R0).kept hx)
      clear hx B0 R0
      have r0 := (unhide R1).cell 0 _ rfl
      have r1 := (unhide R1).cell 1 _ rfl
      have r2 := (unhide R1).cell 2 _ rfl
      have r3 := (unhide R1).cell 3 _ rfl
      have r4 := (unhide R1).cell 4 _ rfl
      have r5 := (unhide R1).cell 5 _ rfl
      have r6 := (unhide R1).cell 6 _ rfl
      have r7 := (unhide R1).cell 7 _ rfl
      have r8 := (unhide R1).cell 8 _ rfl
      have g0 := (unhide R1).free 0
      have g1 := (unhide R1).free 1
      have g2 := (unhide R1).free 2
      have g3 := (unhide R1).free 3
      have g4 := (unhide R1).free 4
      have g5 := (unhide R1).free 5
      have g6 := (unhide R1).free 6
      have g7 := (unhide R1).free 7
      have g8 := (unhide R1).free 8
      go_wp2_with fail
      rw [unhide HO]
      refine bodyPost_ret (v := .agg #[.slice a n c, .int .i64 lim, .int .i64 0, .int .i64 0, .int .i64 0, .int .i64 0, .int .i64 0, .int .i64 0, .int .i64 fr]) ?_ rfl ⟨rfl, ?_⟩
      · exact res_unseeing _ _ (w.heap.size + 1) _ lim 0 0 0 0 0 0 fr rfl (tkAt_set9 (u := .slice none 0 0) ⟨r0, r1, r2, r3, r4, r5, r6, r7, r8⟩ _ lim 0 0 0 0 0 0 fr)
      · iterate 9 (refine belowSet ?_ (show w.heap.size ≤ w.heap.size + 1 by omega) _ _)
        exact unhide B1
    · have HO : Hid (tkV a n c (unseenT ⟨L, lim, 1, A, B, C, D, coast, fr⟩) = .agg #[.slice a n c, .int .i64 lim, .int .i64 2, .int .i64 A, .int .i64 B, .int .i64 C, .int .i64 D, .int .i64 (coast + 1), .int .i64 fr]) := hide (by unfold unseenT tkV; rw [if_neg (by show ¬ (1 : Int) = 0; omega), if_neg hl])
      go_enter Tryz.func55, Tryz.ntmps55
      go_wp2
      rw [unhide HO]
      exact bodyPost_ret (v := .agg #[.slice a n c, .int .i64 lim, .int .i64 2, .int .i64 A, .int .i64 B, .int .i64 C, .int .i64 D, .int .i64 (coast + 1), .int .i64 fr]) (by simp [results, Tryz.results55, go_sem]) rfl ⟨rfl, below2 _ _ _⟩
  · by_cases hl : lim < coast + 1
    · have HO : Hid (tkV a n c (unseenT ⟨L, lim, 2, A, B, C, D, coast, fr⟩) = .agg #[.slice a n c, .int .i64 lim, .int .i64 0, .int .i64 0, .int .i64 0, .int .i64 0, .int .i64 0, .int .i64 0, .int .i64 fr]) := hide (by unfold unseenT tkV; rw [if_neg (by show ¬ (2 : Int) = 0; omega), if_pos hl]; rfl)
      have B0 := hide (below2 w (.cells #[.slice a n c, .int .i64 lim, .int .i64 2, .int .i64 A, .int .i64 B, .int .i64 C, .int .i64 D, .int .i64 (coast + 1), .int .i64 fr] 60) (.cells #[.slice none 0 0, .int .i64 0, .int .i64 0, .int .i64 0, .int .i64 0, .int .i64 0, .int .i64 0, .int .i64 0, .int .i64 0] 60))
      have R0 := hide (by simpa using blk_new (w.alloc (.cells #[.slice a n c, .int .i64 lim, .int .i64 2, .int .i64 A, .int .i64 B, .int .i64 C, .int .i64 D, .int .i64 (coast + 1), .int .i64 fr] 60)) [.slice none 0 0, .int .i64 0, .int .i64 0, .int .i64 0, .int .i64 0, .int .i64 0, .int .i64 0, .int .i64 0, .int .i64 0] 60 : Blk ((w.alloc (.cells #[.slice a n c, .int .i64 lim, .int .i64 2, .int .i64 A, .int .i64 B, .int .i64 C, .int .i64 D, .int .i64 (coast + 1), .int .i64 fr] 60)).alloc (.cells #[.slice none 0 0, .int .i64 0, .int .i64 0, .int .i64 0, .int .i64 0, .int .i64 0, .int .i64 0, .int .i64 0, .int .i64 0] 60)) (w.heap.size + 1) [.slice none 0 0, .int .i64 0, .int .i64 0, .int .i64 0, .int .i64 0, .int .i64 0, .int .i64 0, .int .i64 0, .int .i64 0] 60)
      go_enter Tryz.func55, Tryz.ntmps55
      go_wp2_with fail
      refine (wlost_any lim 2 A B C D (coast + 1) fr a n c _).mono ?_
      rintro e w1 ⟨rfl, hx⟩
      have B1 := hide (below_call (unhide B0) hx)
      have R1 := hide ((unhide R0).kept hx)
      clear hx B0 R0
      have r0 := (unhide R1).cell 0 _ rfl
      have r1 := (unhide R1).cell 1 _ rfl
      have r2 := (unhide R1).cell 2 _ rfl
      have r3 := (unhide R1).cell 3 _ rfl
      have r4 := (unhide R1).cell 4 _ rfl
      have r5 := (unhide R1).cell 5 _ rfl
      have r6 := (unhide R1).cell 6 _ rfl
      have r7 := (unhide R1).cell 7 _ rfl
      have r8 := (unhide R1).cell 8 _ rfl
      have g0 := (unhide R1).free 0
      have g1 := (unhide R1).free 1
      have g2 := (unhide R1).free 2
      have g3 := (unhide R1).free 3
      have g4 := (unhide R1).free 4
      have g5 := (unhide R1).free 5
      have g6 := (unhide R1).free 6
      have g7 := (unhide R1).free 7
      have g8 := (unhide R1).free 8
      go_wp2_with fail
      rw [unhide HO]
      refine bodyPost_ret (v := .agg #[.slice a n c, .int .i64 lim, .int .i64 0, .int .i64 0, .int .i64 0, .int .i64 0, .int .i64 0, .int .i64 0, .int .i64 fr]) ?_ rfl ⟨rfl, ?_⟩
      · exact res_unseeing _ _ (w.heap.size + 1) _ lim 0 0 0 0 0 0 fr rfl (tkAt_set9 (u := .slice none 0 0) ⟨r0, r1, r2, r3, r4, r5, r6, r7, r8⟩ _ lim 0 0 0 0 0 0 fr)
      · iterate 9 (refine belowSet ?_ (show w.heap.size ≤ w.heap.size + 1 by omega) _ _)
        exact unhide B1
    · have HO : Hid (tkV a n c (unseenT ⟨L, lim, 2, A, B, C, D, coast, fr⟩) = .agg #[.slice a n c, .int .i64 lim, .int .i64 2, .int .i64 A, .int .i64 B, .int .i64 C, .int .i64 D, .int .i64 (coast + 1), .int .i64 fr]) := hide (by unfold unseenT tkV; rw [if_neg (by show ¬ (2 : Int) = 0; omega), if_neg hl])
      go_enter Tryz.func55, Tryz.ntmps55
      go_wp2
      rw [unhide HO]
      exact bodyPost_ret (v := .agg #[.slice a n c, .int .i64 lim, .int .i64 2, .int .i64 A, .int .i64 B, .int .i64 C, .int .i64 D, .int .i64 (coast + 1), .int .i64 fr]) (by simp [results, Tryz.results55, go_sem]) rfl ⟨rfl, below2 _ _ _⟩
end Go.Proofs.YtjdehbpgdplolaaGreatDoor
