/- Several texts in one: ModI, LwT, SkyW. -/
import Derived.Test.YtgiodlllokdcdaaGreatDoorRows
import Derived.Deep.Slices
import Derived.Deep.Strs
import Derived.Stop.LaidErr
import Derived.LaidHandle
import Derived.LaidMore
import Derived.ProofKit
import Derived.Test.YtgiodlllokdcdaaGreatDoorQFnModeOwn11
import Derived.Test.YtgiodlllokdcdaaGreatDoorQFnModeOwn1
import Derived.Test.YtgiodlllokdcdaaGreatDoorQFnModeOwn17
import Derived.Test.YtgiodlllokdcdaaGreatDoorQFnModeOwn2
namespace Go.Proofs.YtgiodlllokdcdaaGreatDoor
set_option linter.unusedVariables false
set_option linter.unusedSimpArgs false
set_option maxRecDepth 100000
set_option maxHeartbeats 8000000
section
open Go.RowKit Go.Sort
theorem gy (L : List St) (lim mode A B C D coast fr : Int) (ad : Option Addr) (c : Nat) (w : World) (hn : L.length ≤ 1048576) (hS : aH w ad L L.length) :
  Calls Tryz.prog 29 #[.agg #[.slice ad L.length c, .int .i64 lim, .int .i64 mode, .int .i64 A, .int .i64 B, .int .i64 C, .int .i64 D, .int .i64 coast, .int .i64 fr]] w fun e w' => ∃ a cap, e = .returned (.agg #[.slice a L.length cap, .int .i64 lim, .int .i64 mode, .int .i64 A, .int .i64 B, .int .i64 C, .int .i64 D, .int .i64 coast, .int .i64 fr]) ∧ aq w' (w.heap.size + 2) L a cap ∧ Below w.heap.size w w' := by
 have B0 := aM w (.cells #[.slice ad L.length c, .int .i64 lim, .int .i64 mode, .int .i64 A, .int .i64 B, .int .i64 C, .int .i64 D, .int .i64 coast, .int .i64 fr] 27) (.cells #[.slice none 0 0, .int .i64 0, .int .i64 0, .int .i64 0, .int .i64 0, .int .i64 0, .int .i64 0, .int .i64 0, .int .i64 0] 62)
 have S1 := yz (hS.kept B0)
 have S0 := (ck w (.slice ad L.length c) lim mode A B C D coast fr 27).kept (an _ (.cells #[.slice none 0 0, .int .i64 0, .int .i64 0, .int .i64 0, .int .i64 0, .int .i64 0, .int .i64 0, .int .i64 0, .int .i64 0] 62))
 have R0 := (by simpa using ck (w.alloc (.cells #[.slice ad L.length c, .int .i64 lim, .int .i64 mode, .int .i64 A, .int .i64 B, .int .i64 C, .int .i64 D, .int .i64 coast, .int .i64 fr] 27)) (.slice none 0 0) 0 0 0 0 0 0 0 0 62 : dj ((w.alloc (.cells #[.slice ad L.length c, .int .i64 lim, .int .i64 mode, .int .i64 A, .int .i64 B, .int .i64 C, .int .i64 D, .int .i64 coast, .int .i64 fr] 27)).alloc (.cells #[.slice none 0 0, .int .i64 0, .int .i64 0, .int .i64 0, .int .i64 0, .int .i64 0, .int .i64 0, .int .i64 0, .int .i64 0] 62)) (w.heap.size + 1) (.slice none 0 0) 0 0 0 0 0 0 0 0)
 have G0 := (by simpa using ce (w.alloc (.cells #[.slice ad L.length c, .int .i64 lim, .int .i64 mode, .int .i64 A, .int .i64 B, .int .i64 C, .int .i64 D, .int .i64 coast, .int .i64 fr] 27)) #[.slice none 0 0, .int .i64 0, .int .i64 0, .int .i64 0, .int .i64 0, .int .i64 0, .int .i64 0, .int .i64 0, .int .i64 0] 62 : ei ((w.alloc (.cells #[.slice ad L.length c, .int .i64 lim, .int .i64 mode, .int .i64 A, .int .i64 B, .int .i64 C, .int .i64 D, .int .i64 coast, .int .i64 fr] 27)).alloc (.cells #[.slice none 0 0, .int .i64 0, .int .i64 0, .int .i64 0, .int .i64 0, .int .i64 0, .int .i64 0, .int .i64 0, .int .i64 0] 62)) (w.heap.size + 1))
 have HB := yz B0
 have HS := yz S0
 have HR := yz R0
 have HG := yz G0
 have hsz : ((w.alloc (.cells #[.slice ad L.length c, .int .i64 lim, .int .i64 mode, .int .i64 A, .int .i64 B, .int .i64 C, .int .i64 D, .int .i64 coast, .int .i64 fr] 27)).alloc (.cells #[.slice none 0 0, .int .i64 0, .int .i64 0, .int .i64 0, .int .i64 0, .int .i64 0, .int .i64 0, .int .i64 0, .int .i64 0] 62)).heap.size = w.heap.size + 2 := by simp
 clear B0 S0 R0 G0 hS
 obtain ⟨i0, hinf, hz0, hz1, hz2⟩ := info_parts ip
 go_enter Tryz.func29, Tryz.ntmps29
 go_wp2_with fail
 generalize (w.alloc (.cells #[.slice ad L.length c, .int .i64 lim, .int .i64 mode, .int .i64 A, .int .i64 B, .int .i64 C, .int .i64 D, .int .i64 coast, .int .i64 fr] 27)).alloc (.cells #[.slice none 0 0, .int .i64 0, .int .i64 0, .int .i64 0, .int .i64 0, .int .i64 0, .int .i64 0, .int .i64 0, .int .i64 0] 62) = W at *
 obtain ⟨s0, s1, s2, s3, s4, s5, s6, s7, s8⟩ := yy HS
 refine wp_region_held_drew (S := (fun w' => w'.cell? ⟨w.heap.size, 0, none⟩ = some (.slice ad L.length c) ∧ w'.cell? ⟨w.heap.size, 1, none⟩ = some (.int .i64 lim) ∧ w'.cell? ⟨w.heap.size, 2, none⟩ = some (.int .i64 mode) ∧ w'.cell? ⟨w.heap.size, 3, none⟩ = some (.int .i64 A) ∧ w'.cell? ⟨w.heap.size, 4, none⟩ = some (.int .i64 B) ∧ w'.cell? ⟨w.heap.size, 5, none⟩ = some (.int .i64 C) ∧ w'.cell? ⟨w.heap.size, 6, none⟩ = some (.int .i64 D) ∧ w'.cell? ⟨w.heap.size, 7, none⟩ = some (.int .i64 coast) ∧ w'.cell? ⟨w.heap.size, 8, none⟩ = some (.int .i64 fr))) (by kernel_rfl) ?_ (fun hHeld => ?_)
 ·exact ⟨s0, s1, s2, s3, s4, s5, s6, s7, s8⟩
 refine ab 0 rfl ?_
 try simp only [Act.put, ag, ah, ai]
 refine ab 1 rfl ?_
 try simp only [Act.put, ag, ah, ai]
 refine ab 4 rfl ?_
 try simp only [Act.put, ag, ah, ai]
 refine ab 5 rfl ?_
 try simp only [Act.put, ag, ah, ai]
 refine ab 6 rfl ?_
 try simp only [Act.put, ag, ah, ai]
 refine ab 7 rfl ?_
 try simp only [Act.put, ag, ah, ai]
 refine ab 8 rfl ?_
 try simp only [Act.put, ag, ah, ai]
 refine ab 9 rfl ?_
 try simp only [Act.put, ag, ah, ai]
 refine ab 10 rfl ?_
 try simp only [Act.put, ag, ah, ai]
 refine ab 11 rfl ?_
 try simp only [Act.put, ag, ah, ai]
 refine ab 12 rfl ?_
 try simp only [Act.put, ag, ah, ai]
 refine ab 13 rfl ?_
 try simp only [Act.put, ag, ah, ai]
 have S1d : aH W.drew ad L L.length := (yy S1).kept (Below.refl _ _).drew
 have HBd : Below w.heap.size w W.drew := (yy HB).drew
 have R0d : dj W.drew (w.heap.size + 1) (.slice none 0 0) 0 0 0 0 0 0 0 0 := yy HR
 have G0d : ei W.drew (w.heap.size + 1) := yy HG
 have hszd : W.drew.heap.size = w.heap.size + 2 := hsz
 refine ae 2 rfl fun K hK => ?_
 have hnil : W.drew.ownsRow (w.heap.size + 2) 80 4 (.slice none 0 0) 0 [] := World.ownsRow_nil _ _ _ _
 have hcells := ew S1d
 refine (if_pos (by kernel_rfl)).mpr ?_
 simp only [List.getElem_toArray, List.getElem_cons_succ, List.getElem_cons_zero]
 generalize hA : ({ tmps := _, defers := _ } : Act) = aa
 have hf0 : aa.eval (Operand.const (Value.slice none 0 0)) = .slice none 0 0 := by subst hA; simp [go_sem]
 have hf1 : aa.eval (Operand.tmp 4) = .slice ad L.length c := by subst hA; simp [go_sem]
 refine bG W.drew (Operand.const (Value.slice none 0 0)) (Operand.tmp 4) 23 rfl (w.heap.size + 2) 80 i0 (.agg #[.int .i64 0, .int .i64 0, .int .i64 0, .int .i64 0]) 4 32 Tryz.underlying23 hinf hz0 hz1 hz2 rfl (by decide) (.slice none 0 0) 0 [] hf0 hnil ad L.length c (aS L) hf1 (dG L) (fo S1d) hcells (fun u hu => dX hu) ?d1 ?d2 ?d3 ?_
 case d1 =>
  have : 1048576 ≤ maxLen := by decide +kernel
  omega
 case d2 => omega
 case d3 => omega
 intro v' w1 ho hg
 subst hA
 rw [Nat.zero_add, List.nil_append] at ho
 obtain ⟨a, cap, rfl, hC⟩ := gG ho
 have B1 := yz (bP HBd hg HBd.size (fun g e => by simp [Value.ownBlock] at e))
 have S2 : dj w1 w.heap.size (.slice ad L.length c) lim mode A B C D coast fr := dj.grown (w := W.drew) (yy HS) hg (by simp [Value.ownBlock])
 have R2 := yz (R0d.grown hg (by simp [Value.ownBlock]))
 have G2 := yz (G0d.grown R0d.lt hg (by simp [Value.ownBlock]))
 have C1 := yz hC
 clear ho hg hC s0 s1 s2 s3 s4 s5 s6 s7 s8
 obtain ⟨s0, s1, s2, s3, s4, s5, s6, s7, s8⟩ := S2
 refine hK.out _ _ ?_ (fun hHeld1 => ?_)
 ·exact ⟨s0, s1, s2, s3, s4, s5, s6, s7, s8⟩
 clear hK K hHeld hf0 hf1 hcells hnil
 try simp only [Act.put, ag, ah, ai]
 refine ab 3 rfl ?_
 try simp only [Act.put, ag, ah, ai]
 refine ab 14 rfl ?_
 try simp only [Act.put, ag, ah, ai]
 obtain ⟨r0, r1, r2, r3, r4, r5, r6, r7, r8⟩ := yy R2
 have g0 := yy G2 0
 have g1 := yy G2 1
 have g2 := yy G2 2
 have g3 := yy G2 3
 have g4 := yy G2 4
 have g5 := yy G2 5
 have g6 := yy G2 6
 have g7 := yy G2 7
 have g8 := yy G2 8
 refine ae 15 rfl fun K hK => ?_
 go_simp
 have S3 : Hid (dj w1 w.heap.size (.slice ad L.length c) lim mode A B C D coast fr) := yz ⟨s0, s1, s2, s3, s4, s5, s6, s7, s8⟩
 clear s0 s1 s2 s3 s4 s5 s6 s7 s8 r0 r1 r2 r3 r4 r5 r6 r7 r8 g0 g1 g2 g3 g4 g5 g6 g7 g8
 refine hK.out _ _ ?_ (fun hHeld2 => ?_)
 ·show dj _ w.heap.size (.slice ad L.length c) lim mode A B C D coast fr
  iterate 9 (refine dj.far ?_ (show w.heap.size ≠ w.heap.size + 1 by omega) _ _)
  exact yy S3
 clear hK K hHeld1
 refine wpAnyH_done (by kernel_rfl) ?_ _
 clear hHeld2
 go_wp2_with fail
 refine bodyPost_ret (v := .agg #[.slice a L.length cap, .int .i64 lim, .int .i64 mode, .int .i64 A, .int .i64 B, .int .i64 C, .int .i64 D, .int .i64 coast, .int .i64 fr]) ?_ rfl ⟨a, cap, rfl, ?_, ?_⟩
 ·refine qS _ _ (w.heap.size + 1) _ lim mode A B C D coast fr rfl ?_
  exact di (lim0 := 0) (mode0 := 0) (A0 := 0) (B0 := 0) (C0 := 0) (D0 := 0) (coast0 := 0) (fr0 := 0) (u := .slice none 0 0) (yy R2) _ lim mode A B C D coast fr
 ·iterate 9 (refine aq.far ?_ (show w.heap.size + 1 < w.heap.size + 2 by omega) _ _)
  exact yy C1
 ·iterate 9 (refine aB ?_ (show w.heap.size ≤ w.heap.size + 1 by omega) _ _)
  exact yy B1
end
section
open Go.RowKit
end
section
open Go.RowKit Go.Deep Go.ChangeShapes
def iq : List (String × DataW Unit) := [("loop.example/g00577/impl.errNoSky", Rows.laid_loop_example_g00577_impl_errNoSky)]
theorem qk : "*" ++ "errors.errorString" = "*errors.errorString" := by decide
theorem rowE (u : TypeId) (h : Tryz.prog.typeName? 3 u = some "*errors.errorString") : u = 175 :=
 typeName_ptr_named (nm := "errors.errorString") (by rw [qk]; kernel_rfl) (by kernel_rfl) (by decide) u (by rw [qk]; exact h)
theorem jm : Tryz.prog.globalNamed "loop.example/g00577/impl.errNoSky" = some 0 := by kernel_rfl
theorem rx : (Tryz.prog.globals[0]?).map (·.type) = some 108 := by kernel_rfl
theorem lw {W : World} (h : laidMetH Tryz.prog iq W) : ∃ p, W.var? Tryz.prog "loop.example/g00577/impl.errNoSky" = some #[.iface 175 (.pointer (some p))] := by
 have h' : laidMet Tryz.prog iq W := h
 obtain ⟨a, s, hv, _⟩ := laid_sentinel h' jm rx Tryz.underlying108 rowE Tryz.underlying175 Tryz.underlying201 rfl rfl Tryz.underlying9 (by kernel_rfl) (by kernel_rfl)
 exact ⟨a, hv⟩
theorem iM {W : World} {p : Addr} (hv : W.var? Tryz.prog "loop.example/g00577/impl.errNoSky" = some #[.iface 175 (.pointer (some p))]) : aY p W := by
 unfold aY
 rw [World.var?_cell jm hv 0]
 rfl
theorem pu {H : Type} (enc : TypeId × Value → H) {W : World} {p : Addr} (hv : W.var? Tryz.prog "loop.example/g00577/impl.errNoSky" = some #[.iface 175 (.pointer (some p))]) (sp : Nat → Bool) :
  DataW.TrodVars enc Tryz.prog W sp ["loop.example/g00577/impl.errNoSky"] [tok enc (.iface 175 (.pointer (some p)))] [.cell 0 0] :=
 vars_read1 enc jm rx Tryz.underlying108 hv trivial sp
theorem tt (os : Os) (args : Array Value) : laidMetH Tryz.prog iq ((World.doorLaid Tryz.prog 400 os).forCall (fun _ _ => 0) ⟨#[], args, []⟩).memory :=
 laidMet_of_run' 8 (by kernel_rfl) (by kernel_rfl)
end
end Go.Proofs.YtgiodlllokdcdaaGreatDoor
