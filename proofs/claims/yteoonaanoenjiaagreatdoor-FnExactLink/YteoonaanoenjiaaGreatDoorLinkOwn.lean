/- For every tracker and text that are handed in, Link answers as the specification says, every field, what was told and the code; its answer owns its memory, and what was handed in reads afterwards as before. Its condition: the program's own errNoSky and errNoCommand, and package errors' handle, hold at the call what the program's text lays there (the card ties them); any list and text that can lie in memory, numbers of any int64. -/
import Derived.Test.YteoonaanoenjiaaGreatDoorCards
import Derived.Test.YteoonaanoenjiaaGreatDoorTie
import Derived.OpenShut
import Derived.ChangeOld
import Derived.SevenTiedAt
import Derived.Test.YteoonaanoenjiaaGreatDoorL48
namespace Go.Proofs.YteoonaanoenjiaaGreatDoor.fnExactLink
open Go.ChangeShapes Go.WideShapes Go.ChangeAt Go.RowKit Go.Joins
open Go.ChangeMaps (open_string shut_string)
set_option linter.unusedVariables false

theorem own : ownKnob Tryz.prog.godebug = none := by kernel_rfl
theorem laidOut : laidOutB Tryz.prog = true := by kernel_rfl

set_option maxRecDepth 100000 in
theorem lifted (os : Os) (started : os.Started) (H : Type) (enc : TypeId × Value → H) :
  ReturnsInHanded {} Tryz.checked os 4 .any (fun w args => (Rows.fnExactLinkSpec.pre enc Tryz.prog Tryz.f4 [] false w args ∧ laidMetH Tryz.prog oJ w) ∧ sizedMet enc Tryz.prog Tryz.f4 (OpenSpec.ofChange Rows.fnExactLinkSpec) false w args)
   (Rows.fnExactLinkSpec.post enc Tryz.prog Tryz.f4 false true false false) := by
 refine returnsInHanded_of_change_and (C := Tryz.checked) (X := fun w _ => laidMetH Tryz.prog oJ w) (fun _ _ _ hh h => h.of_heap hh) own started (by kernel_rfl) Tryz.func4
  (ChangeSpec.witness_shaped (enc := enc) (C := Tryz.checked) (os := os) (X := fun w _ => laidMetH Tryz.prog oJ w) false (World.doorLaid Tryz.prog 400 os) #[.agg #[.slice none 0 0, .int .i64 0, .int .i64 0, .int .i64 0, .int .i64 0, .int .i64 0, .int .i64 0, .int .i64 0, .int .i64 0], .string ⟨#[]⟩] 8 rfl (World.shaped_of_RefB (by kernel_rfl) (by kernel_rfl)) (by kernel_rfl) (by kernel_rfl) (by kernel_rfl) (Jt os _)) ?_
 intro W base args ds gs before hval0 hW _ _ hL _
 have hval : ∀ (j : Nat) t v, Tryz.f4.params[j]? = some t → args[j]? = some v → Value.okWide Tryz.prog W .any base t v := hval0
 have hW' := hW
 obtain ⟨p, q, hA0, hV, rfl, hfz, hnd⟩ := hW
 have hA : DataW.TrodAll enc Tryz.prog W 0 (fun _ => true) true Tryz.f4.params.toList args.toList ds p := hA0
 rw [Tryz.params4] at hA hval
 obtain ⟨v0, vs0, d0, ds0, p0, q0, hargs, rfl, rfl, h0, r0⟩ := trodAll_cons hA
 obtain ⟨v1, vs1, d1, ds1, p1, q1, rfl, rfl, rfl, h1, r1⟩ := trodAll_cons r0
 obtain ⟨rfl, rfl, rfl⟩ := trodAll_nil r1
 obtain rfl : args = #[v0, v1] := by cases args; simp_all
 have hVs : DataW.TrodVars enc Tryz.prog W (fun _ => true) ["loop.example/g00577/impl.errNoSky", "loop.example/g00577/impl.errNoCommand"] gs q := hV
 have hLm : laidMet Tryz.prog rU W := Fh hL
 obtain ⟨ep, hev⟩ := yW hLm
 obtain ⟨ec, hec⟩ := xG (tP hLm)
 obtain ⟨rfl, rfl⟩ := hVs.unique (rh enc hev hec _)
 have k0 := h0
 have lt0 : ∀ x ∈ p0, x.block < W.heap.size := by obtain ⟨m, hm⟩ := k0; exact DataW.trod_lt m _ _ _ hm
 obtain ⟨L0, a0, len0, cap0, z0a, z0b, z0c, z0d, z0e, z0f, z0g, z0h, hv0, hl0, S0, m0⟩ := wP (hval 0 26 v0 rfl rfl) h0
 subst hv0
 have k1 := h1
 have lt1 : ∀ x ∈ p1, x.block < W.heap.size := by obtain ⟨m, hm⟩ := k1; exact DataW.trod_lt m _ _ _ hm
 obtain ⟨s1, hv1, e1, f1, ws1⟩ := open_string Tryz.underlying9 (hval 1 9 v1 rfl rfl) h1
 subst hv1
 clear hA0 hV hval0
 refine (yq L0 a0 len0 cap0 z0a z0b z0c z0d z0e z0f z0g z0h hl0 m0 s1 ws1 W S0 ⟨ep, mz hev⟩ ⟨ec, mx hec⟩ (Js hL)).mono fun e W' ⟨he, bel⟩ => ?_
 subst he
 exact ⟨_, rfl, _, _, _, [], _, [.cell 1 0, .cell 0 0], hW', trodAll_mk1 (shut_bool Tryz.underlying4 _), (trodAll_cons_mk (Below.trod laidOut (by kernel_rfl) (of_decide_eq_true (by kernel_rfl)) k0 bel lt0) (trodAll_cons_mk (Below.trod laidOut (by kernel_rfl) (of_decide_eq_true (by kernel_rfl)) k1 bel lt1) trodAll_mk0)), rh enc (var?_below bel nt (mz hev).lt hev) (var?_below bel np (mx hec).lt hec) _, bel.frame _, fun h => by cases h⟩

theorem over : Rows.FnExactLinkSaid :=
 OpenClaim.holds_of_wide 4 Tryz.f4 rfl rfl rfl rfl rfl rfl rfl ⟨rfl, rfl, rfl, rfl, rfl⟩ rfl rfl rfl rfl rfl (by kernel_rfl) Tryz.func4 (by kernel_rfl)
  (of_decide_eq_true (by kernel_rfl)) (by unfold Func.isWrapper; first | (rw [if_pos (by decide +kernel)]; kernel_rfl) | (rw [if_neg (by decide +kernel)]; exact ⟨rfl, rfl⟩))
  (fun os started H enc _ => lifted os started H enc)

theorem proved : Rows.FnExactLinkCardSaid :=
 Claim7.holds_tied_plain_at .later [] _ _ _ _ over (fun _ h => by cases h) (by kernel_rfl) (fun _ h => by cases h) fnExactLink_row_tie rfl ⟨rfl, rfl⟩ (by kernel_rfl) rfl
  (fun f fn hf hfn => by
   obtain rfl : f = 4 := Option.some.inj ((show Tryz.prog.funcNamed Tryz.f4.name = some 4 by kernel_rfl).symm.trans hf) |>.symm
   obtain rfl : fn = Tryz.f4 := (Option.some.inj (Tryz.func4.symm.trans hfn)).symm
   refine ⟨by kernel_rfl, fun j t ht => ?_⟩
   rw [Tryz.params4] at ht
   have h3 : t = 26 ∨ t = 9 := by simpa using Array.mem_of_getElem? ht
   rcases h3 with rfl | rfl
   ·exact (show Tryz.prog.wantsStandIn 26 = false by kernel_rfl)
   ·exact (show Tryz.prog.wantsStandIn 9 = false by kernel_rfl))
  (by kernel_rfl)
#print axioms proved
end Go.Proofs.YteoonaanoenjiaaGreatDoor.fnExactLink
