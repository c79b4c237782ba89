/- For every row of bytes that is handed in, the top promise's law answers true: a camera that is turned about the way it looks tells which stars it sees, and how it is turned; turned and told so it tracks; turned and not told it finds itself anew, as long as it sees three; blind it goes on twice, and then is lost; and what was handed in reads afterwards as before. Its condition: five tables of the library and the program's own errNoSky hold at the call what the program's text lays there, or what the form pins (the card ties them); rows of any length that can lie in memory. -/
import Derived.Test.YtdchjcadhlkpfaaGreatDoorCards
import Derived.Test.YtdchjcadhlkpfaaGreatDoorTie
import Derived.WalkKit
import Derived.ProofKit
import Derived.OpenShut
import Derived.ShutString
import Derived.ChangeOld
import Derived.Below
import Derived.SevenTiedAt
import Derived.Lib.SmallJoins
import Derived.LaidMore
import Derived.Test.YtdchjcadhlkpfaaGreatDoorQFnTopOwn46
import Derived.Test.YtdchjcadhlkpfaaGreatDoorQFnTopOwn42
namespace Go.Proofs.YtdchjcadhlkpfaaGreatDoor.fnTop
open Go.ChangeShapes Go.WideShapes Go.ChangeAt Go.RowKit Go.Joins
open Go.ChangeMaps (open_string shut_string)
set_option linter.unusedVariables false
set_option maxRecDepth 100000

theorem own : ownKnob Tryz.prog.godebug = none := by kernel_rfl
theorem laidOut : laidOutB Tryz.prog = true := by kernel_rfl

def IsRow (k : IntKind) (w : World) (a : Option Addr) (len cap : Nat) (zs : List Int) : Prop :=
 (a = none ∧ len = 0 ∧ cap = 0 ∧ zs = []) ∨
 ∃ x, a = some x ∧ len ≤ cap ∧ cap ≤ maxLen ∧ zs.length = cap ∧ (∀ i, i < zs.length → w.cell? (x.add i) = some (.int k (zs.getD i 0))) ∧ ∀ n ∈ zs, (Lit.int k n).wf = true

theorem row_of {w : World} {a : Option Addr} {len cap : Nat} {zs : List Int} (h : IsRow .u8 w a len cap zs) : Row w a len w.heap.size := by
 rcases h with ⟨_, h, _, _⟩ | ⟨x, rfl, hl, _, hz, hc, hw⟩
 ·exact .inl h
 ·by_cases e : len = 0
  ·exact .inl e
  ·have hc0 := hc 0 (by omega)
   have hb : x.block < w.heap.size := World.block_lt_of_cell? w _ hc0
   have hs : x.spot = none := by
    cases hs : x.spot with
    | none => rfl
    | some k =>
     exfalso
     have : (x.add 0).spot = some k := by simp [Addr.add, hs]
     unfold World.cell? at hc0
     rw [this] at hc0
     revert hc0
     split <;> simp
   obtain ⟨bx, ox, sx⟩ := x
   simp at hs
   subst hs
   refine .inr ⟨bx, ox, rfl, hb, fun i hi => ?_⟩
   have hi' : i < zs.length := by omega
   have hA : (⟨bx, ox, none⟩ : Addr).add i = ⟨bx, ox + i, none⟩ := by unfold Addr.add; split <;> simp_all
   refine ⟨zs.getD i 0, by rw [← hA]; exact hc i hi', ?_⟩
   have hm := hw (zs.getD i 0) (by rw [List.getD, List.getElem?_eq_getElem hi']; exact List.getElem_mem hi')
   simpa [Lit.wf, IntKind.min, IntKind.max, IntKind.signed, IntKind.bits] using hm
theorem len_of {k : IntKind} {w : World} {a : Option Addr} {len cap : Nat} {zs : List Int} (h : IsRow k w a len cap zs) : len ≤ maxLen := by
 rcases h with ⟨_, h, _, _⟩ | ⟨x, rfl, hl, hm, _⟩
 ·omega
 ·omega

theorem law_big (a0 : Option Addr) (len0 cap0 : Nat) (w : World) (h0 : len0 ≤ 9223372036854775807) (h : 1048576 < len0) :
  Calls Tryz.prog 4 #[.slice a0 len0 cap0] w fun e w' => e = .returned (.bool true) ∧ Below w.heap.size w w' := by
 have hb : (1048576 : Int) < (len0 : Int) := by omega
 go_enter Tryz.func4, Tryz.ntmps4
 go_wp2
 go_ret
 exact ⟨rfl, Below.refl _ _⟩

theorem walk (a0 : Option Addr) (len0 cap0 : Nat) (z0 : List Int) (p : Addr) (w : World) (w0 : IsRow .u8 w a0 len0 cap0 z0) (hE : fC p w) (hM : kE w) :
  Calls Tryz.prog 4 #[.slice a0 len0 cap0] w fun e w' => e = .returned (.bool true) ∧ Below w.heap.size w w' := by
 have r0 := row_of w0
 have hm : maxLen ≤ 9223372036854775807 := by decide +kernel
 have h0 : len0 ≤ maxLen := len_of w0
 clear w0
 by_cases h : 1048576 < len0
 ·exact law_big a0 len0 cap0 w (by omega) h
 ·exact qN a0 len0 cap0 p w (by omega) r0 hE hM

theorem lifted (os : Os) (started : os.Started) (H : Type) (enc : TypeId × Value → H) :
  ReturnsInHanded {} Tryz.checked os 4 .any (fun w args => (Rows.fnTopSpec.pre enc Tryz.prog Tryz.f4 [] false w args ∧ laidMetH Tryz.prog dS w) ∧ sizedMet enc Tryz.prog Tryz.f4 (OpenSpec.ofChange Rows.fnTopSpec) false w args)
   (Rows.fnTopSpec.post enc Tryz.prog Tryz.f4 false true false false) := by
 refine returnsInHanded_of_calls own started (by kernel_rfl)
  (ChangeSpec.witness_shaped (enc := enc) (C := Tryz.checked) (os := os) (X := fun w _ => laidMetH Tryz.prog dS w) false (World.laidAll Tryz.prog os dS) #[.slice none 0 0] 8 (World.laidAll_os _ _ _) (World.shaped_of_ZipB (by kernel_rfl) (by kernel_rfl)) (by kernel_rfl) (by kernel_rfl) (by kernel_rfl) (vD os _)) ?_
 intro w tape i _ hsh _ hok hpre _
 obtain ⟨_, _, _, fn', hfn', _, _, _, _, hval0⟩ := hok
 obtain rfl : Tryz.f4 = fn' := Option.some.inj (Tryz.func4.symm.trans hfn')
 obtain ⟨⟨⟨ds, gs, before, hw, _⟩, hx⟩, _⟩ := hpre
 have hW := DataW.Whole.of_heap (w' := w.forCall tape i) (by rfl) hw
 have hL : laidMetH Tryz.prog dS (w.forCall tape i) := hx.of_heap (by rfl)
 suffices hcall : Calls Tryz.prog 4 i.args (w.forCall tape i) (fun e W' => ∃ v, e = .returned v ∧ Rows.fnTopSpec.post enc Tryz.prog Tryz.f4 false true false false (w.forCall tape i) i.args v W') by
  refine hcall.mono fun e W' ⟨v, he, hp⟩ => ?_
  subst he
  exact ChangeSpec.post_blind hp
 clear hw hx
 generalize w.heap.size = base at hval0
 generalize w.forCall tape i = W at *
 generalize i.args = args at *
 have hval : ∀ (j : Nat) t v, Tryz.f4.params[j]? = some t → args[j]? = some v → Value.okWide Tryz.prog W .any base t v := hval0
 have hW' := hW
 obtain ⟨p, q, hA0, hV, rfl, hfz, hnd⟩ := hW
 have hA : DataW.TrodAll enc Tryz.prog W 0 (fun _ => true) true Tryz.f4.params.toList args.toList ds p := hA0
 rw [Tryz.params4] at hA hval
 obtain ⟨v0, vs0, d0, ds0, p0, q0, hargs, rfl, rfl, h0, r0⟩ := trodAll_cons hA
 obtain ⟨rfl, rfl, rfl⟩ := trodAll_nil r0
 obtain rfl : args = #[v0] := by cases args; simp_all
 have hVs : DataW.TrodVars enc Tryz.prog W (fun _ => true) ["loop.example/g00577/impl.errNoSky"] gs q := hV
 obtain ⟨ep, hev⟩ := vw hL
 obtain ⟨rfl, rfl⟩ := hVs.unique (oL enc hev _)
 obtain ⟨a0, len0, cap0, rfl⟩ := okWide_slice Tryz.underlying22 (hval 0 22 v0 rfl rfl)
 have k0 := h0
 have lt0 : ∀ x ∈ p0, x.block < W.heap.size := by obtain ⟨m, hm⟩ := k0; exact DataW.trod_lt m _ _ _ hm
 obtain ⟨z0, w0⟩ : ∃ zs, IsRow .u8 W a0 len0 cap0 zs := by
  obtain ⟨fuel, hf⟩ := h0
  rcases open_ints Tryz.underlying22 Tryz.underlying5 (by kernel_rfl) hf with ⟨hcs, _⟩ | ⟨x, l, c, zs, hcs, _, hl, hm, hz, _, hcell, hwz⟩
  ·simp [Value.cells] at hcs
   obtain ⟨rfl, rfl, rfl⟩ := hcs
   exact ⟨[], .inl ⟨rfl, rfl, rfl, rfl⟩⟩
  ·simp [Value.cells] at hcs
   obtain ⟨rfl, rfl, rfl⟩ := hcs
   exact ⟨zs, .inr ⟨_, rfl, hl, hm, by simpa using hz, hcell, hwz⟩⟩
 clear hA0 hV hval0
 refine (walk a0 len0 cap0 z0 ep W w0 ⟨gu hev, we hL⟩ (oK hsh)).mono fun e W' ⟨he, bel⟩ => ?_
 subst he
 exact ⟨_, rfl, _, _, _, [], _, [.cell 1 0], hW', trodAll_mk1 (shut_bool Tryz.underlying4 _), (trodAll_cons_mk (Below.trod laidOut (by kernel_rfl) (of_decide_eq_true (by kernel_rfl)) k0 bel lt0) trodAll_mk0), oL enc (var?_below bel hH (gu hev).lt hev) _, bel.frame _, fun h => by cases h⟩

theorem over : Rows.FnTopSaid :=
 OpenClaim.holds_of_wide 4 Tryz.f4 rfl rfl rfl rfl rfl rfl rfl ⟨rfl, rfl, rfl, rfl, rfl⟩ rfl rfl rfl rfl rfl (by kernel_rfl) Tryz.func4 (by kernel_rfl)
  (of_decide_eq_true (by kernel_rfl)) (by unfold Func.isWrapper; first | (rw [if_pos (by decide +kernel)]; kernel_rfl) | (rw [if_neg (by decide +kernel)]; exact ⟨rfl, rfl⟩))
  (fun os started H enc _ => lifted os started H enc)

theorem proved : Rows.FnTopCardSaid :=
 Claim7.holds_tied_plain_at .later [] _ _ _ _ over (fun _ h => by cases h) (by kernel_rfl) (fun _ h => by cases h) fnTop_row_tie rfl ⟨rfl, rfl⟩ (by kernel_rfl) rfl
  (fun f fn hf hfn => by
   obtain rfl : f = 4 := Option.some.inj ((show Tryz.prog.funcNamed Tryz.f4.name = some 4 by kernel_rfl).symm.trans hf) |>.symm
   obtain rfl : fn = Tryz.f4 := (Option.some.inj (Tryz.func4.symm.trans hfn)).symm
   refine ⟨by kernel_rfl, fun j t ht => ?_⟩
   rw [Tryz.params4] at ht
   have h3 : t = 22 := by simpa using Array.mem_of_getElem? ht
   subst h3
   exact (show Tryz.prog.wantsStandIn 22 = false by kernel_rfl))
  (by kernel_rfl)
#print axioms proved
end Go.Proofs.YtdchjcadhlkpfaaGreatDoor.fnTop
