/- For every two rows of bytes that are handed in, the law on links answers true: a drawn right command comes back from its bytes, what is told behind the first commands of a text is the beginning of what is told behind all, the program answers as the specification throughout; and what was handed in reads afterwards as before. Its condition: the program's own errNoSky and errNoCommand, and package errors' handle, hold at the call what the program's text lays there (the card ties them); rows of any length that can lie in memory. -/
import Derived.Test.YtnnhjegapofopaaGreatDoorCards
import Derived.Test.YtnnhjegapofopaaGreatDoorTie
import Derived.ChangeOld
import Derived.SevenTiedAt
import Derived.Test.YtnnhjegapofopaaGreatDoorM22
namespace Go.Proofs.YtnnhjegapofopaaGreatDoor.fnLink
open Go.ChangeShapes Go.WideShapes Go.ChangeAt Go.RowKit Go.Joins
open Go.ChangeMaps (open_string shut_string)
set_option linter.unusedVariables false

theorem own : ownKnob Tryz.prog.godebug = none := by kernel_rfl
theorem laidOut : laidOutB Tryz.prog = true := by kernel_rfl
def IsRow (k : IntKind) (w : World) (a : Option Addr) (len cap : Nat) (zs : List Int) : Prop :=
 (a = none ∧ len = 0 ∧ cap = 0 ∧ zs = []) ∨
 ∃ x, a = some x ∧ len ≤ cap ∧ cap ≤ maxLen ∧ zs.length = cap ∧ (∀ i, i < zs.length → w.cell? (x.add i) = some (.int k (zs.getD i 0))) ∧ ∀ n ∈ zs, (Lit.int k n).wf = true

theorem row_of {w : World} {a : Option Addr} {len cap : Nat} {zs : List Int} (h : IsRow .u8 w a len cap zs) : Row w a len w.heap.size := by
 rcases h with ⟨_, h, _, _⟩ | ⟨x, rfl, hl, _, hz, hc, hw⟩
 ·exact .inl h
 ·by_cases e : len = 0
  ·exact .inl e
  ·have hc0 := hc 0 (by omega)
   have hb : x.block < w.heap.size := World.block_lt_of_cell? w _ hc0
   have hs : x.spot = none := by
    cases hs : x.spot with
    | none => rfl
    | some k =>
     exfalso
     have : (x.add 0).spot = some k := by simp [Addr.add, hs]
     unfold World.cell? at hc0
     rw [this] at hc0
     revert hc0
     split <;> simp
   obtain ⟨bx, ox, sx⟩ := x
   simp at hs
   subst hs
   refine .inr ⟨bx, ox, rfl, hb, fun i hi => ?_⟩
   have hi' : i < zs.length := by omega
   have hA : (⟨bx, ox, none⟩ : Addr).add i = ⟨bx, ox + i, none⟩ := by unfold Addr.add; split <;> simp_all
   refine ⟨zs.getD i 0, by rw [← hA]; exact hc i hi', ?_⟩
   have hm := hw (zs.getD i 0) (by rw [List.getD, List.getElem?_eq_getElem hi']; exact List.getElem_mem hi')
   simpa [Lit.wf, IntKind.min, IntKind.max, IntKind.signed, IntKind.bits] using hm
theorem len_of {k : IntKind} {w : World} {a : Option Addr} {len cap : Nat} {zs : List Int} (h : IsRow k w a len cap zs) : len ≤ maxLen := by
 rcases h with ⟨_, h, _, _⟩ | ⟨x, rfl, hl, hm, _⟩
 ·omega
 ·omega


set_option maxRecDepth 100000 in
theorem law_big (a0 a1 : Option Addr) (len0 cap0 len1 cap1 : Nat) (w : World) (h0 : len0 ≤ 9223372036854775807) (h1 : len1 ≤ 9223372036854775807) (h : 1048576 < len0 ∨ 1048576 < len1) :
  Calls Tryz.prog 3 #[.slice a0 len0 cap0, .slice a1 len1 cap1] w fun e w' => e = .returned (.bool true) ∧ Below w.heap.size w w' := by
 by_cases hb : (1048576 : Int) < (len0 : Int)
 ·go_enter Tryz.func3, Tryz.ntmps3
  go_wp2
  go_ret
  exact ⟨rfl, Below.refl _ _⟩
 ·have hb1 : (1048576 : Int) < (len1 : Int) := by omega
  go_enter Tryz.func3, Tryz.ntmps3
  go_wp2
  go_ret
  exact ⟨rfl, Below.refl _ _⟩

theorem walk (a0 : Option Addr) (len0 cap0 : Nat) (z0 : List Int) (a1 : Option Addr) (len1 cap1 : Nat) (z1 : List Int) (w : World) (w0 : IsRow .u8 w a0 len0 cap0 z0) (w1 : IsRow .u8 w a1 len1 cap1 z1) (p pc : Addr) (hE : uA p pc w) :
  Calls Tryz.prog 3 #[.slice a0 len0 cap0, .slice a1 len1 cap1] w fun e w' => e = .returned (.bool true) ∧ Below w.heap.size w w' := by
 have r0 := row_of w0
 have r1 := row_of w1
 have hm : maxLen ≤ 9223372036854775807 := by decide +kernel
 have h0 : len0 ≤ maxLen := len_of w0
 have h1 : len1 ≤ maxLen := len_of w1
 clear w0 w1
 by_cases h : 1048576 < len0 ∨ 1048576 < len1
 ·exact law_big a0 a1 len0 cap0 len1 cap1 w (by omega) (by omega) h
 ·exact Ju a0 a1 len0 cap0 len1 cap1 p pc w (by omega) (by omega) r0 r1 hE


theorem both_readC {H : Type} (enc : TypeId × Value → H) {W : World} {p q : Addr} (hp : W.var? Tryz.prog "loop.example/g00577/impl.errNoSky" = some #[.iface 291 (.pointer (some p))]) (hq : W.var? Tryz.prog "loop.example/g00577/impl.errNoCommand" = some #[.iface 291 (.pointer (some q))]) (sp : Nat → Bool) :
  DataW.TrodVars enc Tryz.prog W sp ["loop.example/g00577/impl.errNoCommand", "loop.example/g00577/impl.errNoSky"] [tok enc (.iface 291 (.pointer (some q))), tok enc (.iface 291 (.pointer (some p)))] [.cell 0 0, .cell 1 0] :=
 vars_read2 enc qg Fu Tryz.underlying123 hq trivial ql FA Tryz.underlying123 hp trivial sp

set_option maxRecDepth 100000 in
theorem lifted (os : Os) (started : os.Started) (H : Type) (enc : TypeId × Value → H) :
  ReturnsInHanded {} Tryz.checked os 3 .any (fun w args => (Rows.fnLinkSpec.pre enc Tryz.prog Tryz.f3 [] false w args ∧ laidMetH Tryz.prog rM w) ∧ sizedMet enc Tryz.prog Tryz.f3 (OpenSpec.ofChange Rows.fnLinkSpec) false w args)
   (Rows.fnLinkSpec.post enc Tryz.prog Tryz.f3 false true false false) := by
 refine returnsInHanded_of_change_and (C := Tryz.checked) (X := fun w _ => laidMetH Tryz.prog rM w) (fun _ _ _ hh h => h.of_heap hh) own started (by kernel_rfl) Tryz.func3
  (ChangeSpec.witness_shaped (enc := enc) (C := Tryz.checked) (os := os) (X := fun w _ => laidMetH Tryz.prog rM w) false (World.doorLaid Tryz.prog 400 os) #[.slice none 0 0, .slice none 0 0] 8 rfl (World.shaped_of_RefB (by kernel_rfl) (by kernel_rfl)) (by kernel_rfl) (by kernel_rfl) (by kernel_rfl) (MS os _)) ?_
 intro W base args ds gs before hval0 hW _ _ hL _
 have hval : ∀ (j : Nat) t v, Tryz.f3.params[j]? = some t → args[j]? = some v → Value.okWide Tryz.prog W .any base t v := hval0
 have hW' := hW
 obtain ⟨p, q, hA0, hV, rfl, hfz, hnd⟩ := hW
 have hA : DataW.TrodAll enc Tryz.prog W 0 (fun _ => true) true Tryz.f3.params.toList args.toList ds p := hA0
 rw [Tryz.params3] at hA hval
 obtain ⟨v0, vs0, d0, ds0, p0, q0, hargs, rfl, rfl, h0, r0⟩ := trodAll_cons hA
 obtain ⟨v1, vs1, d1, ds1, p1, q1, rfl, rfl, rfl, h1, r1⟩ := trodAll_cons r0
 obtain ⟨rfl, rfl, rfl⟩ := trodAll_nil r1
 obtain rfl : args = #[v0, v1] := by cases args; simp_all
 have hVs : DataW.TrodVars enc Tryz.prog W (fun _ => true) ["loop.example/g00577/impl.errNoCommand", "loop.example/g00577/impl.errNoSky"] gs q := hV
 have hLm : laidMet Tryz.prog vH W := Jz hL
 obtain ⟨ep, hev⟩ := De hLm
 obtain ⟨ec, hec⟩ := Bo (xB hLm)
 obtain ⟨rfl, rfl⟩ := hVs.unique (both_readC enc hev hec _)
 have k0 := h0
 have lt0 : ∀ x ∈ p0, x.block < W.heap.size := by obtain ⟨m, hm⟩ := k0; exact DataW.trod_lt m _ _ _ hm
 obtain ⟨a0, len0, cap0, hv0⟩ := okWide_slice Tryz.underlying22 (hval 0 22 v0 rfl rfl)
 subst hv0
 obtain ⟨z0, w0⟩ : ∃ zs, IsRow .u8 W a0 len0 cap0 zs := by
  obtain ⟨fuel, hf⟩ := h0
  rcases open_ints Tryz.underlying22 Tryz.underlying5 (by kernel_rfl) hf with ⟨hcs, _⟩ | ⟨x, l, c, zs, hcs, _, hl, hm, hz, _, hcell, hwz⟩
  ·simp [Value.cells] at hcs
   obtain ⟨rfl, rfl, rfl⟩ := hcs
   exact ⟨[], .inl ⟨rfl, rfl, rfl, rfl⟩⟩
  ·simp [Value.cells] at hcs
   obtain ⟨rfl, rfl, rfl⟩ := hcs
   exact ⟨zs, .inr ⟨_, rfl, hl, hm, by simpa using hz, hcell, hwz⟩⟩
 have k1 := h1
 have lt1 : ∀ x ∈ p1, x.block < W.heap.size := by obtain ⟨m, hm⟩ := k1; exact DataW.trod_lt m _ _ _ hm
 obtain ⟨a1, len1, cap1, hv1⟩ := okWide_slice Tryz.underlying22 (hval 1 22 v1 rfl rfl)
 subst hv1
 obtain ⟨z1, w1⟩ : ∃ zs, IsRow .u8 W a1 len1 cap1 zs := by
  obtain ⟨fuel, hf⟩ := h1
  rcases open_ints Tryz.underlying22 Tryz.underlying5 (by kernel_rfl) hf with ⟨hcs, _⟩ | ⟨x, l, c, zs, hcs, _, hl, hm, hz, _, hcell, hwz⟩
  ·simp [Value.cells] at hcs
   obtain ⟨rfl, rfl, rfl⟩ := hcs
   exact ⟨[], .inl ⟨rfl, rfl, rfl, rfl⟩⟩
  ·simp [Value.cells] at hcs
   obtain ⟨rfl, rfl, rfl⟩ := hcs
   exact ⟨zs, .inr ⟨_, rfl, hl, hm, by simpa using hz, hcell, hwz⟩⟩
 clear hA0 hV hval0
 refine (walk a0 len0 cap0 z0 a1 len1 cap1 z1 W w0 w1 ep ec ⟨MR hL, oX hev, oV hec⟩).mono fun e W' ⟨he, bel⟩ => ?_
 subst he
 exact ⟨_, rfl, _, _, _, [], _, [.cell 0 0, .cell 1 0], hW', trodAll_mk1 (shut_bool Tryz.underlying4 _), (trodAll_cons_mk (Below.trod laidOut (by kernel_rfl) (of_decide_eq_true (by kernel_rfl)) k0 bel lt0) (trodAll_cons_mk (Below.trod laidOut (by kernel_rfl) (of_decide_eq_true (by kernel_rfl)) k1 bel lt1) trodAll_mk0)), both_readC enc (var?_below bel ql (oX hev).lt hev) (var?_below bel qg (oV hec).lt hec) _, bel.frame _, fun h => by cases h⟩

theorem over : Rows.FnLinkSaid :=
 OpenClaim.holds_of_wide 3 Tryz.f3 rfl rfl rfl rfl rfl rfl rfl ⟨rfl, rfl, rfl, rfl, rfl⟩ rfl rfl rfl rfl rfl (by kernel_rfl) Tryz.func3 (by kernel_rfl)
  (of_decide_eq_true (by kernel_rfl)) (by unfold Func.isWrapper; first | (rw [if_pos (by decide +kernel)]; kernel_rfl) | (rw [if_neg (by decide +kernel)]; exact ⟨rfl, rfl⟩))
  (fun os started H enc _ => lifted os started H enc)

theorem proved : Rows.FnLinkCardSaid :=
 Claim7.holds_tied_plain_at .later [] _ _ _ _ over (fun _ h => by cases h) (by kernel_rfl) (fun _ h => by cases h) fnLink_row_tie rfl ⟨rfl, rfl⟩ (by kernel_rfl) rfl
  (fun f fn hf hfn => by
   obtain rfl : f = 3 := Option.some.inj ((show Tryz.prog.funcNamed Tryz.f3.name = some 3 by kernel_rfl).symm.trans hf) |>.symm
   obtain rfl : fn = Tryz.f3 := (Option.some.inj (Tryz.func3.symm.trans hfn)).symm
   refine ⟨by kernel_rfl, fun j t ht => ?_⟩
   rw [Tryz.params3] at ht
   have h3 : t = 22 := by simpa using Array.mem_of_getElem? ht
   subst h3
   exact (show Tryz.prog.wantsStandIn 22 = false by kernel_rfl))
  (by kernel_rfl)
#print axioms proved
end Go.Proofs.YtnnhjegapofopaaGreatDoor.fnLink
