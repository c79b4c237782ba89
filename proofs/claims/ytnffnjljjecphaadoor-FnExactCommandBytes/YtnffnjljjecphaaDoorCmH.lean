/- CommandBytes: the program's. -/
import Derived.Test.YtnffnjljjecphaaDoorCmE
import Derived.Test.YtnffnjljjecphaaDoorCmGb
namespace Go.Proofs.YtnffnjljjecphaaDoor
open Go.RowKit Go.Sort
set_option linter.unusedVariables false
set_option linter.unusedSimpArgs false

/-- what is left to do behind a body hangs on the results' places alone -/
theorem leaves_res {P : Program} {fn : Func} {t t' : Array Value} {R : Ending → World → Prop} (h : results fn t = results fn t') : ∀ (ds : List Deferred) (u : FrameMode) (w : World), Leaves P fn t R ds u w → Leaves P fn t' R ds u w
  | [], .returning, w, hl => by
    obtain ⟨v, h1, h2⟩ := hl
    exact ⟨v, by rw [← h]; exact h1, h2⟩
  | [], .panicking _, w, hl => hl
  | [], .run, w, hl => hl
  | d :: ds, u, w, hl => by
    obtain ⟨hu, fv, cap, f, args, h1, h2, h3⟩ := hl
    refine ⟨hu, fv, cap, f, args, h1, h2, h3.mono ?_⟩
    intro e u' w' he
    cases e with
    | returned v => exact leaves_res h ds _ _ he
    | panicked c => exact leaves_res h ds _ _ he
    | outgrown => exact he
theorem resCB {T : Array Value} {v : Value} {k : Nat} (hk : k ≠ 2) : results Tryd.f13 (T.setIfInBounds k v) = results Tryd.f13 T := by
  simp [results, Tryd.results13, Array.getD_eq_getD_getElem?, Array.getElem?_setIfInBounds, hk]
theorem catchB_panicking (u : TypeId) (pv : Value) (older : List PanicEntry) (w : World) :
    CallsD Tryd.prog 42 #[] (.panicking ({ v := .iface u pv, recovered := false } :: older)) w fun e u' w' =>
      e = .returned (.tuple #[]) ∧ u' = .panicking ({ v := .iface u pv, recovered := true } :: older) ∧ w' = w := by
  refine callsD_of_wpS Tryd.func42 rfl fun c₀ cs hu => ?_
  apply wpS_region
  simp [wpOpsS, go_sem, recoverD, hu, Tryd.ntmps42, Exit.thenS, bodyPostS, results, Tryd.results42]
theorem catchB_idle (w : World) :
    CallsD Tryd.prog 42 #[] .returning w fun e u' w' => e = .returned (.tuple #[]) ∧ u' = .returning ∧ w' = w := by
  refine callsD_of_wpS Tryd.func42 rfl fun c₀ cs hu => ?_
  apply wpS_region
  cases c₀
  simp_all [wpOpsS, go_sem, recoverD, Tryd.ntmps42, Exit.thenS, bodyPostS, results, Tryd.results42]
theorem right_2 {S : List D3} {A B C D wd ht lv fo : Int} {px : ByteArray} (h : cmdB ⟨2, A, B, C, D, S, wd, ht, px, lv, fo⟩ = true) : rightT A B C D = true := by
  rw [cmd_2 rfl] at h; simp only [Bool.and_eq_true] at h; exact h.1.1
theorem right_3 {S : List D3} {A B C D wd ht lv fo : Int} {px : ByteArray} (h : cmdB ⟨3, A, B, C, D, S, wd, ht, px, lv, fo⟩ = true) : spotsB S = true := by
  rw [cmd_3 rfl] at h; simp only [Bool.and_eq_true] at h; exact h.1.2
theorem right_4 {S : List D3} {A B C D wd ht lv fo : Int} {px : ByteArray} (h : cmdB ⟨4, A, B, C, D, S, wd, ht, px, lv, fo⟩ = true) : frameB wd ht px = true ∧ spanB 0 255 lv = true ∧ spanB 1 40 fo = true := by
  rw [cmd_4 rfl] at h; simp only [Bool.and_eq_true] at h; exact ⟨h.1.1.2, h.1.2, h.2⟩
theorem right_n {c : Cm} (h : cmdB c = true) : c.kind = 1 ∨ c.kind = 2 ∨ c.kind = 3 ∨ c.kind = 4 := by
  by_cases h1 : c.kind = 1
  · exact .inl h1
  by_cases h2 : c.kind = 2
  · exact .inr (.inl h2)
  by_cases h3 : c.kind = 3
  · exact .inr (.inr (.inl h3))
  by_cases h4 : c.kind = 4
  · exact .inr (.inr (.inr h4))
  · rw [cmd_n h1 h2 h3 h4] at h; cases h
theorem bodyR_size (c : Cm) (h : cmdB c = true) : (bodyR c).size ≤ 8050 := by
  unfold bodyR
  split
  · have := numsTo_size [c.A, c.B, c.C, c.D] 4; omega
  · split
    · rename_i h3
      have hs : spotsB c.S = true := by
        rw [cmd_3 h3] at h; simp only [Bool.and_eq_true] at h; exact h.1.2
      have h6 := (spots_ok hs).1
      have := lookTo_size c.S c.S.length
      omega
    · split
      · have h1 := numsTo_size [c.wd, c.ht, c.lv, c.fo] 4
        have h2 := textS_size c.px
        rw [ByteArray.size_append]
        omega
      · exact Nat.zero_le _

set_option maxHeartbeats 4000000 in
set_option maxRecDepth 100000 in
theorem implCommandBytes_any (S : List D3) (kind A B C D wd ht lv fo : Int) (px : ByteArray) (a : Option Addr) (c : Nat) (p : Addr) (w : World) (hkd : okI kind) (hn : S.length ≤ 1048576) (hc : S.length ≤ c) (hc9 : c ≤ 9223372036854775807) (hS : Dirs w a S S.length) (hE : ErrCmd p w) :
    Calls Tryd.prog 13 #[.agg #[.int .i64 kind, .int .i64 A, .int .i64 B, .int .i64 C, .int .i64 D, .slice a S.length c, .int .i64 wd, .int .i64 ht, .string px, .int .i64 lv, .int .i64 fo]] w fun e w' => e = .returned (.string (cmdS ⟨kind, A, B, C, D, S, wd, ht, px, lv, fo⟩)) ∧ Below w.heap.size w w' := by
  have B0 := hide (below1 w (.cells #[.int .i64 kind, .int .i64 A, .int .i64 B, .int .i64 C, .int .i64 D, .slice a S.length c, .int .i64 wd, .int .i64 ht, .string px, .int .i64 lv, .int .i64 fo] 35))
  have A0 := hide (blk_new w [.int .i64 kind, .int .i64 A, .int .i64 B, .int .i64 C, .int .i64 D, .slice a S.length c, .int .i64 wd, .int .i64 ht, .string px, .int .i64 lv, .int .i64 fo] 35)
  have cW := hide (fun (W : World) (h : Below w.heap.size w W) => wishOf_any S kind A B C D wd ht lv fo px a c p W hn hc hc9 (hS.kept h) (hE.kept h))
  have HS := hide hS
  have zk := (numS_size kind).2
  have cP := hide (fun W => implPutNum_any kind W hkd.1 hkd.2)
  clear hS hE hkd
  have hmf : ∀ (fn : Fn) (first cap : Array Value) (w : World), (Instr.makeFunc fn first cap).run Tryd.prog w = .ok (.func fn first cap) w := fun _ _ _ _ => rfl
  go_enter_defers Tryd.func13, Tryd.ntmps13
  go_wp2_with fail
  refine wp_region_held_drew (S := (fun w' => w'.cell? ⟨w.heap.size, 0, none⟩ = some (.int .i64 kind) ∧ w'.cell? ⟨w.heap.size, 1, none⟩ = some (.int .i64 A) ∧ w'.cell? ⟨w.heap.size, 2, none⟩ = some (.int .i64 B) ∧ w'.cell? ⟨w.heap.size, 3, none⟩ = some (.int .i64 C) ∧ w'.cell? ⟨w.heap.size, 4, none⟩ = some (.int .i64 D) ∧ w'.cell? ⟨w.heap.size, 5, none⟩ = some (.slice a S.length c) ∧ w'.cell? ⟨w.heap.size, 6, none⟩ = some (.int .i64 wd) ∧ w'.cell? ⟨w.heap.size, 7, none⟩ = some (.int .i64 ht) ∧ w'.cell? ⟨w.heap.size, 8, none⟩ = some (.string px) ∧ w'.cell? ⟨w.heap.size, 9, none⟩ = some (.int .i64 lv) ∧ w'.cell? ⟨w.heap.size, 10, none⟩ = some (.int .i64 fo))) (by kernel_rfl) ?_ (fun hHeld => ?_)
  · exact holdC (w := w) (unhide A0)
  refine wpAnyH_take (i := 0) (v := ?_) rfl (by kernel_rfl) (by kernel_rfl) (by kernel_rfl) (fun _ _ _ h => leaves_res (resCB (k := 3) (by decide)) _ _ _ h) (Or.inl ⟨by kernel_rfl, ?_⟩) (by assumption) ?_
  rotate_left
  · intro W0 hSw; (try dsimp only at hSw); go_simp <;> with_reducible rfl
  try simp only [Act.put, List.setIfInBounds_toArray, List.set_cons_zero, List.set_cons_succ]
  refine wpAnyH_take (i := 1) (v := ?_) rfl (by kernel_rfl) (by kernel_rfl) (by kernel_rfl) (fun _ _ _ h => leaves_res (resCB (k := 4) (by decide)) _ _ _ h) (Or.inl ⟨by kernel_rfl, ?_⟩) (by assumption) ?_
  rotate_left
  · intro W0 hSw; (try dsimp only at hSw); go_simp <;> with_reducible rfl
  try simp only [Act.put, List.setIfInBounds_toArray, List.set_cons_zero, List.set_cons_succ]
  refine wpAnyH_take (i := 3) (v := ?_) rfl (by kernel_rfl) (by kernel_rfl) (by kernel_rfl) (fun _ _ _ h => leaves_res (resCB (k := 6) (by decide)) _ _ _ h) (Or.inl ⟨by kernel_rfl, ?_⟩) (by assumption) ?_
  rotate_left
  · intro W0 hSw; (try dsimp only at hSw); go_simp <;> with_reducible rfl
  try simp only [Act.put, List.setIfInBounds_toArray, List.set_cons_zero, List.set_cons_succ]
  have Bd := hide ((unhide B0).drew)
  have Ad := hide ((unhide A0).drewn)
  refine wpAnyH_ready (rs := [2]) (by kernel_rfl) (by simp) ?_
  refine AllReadyH.cons rfl (fun K hK => ?_) AllReadyH.nil
  go_simp
  refine (unhide cP _).mono ?_
  rintro e v1 ⟨rfl, hx⟩
  have B1 := hide (below_call (unhide Bd) hx)
  have A1 := hide ((unhide Ad).kept hx)
  clear hx Bd Ad
  refine hK.out _ _ (holdC (w := w) (unhide A1)) (fun hHeld1 => ?_)
  clear hK K
  refine wpAnyH_ready (rs := [4]) (by kernel_rfl) (by simp) ?_
  refine AllReadyH.cons rfl (fun K hK => ?_) AllReadyH.nil
  go_simp
  refine (unhide cW _ (unhide B1)).mono ?_
  rintro e v2 ⟨he, hx⟩
  have B2 := hide (below_call (unhide B1) hx)
  have A2 := hide ((unhide A1).kept hx)
  clear hx B1 A1 cW cP
  unfold WishEnd at he
  cases hk : cmdB ⟨kind, A, B, C, D, S, wd, ht, px, lv, fo⟩
  · rw [hk] at he
    have he' : e = noCmd p := he
    subst he'
    have HO : Hid (cmdS ⟨kind, A, B, C, D, S, wd, ht, px, lv, fo⟩ = ⟨#[]⟩) := hide (by unfold cmdS; rw [hk]; rfl)
    unfold noCmd
    clear hK
    go_wp2_with fail
    refine leaves_cons (f := 42) (args := #[]) (by simp) (by simp [go_sem]) ?_
    refine (catchB_panicking _ _ [] _).mono ?_
    rintro e u' w'' ⟨rfl, rfl, hw⟩
    subst hw
    simp [Leaves, settle, results, Tryd.results13, go_sem]
    exact ⟨(unhide HO).symm, unhide B2⟩
  rw [hk] at he
  have he' := he
  rw [if_pos rfl] at he'
  have HO : Hid (cmdS ⟨kind, A, B, C, D, S, wd, ht, px, lv, fo⟩ = sealOf (numS kind ++ bodyR ⟨kind, A, B, C, D, S, wd, ht, px, lv, fo⟩)) := hide (by unfold cmdS; rw [hk]; rfl)
  have zb := bodyR_size _ hk
  have cB : Hid (∃ bv bt bf, e = .returned (.iface bt bv) ∧ (∀ W : World, (method 323 bt bv "loop.example/g00577/impl.body").run Tryd.prog W = .ok (bf, bv) W) ∧ (∀ W : World, (callFunc bf #[bv]).run Tryd.prog W = .ok (.enter bf #[bv]) W) ∧ ∀ W : World, Below w.heap.size w W → Calls Tryd.prog bf #[bv] W fun e w' => e = .returned (.string (bodyR ⟨kind, A, B, C, D, S, wd, ht, px, lv, fo⟩)) ∧ Below W.heap.size W w') := by
    have hkd := right_n hk
    dsimp only at hkd he'
    rcases hkd with rfl | rfl | rfl | rfl
    · exact hide ⟨.agg #[], 103, 145, he', fun _ => by kernel_rfl, fun _ => by kernel_rfl, fun W hW => by
        exact resetBody_any _⟩
    · exact hide ⟨.agg #[.int .i64 A, .int .i64 B, .int .i64 C, .int .i64 D], 106, 147, he', fun _ => by kernel_rfl, fun _ => by kernel_rfl, fun W hW => by
        have HR := right_2 hk
        exact gyroBody_any A B C D _ HR⟩
    · exact hide ⟨.agg #[.slice a S.length c], 108, 149, he', fun _ => by kernel_rfl, fun _ => by kernel_rfl, fun W hW => by
        have HR := right_3 hk
        have HS' := unhide HS
        exact lookBody_any S a c _ HR (HS'.kept hW)⟩
    · exact hide ⟨.agg #[.int .i64 wd, .int .i64 ht, .string px, .int .i64 lv, .int .i64 fo], 111, 151, he', fun _ => by kernel_rfl, fun _ => by kernel_rfl, fun W hW => by
        have HR := right_4 hk
        exact frameBody_any wd ht lv fo px _ HR.1 HR.2.1 HR.2.2⟩
  obtain ⟨bv, bt, bf, rfl, hm, hcf, hB⟩ := unhide cB
  have HB := hide hB
  clear hB cB he he' hk
  generalize bodyR ⟨kind, A, B, C, D, S, wd, ht, px, lv, fo⟩ = bs at *
  have A2' := A2
  refine hK.out _ _ (holdC (w := w) (unhide A2)) (fun hHeld2 => ?_)
  clear hK K
  refine wpAnyH_ready (rs := [5]) (by kernel_rfl) (by simp) ?_
  refine AllReadyH.cons rfl (fun K hK => ?_) AllReadyH.nil
  go_simp
  refine (unhide HB _ (unhide B2)).mono ?_
  rintro e v3 ⟨rfl, hx⟩
  have B3 := hide (below_call (unhide B2) hx)
  have A3 := hide ((unhide A2).kept hx)
  clear hx B2 A2
  refine hK.out _ _ (holdC (w := w) (unhide A3)) (fun hHeld3 => ?_)
  clear hK K
  refine wpAnyH_ready (rs := [6]) (by kernel_rfl) (by simp) ?_
  refine AllReadyH.cons rfl (fun K hK => ?_) AllReadyH.nil
  go_simp
  refine (joinTexts_any _ _ _ (by omega) (by omega)).mono ?_
  rintro e v4 ⟨rfl, hx⟩
  have B4 := hide (below_call (unhide B3) hx)
  have A4 := hide ((unhide A3).kept hx)
  clear hx B3 A3
  refine hK.out _ _ (holdC (w := w) (unhide A4)) (fun hHeld4 => ?_)
  clear hK K
  refine wpAnyH_ready (rs := [7]) (by kernel_rfl) (by simp) ?_
  refine AllReadyH.cons rfl (fun K hK => ?_) AllReadyH.nil
  go_simp
  refine (implSeal_any _ _ (by rw [ByteArray.size_append]; omega)).mono ?_
  rintro e v5 ⟨rfl, hx⟩
  have B5 := hide (below_call (unhide B4) hx)
  have A5 := hide ((unhide A4).kept hx)
  clear hx B4 A4
  refine hK.out _ _ (holdC (w := w) (unhide A5)) (fun hHeld5 => ?_)
  clear hK K
  refine wpAnyH_ready (rs := [8]) (by kernel_rfl) (by simp) ?_
  refine AllReadyH.cons rfl (fun K hK => ?_) AllReadyH.nil
  go_simp
  refine hK.out _ _ (holdC (w := w) (unhide A5)) (fun hHeld6 => ?_)
  clear hK K
  refine wpAnyH_done (by kernel_rfl) ?_ _
  go_wp2_with fail
  refine leaves_cons (f := 42) (args := #[]) (by simp) (by simp [go_sem]) ?_
  refine (catchB_idle _).mono ?_
  rintro e u' w'' ⟨rfl, rfl, hw⟩
  subst hw
  simp [Leaves, settle, results, Tryd.results13, go_sem]
  exact ⟨(unhide HO).symm, unhide B5⟩
end Go.Proofs.YtnffnjljjecphaaDoor
