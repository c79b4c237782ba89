/- Several texts in one: CmH, CmI. -/
import Derived.Test.YtnffnjljjecphaaDoorQCommandReadOwn13
namespace Go.Proofs.YtnffnjljjecphaaDoor
open Go.RowKit Go.Sort
set_option linter.unusedVariables false
set_option linter.unusedSimpArgs false

/-- what is left to do behind a body hangs on the results' places alone -/
theorem leaves_res {P : Program} {fn : Func} {t t' : Array Value} {R : Ending → World → Prop} (h : results fn t = results fn t') : ∀ (ds : List Deferred) (u : FrameMode) (w : World), Leaves P fn t R ds u w → Leaves P fn t' R ds u w
  | [], .returning, w, hl => by
    obtain ⟨v, h1, h2⟩ := hl
    exact ⟨v, by rw [← h]; exact h1, h2⟩
  | [], .panicking _, w, hl => hl
  | [], .run, w, hl => hl
  | d :: ds, u, w, hl => by
    obtain ⟨hu, fv, cap, f, args, h1, h2, h3⟩ := hl
    refine ⟨hu, fv, cap, f, args, h1, h2, h3.mono ?_⟩
    intro e u' w' he
    cases e with
    | returned v => exact leaves_res h ds _ _ he
    | panicked c => exact leaves_res h ds _ _ he
    | outgrown => exact he
theorem resCB {T : Array Value} {v : Value} {k : Nat} (hk : k ≠ 2) : results Tryd.f13 (T.setIfInBounds k v) = results Tryd.f13 T := by
  simp [results, Tryd.results13, Array.getD_eq_getD_getElem?, Array.getElem?_setIfInBounds, hk]
theorem catchB_panicking (u : TypeId) (pv : Value) (older : List PanicEntry) (w : World) :
    CallsD Tryd.prog 42 #[] (.panicking ({ v := .iface u pv, recovered := false } :: older)) w fun e u' w' =>
      e = .returned (.tuple #[]) ∧ u' = .panicking ({ v := .iface u pv, recovered := true } :: older) ∧ w' = w := by
  refine callsD_of_wpS Tryd.func42 rfl fun c₀ cs hu => ?_
  apply wpS_region
  simp [wpOpsS, go_sem, recoverD, hu, Tryd.ntmps42, Exit.thenS, bodyPostS, results, Tryd.results42]
theorem catchB_idle (w : World) :
    CallsD Tryd.prog 42 #[] .returning w fun e u' w' => e = .returned (.tuple #[]) ∧ u' = .returning ∧ w' = w := by
  refine callsD_of_wpS Tryd.func42 rfl fun c₀ cs hu => ?_
  apply wpS_region
  cases c₀
  simp_all [wpOpsS, go_sem, recoverD, Tryd.ntmps42, Exit.thenS, bodyPostS, results, Tryd.results42]
theorem right_2 {S : List D3} {A B C D wd ht lv fo : Int} {px : ByteArray} (h : cmdB ⟨2, A, B, C, D, S, wd, ht, px, lv, fo⟩ = true) : rightT A B C D = true := by
  rw [cmd_2 rfl] at h; simp only [Bool.and_eq_true] at h; exact h.1.1
theorem right_3 {S : List D3} {A B C D wd ht lv fo : Int} {px : ByteArray} (h : cmdB ⟨3, A, B, C, D, S, wd, ht, px, lv, fo⟩ = true) : spotsB S = true := by
  rw [cmd_3 rfl] at h; simp only [Bool.and_eq_true] at h; exact h.1.2
theorem right_4 {S : List D3} {A B C D wd ht lv fo : Int} {px : ByteArray} (h : cmdB ⟨4, A, B, C, D, S, wd, ht, px, lv, fo⟩ = true) : frameB wd ht px = true ∧ spanB 0 255 lv = true ∧ spanB 1 40 fo = true := by
  rw [cmd_4 rfl] at h; simp only [Bool.and_eq_true] at h; exact ⟨h.1.1.2, h.1.2, h.2⟩
theorem right_n {c : Cm} (h : cmdB c = true) : c.kind = 1 ∨ c.kind = 2 ∨ c.kind = 3 ∨ c.kind = 4 := by
  by_cases h1 : c.kind = 1
  · exact .inl h1
  by_cases h2 : c.kind = 2
  · exact .inr (.inl h2)
  by_cases h3 : c.kind = 3
  · exact .inr (.inr (.inl h3))
  by_cases h4 : c.kind = 4
  · exact .inr (.inr (.inr h4))
  · rw [cmd_n h1 h2 h3 h4] at h; cases h
theorem bodyR_size (c : Cm) (h : cmdB c = true) : (bodyR c).size ≤ 8050 := by
  unfold bodyR
  split
  · have := numsTo_size [c.A, c.B, c.C, c.D] 4; omega
  · split
    · rename_i h3
      have hs : spotsB c.S = true := by
        rw [cmd_3 h3] at h; simp only [Bool.and_eq_true] at h; exact h.1.2
      have h6 := (spots_ok hs).1
      have := lookTo_size c.S c.S.length
      omega
    · split
      · have h1 := numsTo_size [c.wd, c.ht, c.lv, c.fo] 4
        have h2 := textS_size c.px
        rw [ByteArray.size_append]
        omega
      · exact Nat.zero_le _

set_option maxHeartbeats 4000000 in
set_option maxRecDepth 100000 in
theorem implCommandBytes_any (S : List D3) (kind A B C D wd ht lv fo : Int) (px : ByteArray) (a : Option Addr) (c : Nat) (p : Addr) (w : World) (hkd : okI kind) (hn : S.length ≤ 1048576) (hc : S.length ≤ c) (hc9 : c ≤ 9223372036854775807) (hS : Dirs w a S S.length) (hE : ErrCmd p w) :
    Calls Tryd.prog 13 #[.agg #[.int .i64 kind, .int .i64 A, .int .i64 B, .int .i64 C, .int .i64 D, .slice a S.length c, .int .i64 wd, .int .i64 ht, .string px, .int .i64 lv, .int .i64 fo]] w fun e w' => e = .returned (.string (cmdS ⟨kind, A, B, C, D, S, wd, ht, px, lv, fo⟩)) ∧ Below w.heap.size w w' := by
  have B0 := hide (below1 w (.cells #[.int .i64 kind, .int .i64 A, .int .i64 B, .int .i64 C, .int .i64 D, .slice a S.length c, .int .i64 wd, .int .i64 ht, .string px, .int .i64 lv, .int .i64 fo] 35))
  have A0 := hide (blk_new w [.int .i64 kind, .int .i64 A, .int .i64 B, .int .i64 C, .int .i64 D, .slice a S.length c, .int .i64 wd, .int .i64 ht, .string px, .int .i64 lv, .int .i64 fo] 35)
  have cW := hide (fun (W : World) (h : Below w.heap.size w W) => wishOf_any S kind A B C D wd ht lv fo px a c p W hn hc hc9 (hS.kept h) (hE.kept h))
  have HS := hide hS
  have zk := (numS_size kind).2
  have cP := hide (fun W => implPutNum_any kind W hkd.1 hkd.2)
  clear hS hE hkd
  have hmf : ∀ (fn : Fn) (first cap : Array Value) (w : World), (Instr.makeFunc fn first cap).run Tryd.prog w = .ok (.func fn first cap) w := fun _ _ _ _ => rfl
  go_enter_defers Tryd.func13, Tryd.ntmps13
  go_wp2_with fail
  refine wp_region_held_drew (S := (fun w' => w'.cell? ⟨w.heap.size, 0, none⟩ = some (.int .i64 kind) ∧ w'.cell? ⟨w.heap.size, 1, none⟩ = some (.int .i64 A) ∧ w'.cell? ⟨w.heap.size, 2, none⟩ = some (.int .i64 B) ∧ w'.cell? ⟨w.heap.size, 3, none⟩ = some (.int .i64 C) ∧ w'.cell? ⟨w.heap.size, 4, none⟩ = some (.int .i64 D) ∧ w'.cell? ⟨w.heap.size, 5, none⟩ = some (.slice a S.length c) ∧ w'.cell? ⟨w.heap.size, 6, none⟩ = some (.int .i64 wd) ∧ w'.cell? ⟨w.heap.size, 7, none⟩ = some (.int .i64 ht) ∧ w'.cell? ⟨w.heap.size, 8, none⟩ = some (.string px) ∧ w'.cell? ⟨w.heap.size, 9, none⟩ = some (.int .i64 lv) ∧ w'.cell? ⟨w.heap.size, 10, none⟩ = some (.int .i64 fo))) (by kernel_rfl) ?_ (fun hHeld => ?_)
  · exact holdC (w := w) (unhide A0)
  refine wpAnyH_take (i := 0) (v := ?_) rfl (by kernel_rfl) (by kernel_rfl) (by kernel_rfl) (fun _ _ _ h => leaves_res (resCB (k := 3) (by decide)) _ _ _ h) (Or.inl ⟨by kernel_rfl, ?_⟩) (by assumption) ?_
  rotate_left
  · intro W0 hSw; (try dsimp only at hSw); go_simp <;> with_reducible rfl
  try simp only [Act.put, List.setIfInBounds_toArray, List.set_cons_zero, List.set_cons_succ]
  refine wpAnyH_take (i := 1) (v := ?_) rfl (by kernel_rfl) (by kernel_rfl) (by kernel_rfl) (fun _ _ _ h => leaves_res (resCB (k := 4) (by decide)) _ _ _ h) (Or.inl ⟨by kernel_rfl, ?_⟩) (by assumption) ?_
  rotate_left
  · intro W0 hSw; (try dsimp only at hSw); go_simp <;> with_reducible rfl
  try simp only [Act.put, List.setIfInBounds_toArray, List.set_cons_zero, List.set_cons_succ]
  refine wpAnyH_take (i := 3) (v := ?_) rfl (by kernel_rfl) (by kernel_rfl) (by kernel_rfl) (fun _ _ _ h => leaves_res (resCB (k := 6) (by decide)) _ _ _ h) (Or.inl ⟨by kernel_rfl, ?_⟩) (by assumption) ?_
  rotate_left
  · intro W0 hSw; (try dsimp only at hSw); go_simp <;> with_reducible rfl
  try simp only [Act.put, List.setIfInBounds_toArray, List.set_cons_zero, List.set_cons_succ]
  have Bd := hide ((unhide B0).drew)
  have Ad := hide ((unhide A0).drewn)
  refine wpAnyH_ready (rs := [2]) (by kernel_rfl) (by simp) ?_
  refine AllReadyH.cons rfl (fun K hK => ?_) AllReadyH.nil
  go_simp
  refine (unhide cP _).mono ?_
  rintro e v1 ⟨rfl, hx⟩
  have B1 := hide (below_call (unhide Bd) hx)
  have A1 := hide ((unhide Ad).kept hx)
  clear hx Bd Ad
  refine hK.out _ _ (holdC (w := w) (unhide A1)) (fun hHeld1 => ?_)
  clear hK K
  refine wpAnyH_ready (rs := [4]) (by kernel_rfl) (by simp) ?_
  refine AllReadyH.cons rfl (fun K hK => ?_) AllReadyH.nil
  go_simp
  refine (unhide cW _ (unhide B1)).mono ?_
  rintro e v2 ⟨he, hx⟩
  have B2 := hide (below_call (unhide B1) hx)
  have A2 := hide ((unhide A1).kept hx)
  clear hx B1 A1 cW cP
  unfold WishEnd at he
  cases hk : cmdB ⟨kind, A, B, C, D, S, wd, ht, px, lv, fo⟩
  · rw [hk] at he
    have he' : e = noCmd p := he
    subst he'
    have HO : Hid (cmdS ⟨kind, A, B, C, D, S, wd, ht, px, lv, fo⟩ = ⟨#[]⟩) := hide (by unfold cmdS; rw [hk]; rfl)
    unfold noCmd
    clear hK
    go_wp2_with fail
    refine leaves_cons (f := 42) (args := #[]) (by simp) (by simp [go_sem]) ?_
    refine (catchB_panicking _ _ [] _).mono ?_
    rintro e u' w'' ⟨rfl, rfl, hw⟩
    subst hw
    simp [Leaves, settle, results, Tryd.results13, go_sem]
    exact ⟨(unhide HO).symm, unhide B2⟩
  rw [hk] at he
  have he' := he
  rw [if_pos rfl] at he'
  have HO : Hid (cmdS ⟨kind, A, B, C, D, S, wd, ht, px, lv, fo⟩ = sealOf (numS kind ++ bodyR ⟨kind, A, B, C, D, S, wd, ht, px, lv, fo⟩)) := hide (by unfold cmdS; rw [hk]; rfl)
  have zb := bodyR_size _ hk
  have cB : Hid (∃ bv bt bf, e = .returned (.iface bt bv) ∧ (∀ W : World, (method 323 bt bv "loop.example/g00577/impl.body").run Tryd.prog W = .ok (bf, bv) W) ∧ (∀ W : World, (callFunc bf #[bv]).run Tryd.prog W = .ok (.enter bf #[bv]) W) ∧ ∀ W : World, Below w.heap.size w W → Calls Tryd.prog bf #[bv] W fun e w' => e = .returned (.string (bodyR ⟨kind, A, B, C, D, S, wd, ht, px, lv, fo⟩)) ∧ Below W.heap.size W w') := by
    have hkd := right_n hk
    dsimp only at hkd he'
    rcases hkd with rfl | rfl | rfl | rfl
    · exact hide ⟨.agg #[], 103, 145, he', fun _ => by kernel_rfl, fun _ => by kernel_rfl, fun W hW => by
        exact resetBody_any _⟩
    · exact hide ⟨.agg #[.int .i64 A, .int .i64 B, .int .i64 C, .int .i64 D], 106, 147, he', fun _ => by kernel_rfl, fun _ => by kernel_rfl, fun W hW => by
        have HR := right_2 hk
        exact gyroBody_any A B C D _ HR⟩
    · exact hide ⟨.agg #[.slice a S.length c], 108, 149, he', fun _ => by kernel_rfl, fun _ => by kernel_rfl, fun W hW => by
        have HR := right_3 hk
        have HS' := unhide HS
        exact lookBody_any S a c _ HR (HS'.kept hW)⟩
    · exact hide ⟨.agg #[.int .i64 wd, .int .i64 ht, .string px, .int .i64 lv, .int .i64 fo], 111, 151, he', fun _ => by kernel_rfl, fun _ => by kernel_rfl, fun W hW => by
        have HR := right_4 hk
        exact frameBody_any wd ht lv fo px _ HR.1 HR.2.1 HR.2.2⟩
  obtain ⟨bv, bt, bf, rfl, hm, hcf, hB⟩ := unhide cB
  have HB := hide hB
  clear hB cB he he' hk
  generalize bodyR ⟨kind, A, B, C, D, S, wd, ht, px, lv, fo⟩ = bs at *
  have A2' := A2
  refine hK.out _ _ (holdC (w := w) (unhide A2)) (fun hHeld2 => ?_)
  clear hK K
  refine wpAnyH_ready (rs := [5]) (by kernel_rfl) (by simp) ?_
  refine AllReadyH.cons rfl (fun K hK => ?_) AllReadyH.nil
  go_simp
  refine (unhide HB _ (unhide B2)).mono ?_
  rintro e v3 ⟨rfl, hx⟩
  have B3 := hide (below_call (unhide B2) hx)
  have A3 := hide ((unhide A2).kept hx)
  clear hx B2 A2
  refine hK.out _ _ (holdC (w := w) (unhide A3)) (fun hHeld3 => ?_)
  clear hK K
  refine wpAnyH_ready (rs := [6]) (by kernel_rfl) (by simp) ?_
  refine AllReadyH.cons rfl (fun K hK => ?_) AllReadyH.nil
  go_simp
  refine (joinTexts_any _ _ _ (by omega) (by omega)).mono ?_
  rintro e v4 ⟨rfl, hx⟩
  have B4 := hide (below_call (unhide B3) hx)
  have A4 := hide ((unhide A3).kept hx)
  clear hx B3 A3
  refine hK.out _ _ (holdC (w := w) (unhide A4)) (fun hHeld4 => ?_)
  clear hK K
  refine wpAnyH_ready (rs := [7]) (by kernel_rfl) (by simp) ?_
  refine AllReadyH.cons rfl (fun K hK => ?_) AllReadyH.nil
  go_simp
  refine (implSeal_any _ _ (by rw [ByteArray.size_append]; omega)).mono ?_
  rintro e v5 ⟨rfl, hx⟩
  have B5 := hide (below_call (unhide B4) hx)
  have A5 := hide ((unhide A4).kept hx)
  clear hx B4 A4
  refine hK.out _ _ (holdC (w := w) (unhide A5)) (fun hHeld5 => ?_)
  clear hK K
  refine wpAnyH_ready (rs := [8]) (by kernel_rfl) (by simp) ?_
  refine AllReadyH.cons rfl (fun K hK => ?_) AllReadyH.nil
  go_simp
  refine hK.out _ _ (holdC (w := w) (unhide A5)) (fun hHeld6 => ?_)
  clear hK K
  refine wpAnyH_done (by kernel_rfl) ?_ _
  go_wp2_with fail
  refine leaves_cons (f := 42) (args := #[]) (by simp) (by simp [go_sem]) ?_
  refine (catchB_idle _).mono ?_
  rintro e u' w'' ⟨rfl, rfl, hw⟩
  subst hw
  simp [Leaves, settle, results, Tryd.results13, go_sem]
  exact ⟨(unhide HO).symm, unhide B5⟩
end Go.Proofs.YtnffnjljjecphaaDoor

namespace Go.Proofs.YtnffnjljjecphaaDoor
open Go.RowKit Go.Sort
set_option linter.unusedVariables false
set_option linter.unusedSimpArgs false

theorem nums4 (a b c d : Int) (t : ByteArray) : t ++ numS a ++ numS b ++ numS c ++ numS d = t ++ numsTo [a, b, c, d] 4 := by
  have e : numsTo [a, b, c, d] 4 = numS a ++ numS b ++ numS c ++ numS d := by
    simp only [numsTo, List.getD_cons_zero, List.getD_cons_succ]
    have e0 : (⟨#[]⟩ : ByteArray) ++ numS a = numS a := ByteArray.empty_append
    rw [e0]
  rw [e]
  simp only [ByteArray.append_assoc]
theorem nums3 (a b c : Int) : numS a ++ numS b ++ numS c = numsTo [a, b, c] 3 := by
  simp only [numsTo, List.getD_cons_zero, List.getD_cons_succ]
  have e0 : (⟨#[]⟩ : ByteArray) ++ numS a = numS a := ByteArray.empty_append
  rw [e0]
set_option maxHeartbeats 1000000 in
set_option maxRecDepth 100000 in
theorem l08Vec_any (x y z : Int) (w : World) (h1 : okI x) (h2 : okI y) (h3 : okI z) : Calls Tryd.prog 39 #[.agg #[.int .i64 x, .int .i64 y, .int .i64 z]] w fun e w' => e = .returned (.string (numsTo [x, y, z] 3)) ∧ Below w.heap.size w w' := by
  have HO := hide (nums3 x y z)
  have A0 := blk_new w [.int .i64 x, .int .i64 y, .int .i64 z] 75
  have B1 := hide (below1 w (.cells #[.int .i64 x, .int .i64 y, .int .i64 z] 75))
  have n1 := hide (fun W => specPutNum_any x W h1.1 h1.2)
  have n2 := hide (fun W => specPutNum_any y W h2.1 h2.2)
  have n3 := hide (fun W => specPutNum_any z W h3.1 h3.2)
  have z1 := (numS_size x).2
  have z2 := (numS_size y).2
  have z3 := (numS_size z).2
  generalize numS x = m1 at *
  generalize numS y = m2 at *
  generalize numS z = m3 at *
  generalize numsTo [x, y, z] 3 = tx at *
  have y2 : ¬ m1.size + m2.size > 9223372036854775807 := by omega
  have y3 : ¬ m1.size + m2.size + m3.size > 9223372036854775807 := by omega
  have r0 := cell_regrown (A0.cell 0 _ rfl)
  have r1 := cell_regrown (A0.cell 1 _ rfl)
  have r2 := cell_regrown (A0.cell 2 _ rfl)
  clear A0 z1 z2 z3 h1 h2 h3
  go_enter Tryd.func39, Tryd.ntmps39
  go_wp2_with fail
  refine wp_region_quiet_below (by kernel_rfl) (by kernel_rfl) ?_
  repeat (go_big_quiet_step (first | (with_reducible exact Calls.regrown_of (unhide n1 _)) | (with_reducible exact Calls.regrown_of (unhide n2 _)) | (with_reducible exact Calls.regrown_of (unhide n3 _))))
  refine wpQuiet_nil ?_
  intro _ hw'
  obtain ⟨⟨dq, osq⟩, hw''⟩ := hw'
  subst hw''
  have hx := below_call (unhide B1) (below_regrown _ dq osq)
  generalize grow (redrawn _ dq) osq = W2 at hx ⊢
  have HB2 := hide hx
  clear hx r0 r1 r2 n1 n2 n3 B1
  go_wp2_with fail
  go_ret
  exact ⟨by rw [← unhide HO]; rfl, unhide HB2⟩

set_option maxHeartbeats 1000000 in
set_option maxRecDepth 100000 in
theorem specCB_no (S : List D3) (kind A B C D wd ht lv fo : Int) (px : ByteArray) (a : Option Addr) (c : Nat) (w : World) (hn : S.length ≤ 1048576) (hS : Dirs w a S S.length) (hk : cmdB ⟨kind, A, B, C, D, S, wd, ht, px, lv, fo⟩ = false) :
    Calls Tryd.prog 12 #[.agg #[.int .i64 kind, .int .i64 A, .int .i64 B, .int .i64 C, .int .i64 D, .slice a S.length c, .int .i64 wd, .int .i64 ht, .string px, .int .i64 lv, .int .i64 fo]] w fun e w' => e = .returned (.string (cmdS ⟨kind, A, B, C, D, S, wd, ht, px, lv, fo⟩)) ∧ Below w.heap.size w w' := by
  have B0 := hide (below1 w (.cells #[.int .i64 kind, .int .i64 A, .int .i64 B, .int .i64 C, .int .i64 D, .slice a S.length c, .int .i64 wd, .int .i64 ht, .string px, .int .i64 lv, .int .i64 fo] 35))
  have cR := hide (specCommandRight_any S kind A B C D wd ht lv fo px a c _ hn (hS.kept (unhide B0)))
  rw [hk] at cR
  have HO : Hid (cmdS ⟨kind, A, B, C, D, S, wd, ht, px, lv, fo⟩ = ⟨#[]⟩) := hide (by unfold cmdS; rw [hk]; rfl)
  clear hS hk
  go_enter Tryd.func12, Tryd.ntmps12
  go_wp2_with fail
  refine (unhide cR).mono ?_
  rintro e w1 ⟨rfl, hx⟩
  have B1 := hide (below_call (unhide B0) hx)
  clear hx B0 cR
  go_wp2_with fail
  go_ret
  exact ⟨by rw [unhide HO]; rfl, unhide B1⟩

set_option maxHeartbeats 4000000 in
set_option maxRecDepth 100000 in
theorem specCB_1 (S : List D3) (A B C D wd ht lv fo : Int) (px : ByteArray) (a : Option Addr) (c : Nat) (w : World) (hn : S.length ≤ 1048576) (hS : Dirs w a S S.length) (hk : cmdB ⟨1, A, B, C, D, S, wd, ht, px, lv, fo⟩ = true) :
    Calls Tryd.prog 12 #[.agg #[.int .i64 1, .int .i64 A, .int .i64 B, .int .i64 C, .int .i64 D, .slice a S.length c, .int .i64 wd, .int .i64 ht, .string px, .int .i64 lv, .int .i64 fo]] w fun e w' => e = .returned (.string (cmdS ⟨1, A, B, C, D, S, wd, ht, px, lv, fo⟩)) ∧ Below w.heap.size w w' := by
  have B0 := hide (below1 w (.cells #[.int .i64 1, .int .i64 A, .int .i64 B, .int .i64 C, .int .i64 D, .slice a S.length c, .int .i64 wd, .int .i64 ht, .string px, .int .i64 lv, .int .i64 fo] 35))
  have A0 := hide (blk_new w [.int .i64 1, .int .i64 A, .int .i64 B, .int .i64 C, .int .i64 D, .slice a S.length c, .int .i64 wd, .int .i64 ht, .string px, .int .i64 lv, .int .i64 fo] 35)
  have cR := hide (specCommandRight_any S 1 A B C D wd ht lv fo px a c _ hn (hS.kept (unhide B0)))
  rw [hk] at cR
  have HO : Hid (cmdS ⟨1, A, B, C, D, S, wd, ht, px, lv, fo⟩ = sealOf (numS 1 ++ ⟨#[]⟩)) := hide (by unfold cmdS; rw [hk]; rfl)
  have e0 : numS 1 ++ (⟨#[]⟩ : ByteArray) = numS 1 := ByteArray.append_empty
  rw [e0] at HO
  clear hS hk e0
  go_enter Tryd.func12, Tryd.ntmps12
  go_wp2_with fail
  refine (unhide cR).mono ?_
  rintro e w1 ⟨rfl, hx⟩
  have B1 := hide (below_call (unhide B0) hx)
  have A1 := hide ((unhide A0).kept hx)
  clear hx B0 A0 cR
  have q0 := (unhide A1).cell 0 _ rfl
  have q1 := (unhide A1).cell 1 _ rfl
  have q2 := (unhide A1).cell 2 _ rfl
  have q3 := (unhide A1).cell 3 _ rfl
  have q4 := (unhide A1).cell 4 _ rfl
  have q5 := (unhide A1).cell 5 _ rfl
  have q6 := (unhide A1).cell 6 _ rfl
  have q7 := (unhide A1).cell 7 _ rfl
  have q8 := (unhide A1).cell 8 _ rfl
  have q9 := (unhide A1).cell 9 _ rfl
  have q10 := (unhide A1).cell 10 _ rfl
  go_wp2_with fail
  refine (specPutNum_any 1 _ (by omega) (by omega)).mono ?_
  rintro e w2 ⟨rfl, hx⟩
  have B2 := hide (below_call (unhide B1) hx)
  have A2 := hide ((unhide A1).kept hx)
  clear hx B1 A1 q0 q1 q2 q3 q4 q5 q6 q7 q8 q9 q10
  have zk := (numS_size 1).2
  generalize numS 1 = m0 at *
  have q0 := (unhide A2).cell 0 _ rfl
  have q1 := (unhide A2).cell 1 _ rfl
  have q2 := (unhide A2).cell 2 _ rfl
  have q3 := (unhide A2).cell 3 _ rfl
  have q4 := (unhide A2).cell 4 _ rfl
  have q5 := (unhide A2).cell 5 _ rfl
  have q6 := (unhide A2).cell 6 _ rfl
  have q7 := (unhide A2).cell 7 _ rfl
  have q8 := (unhide A2).cell 8 _ rfl
  have q9 := (unhide A2).cell 9 _ rfl
  have q10 := (unhide A2).cell 10 _ rfl
  go_wp2_with fail
  refine (specSeal_any m0 _ (by omega)).mono ?_
  rintro e w3 ⟨rfl, hx⟩
  have B3 := hide (below_call (unhide B2) hx)
  clear hx
  go_wp2_with fail
  go_ret
  exact ⟨by rw [unhide HO]; rfl, unhide B3⟩
set_option maxHeartbeats 4000000 in
set_option maxRecDepth 100000 in
theorem specCB_2 (S : List D3) (A B C D wd ht lv fo : Int) (px : ByteArray) (a : Option Addr) (c : Nat) (w : World) (hn : S.length ≤ 1048576) (hS : Dirs w a S S.length) (hk : cmdB ⟨2, A, B, C, D, S, wd, ht, px, lv, fo⟩ = true) :
    Calls Tryd.prog 12 #[.agg #[.int .i64 2, .int .i64 A, .int .i64 B, .int .i64 C, .int .i64 D, .slice a S.length c, .int .i64 wd, .int .i64 ht, .string px, .int .i64 lv, .int .i64 fo]] w fun e w' => e = .returned (.string (cmdS ⟨2, A, B, C, D, S, wd, ht, px, lv, fo⟩)) ∧ Below w.heap.size w w' := by
  have B0 := hide (below1 w (.cells #[.int .i64 2, .int .i64 A, .int .i64 B, .int .i64 C, .int .i64 D, .slice a S.length c, .int .i64 wd, .int .i64 ht, .string px, .int .i64 lv, .int .i64 fo] 35))
  have A0 := hide (blk_new w [.int .i64 2, .int .i64 A, .int .i64 B, .int .i64 C, .int .i64 D, .slice a S.length c, .int .i64 wd, .int .i64 ht, .string px, .int .i64 lv, .int .i64 fo] 35)
  have cR := hide (specCommandRight_any S 2 A B C D wd ht lv fo px a c _ hn (hS.kept (unhide B0)))
  rw [hk] at cR
  have HO : Hid (cmdS ⟨2, A, B, C, D, S, wd, ht, px, lv, fo⟩ = sealOf (numS 2 ++ numsTo [A, B, C, D] 4)) := hide (by unfold cmdS; rw [hk]; rfl)
  have hr := okI_turn (right_2 hk)
  have HE := hide (nums4 A B C D (numS 2))
  clear hS hk
  go_enter Tryd.func12, Tryd.ntmps12
  go_wp2_with fail
  refine (unhide cR).mono ?_
  rintro e w1 ⟨rfl, hx⟩
  have B1 := hide (below_call (unhide B0) hx)
  have A1 := hide ((unhide A0).kept hx)
  clear hx B0 A0 cR
  have q0 := (unhide A1).cell 0 _ rfl
  have q1 := (unhide A1).cell 1 _ rfl
  have q2 := (unhide A1).cell 2 _ rfl
  have q3 := (unhide A1).cell 3 _ rfl
  have q4 := (unhide A1).cell 4 _ rfl
  have q5 := (unhide A1).cell 5 _ rfl
  have q6 := (unhide A1).cell 6 _ rfl
  have q7 := (unhide A1).cell 7 _ rfl
  have q8 := (unhide A1).cell 8 _ rfl
  have q9 := (unhide A1).cell 9 _ rfl
  have q10 := (unhide A1).cell 10 _ rfl
  go_wp2_with fail
  refine (specPutNum_any 2 _ (by omega) (by omega)).mono ?_
  rintro e w2 ⟨rfl, hx⟩
  have B2 := hide (below_call (unhide B1) hx)
  have A2 := hide ((unhide A1).kept hx)
  clear hx B1 A1 q0 q1 q2 q3 q4 q5 q6 q7 q8 q9 q10
  have zk := (numS_size 2).2
  have n1 := hide (fun W => specPutNum_any A W (by omega) (by omega))
  have z1 := (numS_size A).2
  have n2 := hide (fun W => specPutNum_any B W (by omega) (by omega))
  have z2 := (numS_size B).2
  have n3 := hide (fun W => specPutNum_any C W (by omega) (by omega))
  have z3 := (numS_size C).2
  have n4 := hide (fun W => specPutNum_any D W (by omega) (by omega))
  have z4 := (numS_size D).2
  rw [← unhide HE] at HO
  generalize numS 2 = m0 at *
  generalize numS A = m1 at *
  generalize numS B = m2 at *
  generalize numS C = m3 at *
  generalize numS D = m4 at *
  have y1 : ¬ m0.size + m1.size > 9223372036854775807 := by omega
  have y2 : ¬ m0.size + m1.size + m2.size > 9223372036854775807 := by omega
  have y3 : ¬ m0.size + m1.size + m2.size + m3.size > 9223372036854775807 := by omega
  have y4 : ¬ m0.size + m1.size + m2.size + m3.size + m4.size > 9223372036854775807 := by omega
  have cL := hide (fun W => specSeal_any (m0 ++ m1 ++ m2 ++ m3 ++ m4) W (by simp only [ByteArray.size_append]; omega))
  generalize hsx : sealOf (m0 ++ m1 ++ m2 ++ m3 ++ m4) = sx at *
  clear hsx HE hr
  have p0 := (unhide A2).cell 0 _ rfl
  have r1 := cell_regrown ((unhide A2).cell 1 _ rfl)
  have r2 := cell_regrown ((unhide A2).cell 2 _ rfl)
  have r3 := cell_regrown ((unhide A2).cell 3 _ rfl)
  have r4 := cell_regrown ((unhide A2).cell 4 _ rfl)
  go_wp2_with fail
  refine wp_region_quiet_below (by kernel_rfl) (by kernel_rfl) ?_
  repeat (go_big_quiet_step (first | (with_reducible exact Calls.regrown_of (unhide n1 _)) | (with_reducible exact Calls.regrown_of (unhide n2 _)) | (with_reducible exact Calls.regrown_of (unhide n3 _)) | (with_reducible exact Calls.regrown_of (unhide n4 _))))
  refine wpQuiet_nil ?_
  intro _ hw'
  obtain ⟨⟨dq, osq⟩, hw''⟩ := hw'
  subst hw''
  have hx := below_call (unhide B2) (below_regrown w2 dq osq)
  generalize grow (redrawn w2 dq) osq = W2 at hx ⊢
  have B3 := hide hx
  clear hx r1 r2 r3 r4 p0
  go_wp2_with fail
  refine (unhide cL _).mono ?_
  rintro e w3 ⟨rfl, hx⟩
  have B4 := hide (below_call (unhide B3) hx)
  clear hx
  go_wp2_with fail
  go_ret
  exact ⟨by rw [unhide HO]; rfl, unhide B4⟩
set_option maxHeartbeats 4000000 in
set_option maxRecDepth 100000 in
theorem specCB_3 (S : List D3) (A B C D wd ht lv fo : Int) (px : ByteArray) (a : Option Addr) (c : Nat) (w : World) (hn : S.length ≤ 1048576) (hS : Dirs w a S S.length) (hk : cmdB ⟨3, A, B, C, D, S, wd, ht, px, lv, fo⟩ = true) :
    Calls Tryd.prog 12 #[.agg #[.int .i64 3, .int .i64 A, .int .i64 B, .int .i64 C, .int .i64 D, .slice a S.length c, .int .i64 wd, .int .i64 ht, .string px, .int .i64 lv, .int .i64 fo]] w fun e w' => e = .returned (.string (cmdS ⟨3, A, B, C, D, S, wd, ht, px, lv, fo⟩)) ∧ Below w.heap.size w w' := by
  have B0 := hide (below1 w (.cells #[.int .i64 3, .int .i64 A, .int .i64 B, .int .i64 C, .int .i64 D, .slice a S.length c, .int .i64 wd, .int .i64 ht, .string px, .int .i64 lv, .int .i64 fo] 35))
  have A0 := hide (blk_new w [.int .i64 3, .int .i64 A, .int .i64 B, .int .i64 C, .int .i64 D, .slice a S.length c, .int .i64 wd, .int .i64 ht, .string px, .int .i64 lv, .int .i64 fo] 35)
  have cR := hide (specCommandRight_any S 3 A B C D wd ht lv fo px a c _ hn (hS.kept (unhide B0)))
  rw [hk] at cR
  have HO : Hid (cmdS ⟨3, A, B, C, D, S, wd, ht, px, lv, fo⟩ = sealOf (numS 3 ++ lookTo S S.length)) := hide (by unfold cmdS; rw [hk]; rfl)
  have hsp := right_3 hk
  have h6 := (spots_ok hsp).1
  have HW := hide (fun (k : Nat) (hk : k < S.length) => spot_wide hsp hk)
  have HZ : Hid (lookTo S 0 = numS (S.length : Int)) := hide rfl
  have HS := hide hS
  clear hS hk hsp
  have hA := (unhide A0)
  clear hA
  generalize S.length = n at *
  go_enter Tryd.func12, Tryd.ntmps12
  go_wp2_with fail
  refine (unhide cR).mono ?_
  rintro e w1 ⟨rfl, hx⟩
  have B1 := hide (below_call (unhide B0) hx)
  have A1 := hide ((unhide A0).kept hx)
  clear hx B0 A0 cR
  have q0 := (unhide A1).cell 0 _ rfl
  have q1 := (unhide A1).cell 1 _ rfl
  have q2 := (unhide A1).cell 2 _ rfl
  have q3 := (unhide A1).cell 3 _ rfl
  have q4 := (unhide A1).cell 4 _ rfl
  have q5 := (unhide A1).cell 5 _ rfl
  have q6 := (unhide A1).cell 6 _ rfl
  have q7 := (unhide A1).cell 7 _ rfl
  have q8 := (unhide A1).cell 8 _ rfl
  have q9 := (unhide A1).cell 9 _ rfl
  have q10 := (unhide A1).cell 10 _ rfl
  go_wp2_with fail
  refine (specPutNum_any 3 _ (by omega) (by omega)).mono ?_
  rintro e w2 ⟨rfl, hx⟩
  have B2 := hide (below_call (unhide B1) hx)
  have A2 := hide ((unhide A1).kept hx)
  clear hx B1 A1 q0 q1 q2 q3 q4 q5 q6 q7 q8 q9 q10
  have zk := (numS_size 3).2
  generalize numS 3 = m0 at *
  have q0 := (unhide A2).cell 0 _ rfl
  have q1 := (unhide A2).cell 1 _ rfl
  have q2 := (unhide A2).cell 2 _ rfl
  have q3 := (unhide A2).cell 3 _ rfl
  have q4 := (unhide A2).cell 4 _ rfl
  have q5 := (unhide A2).cell 5 _ rfl
  have q6 := (unhide A2).cell 6 _ rfl
  have q7 := (unhide A2).cell 7 _ rfl
  have q8 := (unhide A2).cell 8 _ rfl
  have q9 := (unhide A2).cell 9 _ rfl
  have q10 := (unhide A2).cell 10 _ rfl
  go_wp2_with fail
  refine (specPutNum_any (n : Int) _ (by omega) (by omega)).mono ?_
  rintro e w3 ⟨rfl, hx⟩
  rw [← unhide HZ]
  have B3 := hide (below_call (unhide B2) hx)
  have A3 := hide ((unhide A2).kept hx)
  clear hx B2 A2 q0 q1 q2 q3 q4 q5 q6 q7 q8 q9 q10
  have z0 := lookTo_size S 0
  have y0 : ¬ m0.size + (lookTo S 0).size > 9223372036854775807 := by omega
  have S3 := hide ((unhide HS).kept (unhide B3))
  have q0 := (unhide A3).cell 0 _ rfl
  have q1 := (unhide A3).cell 1 _ rfl
  have q2 := (unhide A3).cell 2 _ rfl
  have q3 := (unhide A3).cell 3 _ rfl
  have q4 := (unhide A3).cell 4 _ rfl
  have q5 := (unhide A3).cell 5 _ rfl
  have q6 := (unhide A3).cell 6 _ rfl
  have q7 := (unhide A3).cell 7 _ rfl
  have q8 := (unhide A3).cell 8 _ rfl
  have q9 := (unhide A3).cell 9 _ rfl
  have q10 := (unhide A3).cell 10 _ rfl
  rcases unhide S3 with rfl | ⟨b, o, rfl, hb, hc⟩
  · have cL := hide (fun W => specSeal_any (m0 ++ lookTo S 0) W (by rw [ByteArray.size_append]; omega))
    generalize lookTo S 0 = t0 at *
    go_wp2_with fail
    refine wp_loop_rounds 1 ?_
    rw [rounds_succ]
    go_wp2_with fail
    refine (unhide cL _).mono ?_
    rintro e w4 ⟨rfl, hx⟩
    have B4 := hide (below_call (unhide B3) hx)
    clear hx
    go_wp2_with fail
    go_ret
    exact ⟨by rw [unhide HO]; rfl, unhide B4⟩
  have HC := hide hc
  clear hc S3
  go_wp2_with fail
  clear q0 q1 q2 q3 q4 q5 q6 q7 q8 q9 q10
  go_loopw [3, 4] (fun t i wr => ∃ k : Nat, k ≤ n ∧ i = .int .i64 k ∧ t = .string (m0 ++ lookTo S k) ∧ Hid (Below w3.heap.size w3 wr)) (fun _ i _ => n - (intOf i).toNat)
  case atStart => exact ⟨0, by omega, rfl, rfl, hide (Below.refl _ _)⟩
  case round =>
    obtain ⟨k, hk, rfl, rfl, HB⟩ := hrel
    have a5 := ((unhide A3).kept (unhide HB)).cell 5 _ rfl
    have a0 := ((unhide A3).kept (unhide HB)).cell 0 _ rfl
    by_cases hkn : k < n
    · obtain ⟨c0, c1, c2⟩ := ((unhide HC) k hkn).kept hb (unhide HB)
      have hkn2 : (k : Int) < (n : Int) := by omega
      obtain ⟨g1, g2, g3⟩ := unhide HW k hkn
      have HE : Hid (m0 ++ lookTo S (k + 1) = m0 ++ lookTo S k ++ numsTo [(vA S k).1, (vA S k).2.1, (vA S k).2.2] 3) := hide (by show m0 ++ (lookTo S k ++ _) = _; rw [ByteArray.append_assoc])
      have z0 := lookTo_size S k
      generalize (vA S k).1 = x0 at *
      generalize (vA S k).2.1 = x1 at *
      generalize (vA S k).2.2 = x2 at *
      have z1 := numsTo_size [x0, x1, x2] 3
      have cV := hide (fun W => l08Vec_any x0 x1 x2 W (by unfold okI; omega) (by unfold okI; omega) (by unfold okI; omega))
      generalize numsTo [x0, x1, x2] 3 = tx at *
      have zt : (m0 ++ lookTo S k).size ≤ 400 := by rw [ByteArray.size_append]; omega
      generalize m0 ++ lookTo S k = t at *
      have y1 : ¬ t.size + tx.size > 9223372036854775807 := by omega
      clear g1 g2 g3 zt
      go_wp2_with fail
      refine (unhide cV _).mono ?_
      rintro e w4 ⟨rfl, hx⟩
      have HB1 := hide (below_call (unhide HB) hx)
      clear hx HB c0 c1 c2 cV a5 a0
      go_wp2_with fail
      rw [← unhide HE]
      go_roundw
      case rel => exact ⟨k + 1, by omega, by go_num, rfl, HB1⟩
      case measure => simp [intOf]; omega
    · have hkn' : k = n := by omega
      subst hkn'
      have z0 := lookTo_size S k
      have cL := hide (fun W => specSeal_any (m0 ++ lookTo S k) W (by rw [ByteArray.size_append]; omega))
      generalize m0 ++ lookTo S k = t at *
      go_wp2_with fail
      refine (unhide cL _).mono ?_
      rintro e w4 ⟨rfl, hx⟩
      have B4 := hide (below_call (below_call (unhide B3) (unhide HB)) hx)
      clear hx
      go_wp2_with fail
      go_ret
      exact ⟨by rw [unhide HO]; rfl, unhide B4⟩
set_option maxHeartbeats 4000000 in
set_option maxRecDepth 100000 in
theorem specCB_4 (S : List D3) (A B C D wd ht lv fo : Int) (px : ByteArray) (a : Option Addr) (c : Nat) (w : World) (hn : S.length ≤ 1048576) (hS : Dirs w a S S.length) (hk : cmdB ⟨4, A, B, C, D, S, wd, ht, px, lv, fo⟩ = true) :
    Calls Tryd.prog 12 #[.agg #[.int .i64 4, .int .i64 A, .int .i64 B, .int .i64 C, .int .i64 D, .slice a S.length c, .int .i64 wd, .int .i64 ht, .string px, .int .i64 lv, .int .i64 fo]] w fun e w' => e = .returned (.string (cmdS ⟨4, A, B, C, D, S, wd, ht, px, lv, fo⟩)) ∧ Below w.heap.size w w' := by
  have B0 := hide (below1 w (.cells #[.int .i64 4, .int .i64 A, .int .i64 B, .int .i64 C, .int .i64 D, .slice a S.length c, .int .i64 wd, .int .i64 ht, .string px, .int .i64 lv, .int .i64 fo] 35))
  have A0 := hide (blk_new w [.int .i64 4, .int .i64 A, .int .i64 B, .int .i64 C, .int .i64 D, .slice a S.length c, .int .i64 wd, .int .i64 ht, .string px, .int .i64 lv, .int .i64 fo] 35)
  have cR := hide (specCommandRight_any S 4 A B C D wd ht lv fo px a c _ hn (hS.kept (unhide B0)))
  rw [hk] at cR
  have HO : Hid (cmdS ⟨4, A, B, C, D, S, wd, ht, px, lv, fo⟩ = sealOf (numS 4 ++ (numsTo [wd, ht, lv, fo] 4 ++ textS px))) := hide (by unfold cmdS; rw [hk]; rfl)
  have hr := right_4 hk
  have hb := frameB_iff.1 hr.1
  have hl := span_iff.1 hr.2.1
  have hf := span_iff.1 hr.2.2
  have hpx : px.size ≤ 192 := by
    have : wd * ht ≤ 16 * 12 := Int.mul_le_mul hb.2.1 hb.2.2.2.1 (by omega) (by omega)
    omega
  have HE := hide (nums4 wd ht lv fo (numS 4))
  have HE2 : Hid (numS 4 ++ (numsTo [wd, ht, lv, fo] 4 ++ textS px) = numS 4 ++ numS wd ++ numS ht ++ numS lv ++ numS fo ++ textS px) := hide (by rw [← ByteArray.append_assoc, ← unhide HE])
  rw [unhide HE2] at HO
  clear hS hk hr HE HE2
  go_enter Tryd.func12, Tryd.ntmps12
  go_wp2_with fail
  refine (unhide cR).mono ?_
  rintro e w1 ⟨rfl, hx⟩
  have B1 := hide (below_call (unhide B0) hx)
  have A1 := hide ((unhide A0).kept hx)
  clear hx B0 A0 cR
  have q0 := (unhide A1).cell 0 _ rfl
  have q1 := (unhide A1).cell 1 _ rfl
  have q2 := (unhide A1).cell 2 _ rfl
  have q3 := (unhide A1).cell 3 _ rfl
  have q4 := (unhide A1).cell 4 _ rfl
  have q5 := (unhide A1).cell 5 _ rfl
  have q6 := (unhide A1).cell 6 _ rfl
  have q7 := (unhide A1).cell 7 _ rfl
  have q8 := (unhide A1).cell 8 _ rfl
  have q9 := (unhide A1).cell 9 _ rfl
  have q10 := (unhide A1).cell 10 _ rfl
  go_wp2_with fail
  refine (specPutNum_any 4 _ (by omega) (by omega)).mono ?_
  rintro e w2 ⟨rfl, hx⟩
  have B2 := hide (below_call (unhide B1) hx)
  have A2 := hide ((unhide A1).kept hx)
  clear hx B1 A1 q0 q1 q2 q3 q4 q5 q6 q7 q8 q9 q10
  have zk := (numS_size 4).2
  have n1 := hide (fun W => specPutNum_any wd W (by omega) (by omega))
  have z1 := (numS_size wd).2
  have n2 := hide (fun W => specPutNum_any ht W (by omega) (by omega))
  have z2 := (numS_size ht).2
  have n3 := hide (fun W => specPutNum_any lv W (by omega) (by omega))
  have z3 := (numS_size lv).2
  have n4 := hide (fun W => specPutNum_any fo W (by omega) (by omega))
  have z4 := (numS_size fo).2
  have n5 := hide (fun W => specPutText_any px W (by omega))
  have z5 := textS_size px
  generalize numS 4 = m0 at *
  generalize numS wd = m1 at *
  generalize numS ht = m2 at *
  generalize numS lv = m3 at *
  generalize numS fo = m4 at *
  generalize textS px = m5 at *
  have y1 : ¬ m0.size + m1.size > 9223372036854775807 := by omega
  have y2 : ¬ m0.size + m1.size + m2.size > 9223372036854775807 := by omega
  have y3 : ¬ m0.size + m1.size + m2.size + m3.size > 9223372036854775807 := by omega
  have y4 : ¬ m0.size + m1.size + m2.size + m3.size + m4.size > 9223372036854775807 := by omega
  have y5 : ¬ m0.size + m1.size + m2.size + m3.size + m4.size + m5.size > 9223372036854775807 := by omega
  have cL := hide (fun W => specSeal_any (m0 ++ m1 ++ m2 ++ m3 ++ m4 ++ m5) W (by simp only [ByteArray.size_append]; omega))
  generalize hsx : sealOf (m0 ++ m1 ++ m2 ++ m3 ++ m4 ++ m5) = sx at *
  clear hsx hb hl hf hpx
  have p0 := (unhide A2).cell 0 _ rfl
  have r6 := cell_regrown ((unhide A2).cell 6 _ rfl)
  have r7 := cell_regrown ((unhide A2).cell 7 _ rfl)
  have r8 := cell_regrown ((unhide A2).cell 8 _ rfl)
  have r9 := cell_regrown ((unhide A2).cell 9 _ rfl)
  have r10 := cell_regrown ((unhide A2).cell 10 _ rfl)
  go_wp2_with fail
  refine wp_region_quiet_below (by kernel_rfl) (by kernel_rfl) ?_
  repeat (go_big_quiet_step (first | (with_reducible exact Calls.regrown_of (unhide n1 _)) | (with_reducible exact Calls.regrown_of (unhide n2 _)) | (with_reducible exact Calls.regrown_of (unhide n3 _)) | (with_reducible exact Calls.regrown_of (unhide n4 _)) | (with_reducible exact Calls.regrown_of (unhide n5 _))))
  refine wpQuiet_nil ?_
  intro _ hw'
  obtain ⟨⟨dq, osq⟩, hw''⟩ := hw'
  subst hw''
  have hx := below_call (unhide B2) (below_regrown w2 dq osq)
  generalize grow (redrawn w2 dq) osq = W2 at hx ⊢
  have B3 := hide hx
  clear hx r6 r7 r8 r9 r10 p0
  go_wp2_with fail
  refine (unhide cL _).mono ?_
  rintro e w3 ⟨rfl, hx⟩
  have B4 := hide (below_call (unhide B3) hx)
  clear hx
  go_wp2_with fail
  go_ret
  exact ⟨by rw [unhide HO]; rfl, unhide B4⟩
theorem specCommandBytes_any (S : List D3) (kind A B C D wd ht lv fo : Int) (px : ByteArray) (a : Option Addr) (c : Nat) (w : World) (hn : S.length ≤ 1048576) (hS : Dirs w a S S.length) :
    Calls Tryd.prog 12 #[.agg #[.int .i64 kind, .int .i64 A, .int .i64 B, .int .i64 C, .int .i64 D, .slice a S.length c, .int .i64 wd, .int .i64 ht, .string px, .int .i64 lv, .int .i64 fo]] w fun e w' => e = .returned (.string (cmdS ⟨kind, A, B, C, D, S, wd, ht, px, lv, fo⟩)) ∧ Below w.heap.size w w' := by
  cases hk : cmdB ⟨kind, A, B, C, D, S, wd, ht, px, lv, fo⟩
  · exact specCB_no S kind A B C D wd ht lv fo px a c w hn hS hk
  · rcases right_n hk with h | h | h | h
    · obtain rfl : kind = 1 := h
      exact specCB_1 S A B C D wd ht lv fo px a c w hn hS hk
    · obtain rfl : kind = 2 := h
      exact specCB_2 S A B C D wd ht lv fo px a c w hn hS hk
    · obtain rfl : kind = 3 := h
      exact specCB_3 S A B C D wd ht lv fo px a c w hn hS hk
    · obtain rfl : kind = 4 := h
      exact specCB_4 S A B C D wd ht lv fo px a c w hn hS hk
end Go.Proofs.YtnffnjljjecphaaDoor
