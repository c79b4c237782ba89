/- The law FnTurns, walked. -/
import Derived.Test.YtmoopgdcbbaffaaTsB
import Derived.Test.YtmoopgdcbbaffaaTsM
import Derived.Test.YtmoopgdcbbaffaaLwT
import Derived.Lib.QuietBelow
import Derived.Deep.QuietTactic
import Derived.BigQuiet
namespace Go.Proofs.Ytmoopgdcbbaffaa
open Go.RowKit Go.Sort
set_option linter.unusedVariables false

theorem Row.upR {w w' : World} {a : Option Addr} {len B B' : Nat} (h : Row w a len B) (hB : B ≤ B') (hk : ∀ k, k < B → w'.heap[k]? = w.heap[k]?) : Row w' a len B' := by
  have h' := h.kept hk
  rcases h' with h | ⟨bx, ox, rfl, hb, hz⟩
  · exact .inl h
  · exact .inr ⟨bx, ox, rfl, Nat.lt_of_lt_of_le hb hB, hz⟩
theorem Row.allocR {w : World} {a : Option Addr} {len : Nat} (h : Row w a len w.heap.size) (o : Obj) : Row (w.alloc o) a len (w.alloc o).heap.size := h.upR (by simp) (fun k hk => Below.heap_alloc w o k hk)
theorem Row.belowR {w w1 : World} {a : Option Addr} {len : Nat} (h : Row w a len w.heap.size) (hB : Below w.heap.size w w1) : Row w1 a len w1.heap.size := h.upR hB.size hB.block
theorem flatT_at : ∀ (S : List T4) (k : Nat) (b : T4), S[k]? = some b → ∀ j u, (turn4 b)[j]? = some u → (flatT S)[k * 4 + j]? = some u := by
  intro S
  induction S with
  | nil => intro k b h; simp at h
  | cons x S ih =>
    intro k b h j u hu
    have e : flatT (x :: S) = turn4 x ++ flatT S := by unfold flatT; simp
    have hj : j < 4 := (List.getElem?_eq_some_iff.1 hu).1
    rw [e]
    cases k with
    | zero =>
      simp at h
      subst h
      rw [List.getElem?_append_left (by show _ < 4; omega)]
      simpa using hu
    | succ k =>
      rw [List.getElem?_append_right (by show 4 ≤ _; omega)]
      rw [show (k + 1) * 4 + j - (turn4 x).length = k * 4 + j by show _ - 4 = _; omega]
      exact ih k b (by simpa using h) j u hu
/-- the turns L lie in block g -/
def Turn4s (w : World) (g : Nat) (L : List T4) : Prop := g < w.heap.size ∧ ∀ k, k < L.length → w.cell? ⟨g, k * 4, none⟩ = some (.int .i64 (tA L k).1) ∧ w.cell? ⟨g, k * 4 + 1, none⟩ = some (.int .i64 (tA L k).2.1) ∧ w.cell? ⟨g, k * 4 + 2, none⟩ = some (.int .i64 (tA L k).2.2.1) ∧ w.cell? ⟨g, k * 4 + 3, none⟩ = some (.int .i64 (tA L k).2.2.2)
theorem Turn4s.kept {w w' : World} {g : Nat} {L : List T4} (h : Turn4s w g L) (hB : Below w.heap.size w w') : Turn4s w' g L := by
  refine ⟨Nat.lt_of_lt_of_le h.1 hB.size, fun k hk => ?_⟩
  obtain ⟨h0, h1, h2, h3⟩ := h.2 k hk
  exact ⟨by rw [hB.cell (p := ⟨g, k * 4, none⟩) h.1]; exact h0, by rw [hB.cell (p := ⟨g, k * 4 + 1, none⟩) h.1]; exact h1, by rw [hB.cell (p := ⟨g, k * 4 + 2, none⟩) h.1]; exact h2, by rw [hB.cell (p := ⟨g, k * 4 + 3, none⟩) h.1]; exact h3⟩
theorem turn4s_of {w : World} {B : Nat} {v : Value} {L : List T4} (h : w.ownsRow B 26 4 v L.length (flatT L)) (h0 : 0 < L.length) : ∃ g c, v = .slice (some ⟨g, 0, none⟩) L.length c ∧ B ≤ g ∧ Turn4s w g L := by
  rcases h.2 with ⟨h1, h0'⟩ | ⟨g, cap, cur, hv, hb, hg, hnc, hcm, hcs, htake⟩
  · omega
  · refine ⟨g, cap, hv, hb, (Array.getElem?_eq_some_iff.1 hg).1, fun k hk => ?_⟩
    have hk' : L[k]? = some (tA L k) := by unfold tA; rw [List.getD, List.getElem?_eq_getElem hk]; rfl
    have cl : ∀ j u, (turn4 (tA L k))[j]? = some u → w.cell? ⟨g, k * 4 + j, none⟩ = some u := by
      intro j u hu
      have hj : j < 4 := (List.getElem?_eq_some_iff.1 hu).1
      have e := flatT_at L k _ hk' j u hu
      rw [cell_of_row w g _ cur _ _ hg]
      rw [← htake, List.getElem?_take, if_pos (by omega)] at e
      simpa using e
    exact ⟨cl 0 _ rfl, cl 1 _ rfl, cl 2 _ rfl, cl 3 _ rfl⟩
/-- how many of the first k are t -/
def cntT (L : List T4) (t : T4) (k : Nat) : Nat := (L.take k).countP (fun x => sameT x t)
theorem cntT_step (L : List T4) (t : T4) (k : Nat) (hk : k < L.length) : cntT L t (k + 1) = cntT L t k + if sameT (tA L k) t = true then 1 else 0 := by
  unfold cntT
  have e : L.take (k + 1) = L.take k ++ [tA L k] := by
    rw [List.take_succ_eq_append_getElem hk]
    congr 2
    unfold tA
    rw [List.getD, List.getElem?_eq_getElem hk]
    rfl
  rw [e, List.countP_append, List.countP_singleton]
theorem cntT_all {k : Nat} (hk : k < (turnsTo 625).length) : cntT (turnsTo 625) (backP (tA (turnsTo 625) k)) (turnsTo 625).length = 1 := by
  have h := List.all_eq_true.1 one_back (tA (turnsTo 625) k) (by unfold tA; rw [List.getD, List.getElem?_eq_getElem hk]; exact List.getElem_mem hk)
  unfold cntT
  rw [List.take_length]
  exact eq_of_beq h
theorem turns_good {k : Nat} (hk : k < (turnsTo 625).length) : goodT (tA (turnsTo 625) k) = true := by
  have hm : tA (turnsTo 625) k ∈ turnsTo 625 := by unfold tA; rw [List.getD, List.getElem?_eq_getElem hk]; exact List.getElem_mem hk
  unfold turnsTo at hm
  exact (List.mem_filter.1 hm).2
theorem cntT_le (L : List T4) (t : T4) (k : Nat) : cntT L t k ≤ k := by
  unfold cntT
  have h1 := List.countP_le_length (p := fun x => sameT x t) (l := L.take k)
  have h2 := List.length_take_le k L
  omega
set_option maxRecDepth 100000 in
theorem fnTurns_big (a : Option Addr) (len cap : Nat) (w : World) (hl : 1048576 < len) (hm : len ≤ 9223372036854775807) :
    Calls Try.prog 3 #[.slice a len cap] w fun e w' => e = .returned (.bool true) ∧ Below w.heap.size w w' := by
  have h : (1048576 : Int) < (len : Int) := by omega
  go_enter Try.func3, Try.ntmps3
  go_wp2_with fail
  go_ret
  exact ⟨rfl, Below.refl _ _⟩
set_option maxHeartbeats 4000000 in
set_option maxRecDepth 100000 in
theorem fnTurns_any (a : Option Addr) (len cap : Nat) (w : World) (hl : len ≤ 1048576) (hR : Row w a len w.heap.size) :
    Calls Try.prog 3 #[.slice a len cap] w fun e w' => e = .returned (.bool true) ∧ Below w.heap.size w w' := by
  obtain ⟨n, hn0, hn1, L, cI, cS, HG, HC⟩ : ∃ n : Nat, 1 < n ∧ n ≤ 625 ∧ ∃ L : List T4,
      Hid (∀ W : World, Calls Try.prog 6 #[] W fun e w' => ∃ g c, e = .returned (.slice (some ⟨g, 0, none⟩) n c) ∧ W.heap.size ≤ g ∧ (L.length = n ∧ Turn4s w' g L) ∧ Below W.heap.size W w')
      ∧ Hid (∀ W : World, Calls Try.prog 7 #[] W fun e w' => ∃ g c, e = .returned (.slice (some ⟨g, 0, none⟩) n c) ∧ W.heap.size ≤ g ∧ (L.length = n ∧ Turn4s w' g L) ∧ Below W.heap.size W w')
      ∧ Hid (∀ k, k < n → goodT (tA L k) = true) ∧ Hid (∀ k, k < n → cntT L (backP (tA L k)) n = 1) := by
    refine ⟨(turnsTo 625).length, by rw [turns_many]; omega, turns_len 625, turnsTo 625, hide (fun W => (implTurns_any W).mono fun e w' h => ?_), hide (fun W => (specTurns_any W).mono fun e w' h => ?_), hide (fun k hk => turns_good hk), hide (fun k hk => cntT_all hk)⟩
    · obtain ⟨⟨v, he, ho⟩, hb⟩ := h
      obtain ⟨g, c, rfl, hg, ht⟩ := turn4s_of ho (by rw [turns_many]; omega)
      exact ⟨g, c, he, hg, ⟨rfl, ht⟩, hb⟩
    · obtain ⟨⟨v, he, ho⟩, hb⟩ := h
      obtain ⟨g, c, rfl, hg, ht⟩ := turn4s_of ho (by rw [turns_many]; omega)
      exact ⟨g, c, he, hg, ⟨rfl, ht⟩, hb⟩
  have HRW := hide hR
  clear hR
  have hlen : ¬ (1048576 : Int) < (len : Int) := by omega
  go_enter Try.func3, Try.ntmps3
  go_wp2_with fail
  refine (unhide cI _).mono ?_
  rintro e W1 ⟨g1, c1, rfl, hg1, ⟨hL, ht1⟩, hx⟩
  have HLN := hide hL
  have HT1 := hide ht1
  have HB1 := hide hx
  clear hL ht1 hx
  go_wp2_with fail
  refine (unhide cS _).mono ?_
  rintro e W2 ⟨g2, c2, rfl, hg2, ⟨_, ht2⟩, hx⟩
  have HT2 := hide ht2
  have HT1' := hide ((unhide HT1).kept hx)
  have HB2 := hide (below_call (unhide HB1) hx)
  clear ht2 hx HT1 HB1 cI cS
  go_wp2_with fail
  go_loopw [5] (fun i wr => ∃ k : Nat, k ≤ n ∧ i = .int .i64 k ∧ Hid (Turn4s wr g1 L) ∧ Hid (Turn4s wr g2 L) ∧ Hid (Below w.heap.size w wr)) (fun i _ => n - (intOf i).toNat)
  case atStart => exact ⟨0, by omega, rfl, HT1', HT2, HB2⟩
  case round =>
    clear HT1' HT2 HB2
    obtain ⟨k, hk, rfl, HT1, HT2, HB⟩ := hrel
    by_cases hkn : k < n
    · have hkn2 : (k : Int) < (n : Int) := by omega
      have hgd := unhide HG k hkn
      obtain ⟨c0, c1', c2', c3⟩ := (unhide HT1).2 k (by rw [unhide HLN]; exact hkn)
      obtain ⟨d0, d1, d2, d3⟩ := (unhide HT2).2 k (by rw [unhide HLN]; exact hkn)
      obtain ⟨⟨p, q, r, s⟩, ht⟩ : ∃ t, tA L k = t := ⟨_, rfl⟩
      rw [ht] at c0 c1' c2' c3 d0 d1 d2 d3 hgd
      clear ht
      have cR := hide (fun W => turnRight_any p q r s W)
      have hgd' : rightT p q r s = true := hgd
      rw [hgd'] at cR
      clear hgd hgd'
      have hne : ∀ W : World, (binOp .neq 26 (.agg #[.int .i64 p, .int .i64 q, .int .i64 r, .int .i64 s]) (.agg #[.int .i64 p, .int .i64 q, .int .i64 r, .int .i64 s])).run Try.prog W = .ok (.bool false) W := fun W => by
        rw [neq_turn]
        simp [eqT]
      have r0 := cell_regrown c0
      have r1 := cell_regrown c1'
      have r2 := cell_regrown c2'
      have r3 := cell_regrown c3
      have s0 := cell_regrown d0
      have s1 := cell_regrown d1
      have s2 := cell_regrown d2
      have s3 := cell_regrown d3
      clear c0 c1' c2' c3 d0 d1 d2 d3
      go_wp2_with fail
      refine wp_region_quiet_below (by kernel_rfl) (by kernel_rfl) ?_
      repeat (go_big_quiet_step (first | (with_reducible exact Calls.regrown_of (unhide cR _))))
      refine wpQuiet_nil ?_
      intro _ hw'
      obtain ⟨⟨dq, osq⟩, hw''⟩ := hw'
      subst hw''
      have hx := below_regrown wr dq osq
      have HT1b := hide ((unhide HT1).kept hx)
      have HT2b := hide ((unhide HT2).kept hx)
      have HBb := hide (below_call (unhide HB) hx)
      generalize grow (redrawn wr dq) osq = W4 at hx HT1b HT2b HBb ⊢
      clear hx cR r0 r1 r2 r3 s0 s1 s2 s3 hne HT1 HT2 HB
      go_wp2_with fail
      go_roundw
      case rel => exact ⟨k + 1, by omega, by go_num, HT1b, HT2b, HBb⟩
      case measure => simp [intOf]; omega
    · have hkn' : k = n := by omega
      subst hkn'
      go_wp2_with fail
      refine (lwAt_any a len cap 0 (k : Int) _ hl (by omega) (by omega) ((unhide HRW).belowR (unhide HB))).mono ?_
      rintro e W5 ⟨kk, rfl, hk0, hk1, _, rfl⟩
      have hk2 := hk1 (by omega)
      obtain ⟨x, rfl⟩ := Int.eq_ofNat_of_zero_le hk0
      have hx3 : x < k := by omega
      have HCx := hide (unhide HC x hx3)
      obtain ⟨c0, c1', c2', c3⟩ := (unhide HT1).2 x (by rw [unhide HLN]; exact hx3)
      obtain ⟨⟨p, q, r, s⟩, ht⟩ : ∃ t, tA L x = t := ⟨_, rfl⟩
      rw [ht] at c0 c1' c2' c3 HCx
      clear ht hk1
      go_wp2_with fail
      refine (back_any p q r s _).mono ?_
      rintro e W6 ⟨rfl, hx⟩
      have HCx' : Hid (cntT L (bkP p q r s p, bkP p q r s (-q), bkP p q r s (-r), bkP p q r s (-s)) k = 1) := HCx
      clear HCx c0 c1' c2' c3
      generalize bkP p q r s p = b0 at *
      generalize bkP p q r s (-q) = b1 at *
      generalize bkP p q r s (-r) = b2 at *
      generalize bkP p q r s (-s) = b3 at *
      have Z := below1 W6 (.cells #[.int .i64 b0, .int .i64 b1, .int .i64 b2, .int .i64 b3] 26)
      have HT6 := hide (((unhide HT1).kept hx).kept Z)
      have HB6 := hide (below_call (below_call (unhide HB) hx) Z)
      have HA6 := hide (turnAt_new W6 b0 b1 b2 b3 26)
      clear Z hx HT1 HT2 HB HG
      go_wp2_with fail
      generalize W6.alloc (.cells #[.int .i64 b0, .int .i64 b1, .int .i64 b2, .int .i64 b3] 26) = W7 at HT6 HB6 HA6 ⊢
      generalize W6.heap.size = tb at *
      go_loopw [8, 9] (fun f i wr => ∃ j : Nat, j ≤ k ∧ i = .int .i64 j ∧ f = .int .i64 (cntT L (b0, b1, b2, b3) j : Int) ∧ Hid (Turn4s wr g1 L) ∧ Hid (TurnAt wr tb b0 b1 b2 b3) ∧ Hid (Below w.heap.size w wr)) (fun _ i _ => k - (intOf i).toNat)
      case atStart => exact ⟨0, by omega, rfl, rfl, HT6, HA6, HB6⟩
      case round =>
        clear HT6 HA6 HB6
        obtain ⟨j, hj, rfl, rfl, HT, HA, HB⟩ := hrel
        by_cases hjk : j < k
        · have hjk2 : (j : Int) < (k : Int) := by omega
          have hcl := cntT_le L (b0, b1, b2, b3) j
          have HST := hide (cntT_step L (b0, b1, b2, b3) j (by rw [unhide HLN]; exact hjk))
          obtain ⟨c0, c1', c2', c3⟩ := (unhide HT).2 j (by rw [unhide HLN]; exact hjk)
          obtain ⟨⟨t0, t1, t2, t3⟩, ht⟩ : ∃ t, tA L j = t := ⟨_, rfl⟩
          rw [ht] at c0 c1' c2' c3 HST
          clear ht
          obtain ⟨d0, d1, d2, d3⟩ := unhide HA
          have HST' : Hid (cntT L (b0, b1, b2, b3) (j + 1) = cntT L (b0, b1, b2, b3) j + if eqT t0 t1 t2 t3 b0 b1 b2 b3 = true then 1 else 0) := HST
          clear HST
          have hne := eql_turn t0 t1 t2 t3 b0 b1 b2 b3
          have r0 := cell_regrown c0
          have r1 := cell_regrown c1'
          have r2 := cell_regrown c2'
          have r3 := cell_regrown c3
          have s0 := cell_regrown d0
          have s1 := cell_regrown d1
          have s2 := cell_regrown d2
          have s3 := cell_regrown d3
          clear c0 c1' c2' c3 d0 d1 d2 d3
          generalize eqT t0 t1 t2 t3 b0 b1 b2 b3 = eqv at *
          generalize hct : cntT L (b0, b1, b2, b3) j = ct at *
          clear hct
          go_wp2_with fail
          refine wp_region_quiet_below (by kernel_rfl) (by kernel_rfl) ?_
          repeat (go_big_quiet_step (first | fail))
          refine wpQuiet_nil ?_
          intro _ hw'
          obtain ⟨⟨dq, osq⟩, hw''⟩ := hw'
          subst hw''
          have hx := below_regrown wr dq osq
          have HTb := hide ((unhide HT).kept hx)
          have HAb := hide ((unhide HA).kept (unhide HA).lt hx)
          have HBb := hide (below_call (unhide HB) hx)
          generalize grow (redrawn wr dq) osq = W9 at hx HTb HAb HBb ⊢
          clear hx r0 r1 r2 r3 s0 s1 s2 s3 hne HT HA HB
          cases eqv
          · rw [if_neg (by simp)] at HST'
            go_wp2_with fail
            go_roundw
            case rel => exact ⟨j + 1, by omega, by go_num, by rw [unhide HST']; rfl, HTb, HAb, HBb⟩
            case measure => simp [intOf]; omega
          · rw [if_pos rfl] at HST'
            go_wp2_with fail
            go_roundw
            case rel => exact ⟨j + 1, by omega, by go_num, by rw [unhide HST']; go_num, HTb, HAb, HBb⟩
            case measure => simp [intOf]; omega
        · have hjk' : j = k := by omega
          subst hjk'
          rw [unhide HCx']
          go_wp2_with fail
          go_ret
          exact ⟨rfl, unhide HB⟩
end Go.Proofs.Ytmoopgdcbbaffaa
