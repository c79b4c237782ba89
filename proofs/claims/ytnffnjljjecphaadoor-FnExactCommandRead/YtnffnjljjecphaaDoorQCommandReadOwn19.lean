/- Several texts in one: CrG. -/
import Derived.Deep.CutBlock
import Derived.Deep.DeepCutAuto
import Derived.Test.YtnffnjljjecphaaDoorQCommandReadOwn18
namespace Go.Proofs.YtnffnjljjecphaaDoor
open Go.RowKit Go.Sort
set_option linter.unusedVariables false
set_option linter.unusedSimpArgs false

theorem num_at (b : Nat) (t : ByteArray) (q : Nat) (bad : Bool) {x : Int} {q' : Nat} {bad' : Bool} (hv : numRd t q bad = (x, q', bad')) (w : World) (ht : t.size ≤ 8000) (hq : q ≤ 8000) (hR : RdAt w b t q bad) :
    Calls Tryd.prog 47 #[.pointer (some ⟨b, 0, none⟩)] w fun e w' => e = .returned (.int .i64 x) ∧ RdAt w' b t q' bad' ∧ w.grownBy w' (some b) := by
  have := num_any b t q bad w ht hq hR
  rw [hv] at this
  exact this
theorem num_bd {t : ByteArray} {q : Nat} {bad : Bool} {x : Int} {q' : Nat} {bad' : Bool} (hv : numRd t q bad = (x, q', bad')) (ht : t.size ≤ 8000) (hq : q ≤ 8000) : q' ≤ 8000 := by
  have := numV_le (bad := bad) ht hq
  rw [hv] at this
  exact this
theorem numR_some {t : ByteArray} {q : Nat} {x : Int} {q' : Nat} {bad' : Bool} (hv : numRd t q false = (x, q', bad')) : (bad' = true ∧ scanN t q = none ∧ x = 0) ∨ (bad' = false ∧ scanN t q = some (x, q')) := by
  unfold numRd at hv
  rw [if_neg (by simp)] at hv
  split at hv
  · rename_i h
    simp at hv
    exact .inl ⟨by simp_all, h, by simp_all⟩
  · rename_i n p h
    simp at hv
    obtain ⟨rfl, rfl, rfl⟩ := hv
    exact .inr ⟨rfl, h⟩
theorem num_bad {t : ByteArray} {q : Nat} {x : Int} {q' : Nat} {b : Bool} (h : numRd t q true = (x, q', b)) : b = true := by
  unfold numRd at h
  simp at h
  exact h.2.2
theorem num_four {t : ByteArray} {q : Nat} {x1 x2 x3 x4 : Int} {q2 q3 q4 q5 : Nat} {b2 b3 b4 b5 : Bool} (h1 : numRd t q false = (x1, q2, b2)) (h2 : numRd t q2 b2 = (x2, q3, b3)) (h3 : numRd t q3 b3 = (x3, q4, b4)) (h4 : numRd t q4 b4 = (x4, q5, b5)) :
    (b5 = true ∧ read4 t q = none) ∨ (b5 = false ∧ read4 t q = some ((x1, x2, x3, x4), q5)) := by
  have := step4 t q
  unfold vecRd at this
  simp only [h1, h2, h3, h4] at this
  rcases this with h | h
  · exact .inl ⟨h.2, h.1⟩
  · exact .inr ⟨h.2, h.1⟩
theorem vec_three {t : ByteArray} {q : Nat} {x y z : Int} {q2 : Nat} {b2 : Bool} (h : vecRd t q false = ((x, y, z), q2, b2)) : (b2 = true ∧ read3 t q = none) ∨ (b2 = false ∧ read3 t q = some ((x, y, z), q2)) := by
  unfold vecRd at h
  generalize h1 : numRd t q false = r1 at h
  obtain ⟨x1, q1, c1⟩ := r1
  dsimp only at h
  generalize h2 : numRd t q1 c1 = r2 at h
  obtain ⟨x2, p2, c2⟩ := r2
  dsimp only at h
  generalize h3 : numRd t p2 c2 = r3 at h
  obtain ⟨x3, p3, c3⟩ := r3
  simp at h
  obtain ⟨⟨rfl, rfl, rfl⟩, rfl, rfl⟩ := h
  unfold read3
  rcases numR_some h1 with ⟨rfl, e1, _⟩ | ⟨rfl, e1⟩
  · have := num_bad h2
    subst this
    exact .inl ⟨num_bad h3, by rw [e1]⟩
  · rw [e1]
    rcases numR_some h2 with ⟨rfl, e2, _⟩ | ⟨rfl, e2⟩
    · exact .inl ⟨num_bad h3, by simp only [e2]⟩
    · rcases numR_some h3 with ⟨rfl, e3, _⟩ | ⟨rfl, e3⟩
      · exact .inl ⟨rfl, by simp only [e2, e3]⟩
      · exact .inr ⟨rfl, by simp only [e2, e3]⟩
theorem mid2 {t : ByteArray} {q1 q5 : Nat} {b : Bool} {x1 x2 x3 x4 : Int} (h0 : scanN t 0 = some (2, q1)) (h : (b = true ∧ read4 t q1 = none) ∨ (b = false ∧ read4 t q1 = some ((x1, x2, x3, x4), q5))) : (b = true → readCm t = none) ∧ (b = false → readCm t = some (⟨2, x1, x2, x3, x4, [], 0, 0, ⟨#[]⟩, 0, 0⟩, q5)) := by
  unfold readCm
  rw [h0]
  rcases h with ⟨rfl, e⟩ | ⟨rfl, e⟩ <;> simp [e]
theorem mid4 {t : ByteArray} {q1 q5 q6 : Nat} {b b6 : Bool} {x1 x2 x3 x4 : Int} {px : ByteArray} (h0 : scanN t 0 = some (4, q1)) (h : (b = true ∧ read4 t q1 = none) ∨ (b = false ∧ read4 t q1 = some ((x1, x2, x3, x4), q5))) (hx : textRd t q5 b = (px, q6, b6)) : (b6 = true → readCm t = none) ∧ (b6 = false → readCm t = some (⟨4, 0, 0, 0, 0, [], x1, x2, px, x3, x4⟩, q6)) := by
  unfold readCm
  rw [h0]
  unfold textRd at hx
  rcases h with ⟨rfl, e⟩ | ⟨rfl, e⟩
  · simp at hx
    obtain ⟨_, _, rfl⟩ := hx
    simp [e]
  · rw [if_neg (by simp)] at hx
    cases hN : textN t q5 with
    | none =>
      rw [hN] at hx
      simp at hx
      obtain ⟨_, _, rfl⟩ := hx
      simp [e, hN]
    | some y =>
      obtain ⟨y1, y2⟩ := y
      rw [hN] at hx
      simp at hx
      obtain ⟨rfl, rfl, rfl⟩ := hx
      simp [e, hN]
theorem mid0 {t : ByteArray} {q1 : Nat} {kd : Int} (h0 : scanN t 0 = some (kd, q1)) (k2 : ¬ kd = 2) (k3 : ¬ kd = 3) (k4 : ¬ kd = 4) : readCm t = some (⟨kd, 0, 0, 0, 0, [], 0, 0, ⟨#[]⟩, 0, 0⟩, q1) := by
  unfold readCm
  rw [h0]
  simp [k2, k3, k4]
theorem midN {t : ByteArray} (h0 : scanN t 0 = none) : readCm t = none := by
  unfold readCm
  rw [h0]
theorem first6 {t : ByteArray} {q1 : Nat} (h0 : scanN t 0 = some (3, q1)) : ∃ (c q : Nat) (bad : Bool), manyV t q1 false 6 = ((c : Int), q, bad) ∧ c ≤ 6 ∧ (bad = true → readCm t = none) ∧ (bad = false → q ≤ t.size ∧ readCm t = match readVs t q c with | none => none | some (S, q3) => some (⟨3, 0, 0, 0, 0, S, 0, 0, ⟨#[]⟩, 0, 0⟩, q3)) := by
  unfold manyV readCm
  rw [h0]
  cases h : scanN t q1 with
  | none =>
    have e : numRd t q1 false = (0, q1, true) := by unfold numRd; rw [h]; rfl
    rw [e]
    exact ⟨0, q1, true, rfl, by omega, fun _ => by simp [h], fun h => by cases h⟩
  | some x =>
    obtain ⟨n, p⟩ := x
    have e : numRd t q1 false = (n, p, false) := by unfold numRd; rw [h]; rfl
    rw [e]
    by_cases hn : 0 ≤ n ∧ n ≤ 6
    · rw [if_pos hn]
      refine ⟨n.toNat, p, false, by rw [Int.toNat_of_nonneg (by omega)], by omega, fun h => ?_, fun _ => ⟨(scanN_le h).2, ?_⟩⟩
      · cases h
      · simp only [h]
        rw [if_neg (by decide), if_pos trivial, if_pos hn]
        first | rfl | (cases readVs t p n.toNat <;> rfl)
    · rw [if_neg hn]
      exact ⟨0, p, true, rfl, by omega, fun _ => by simp [h, hn], fun h => by cases h⟩
theorem text_at (b : Nat) (t : ByteArray) (q : Nat) (bad : Bool) {x : ByteArray} {q' : Nat} {bad' : Bool} (hv : textRd t q bad = (x, q', bad')) (w : World) (ht : t.size ≤ 8000) (hq : q ≤ 8000) (hR : RdAt w b t q bad) :
    Calls Tryd.prog 50 #[.pointer (some ⟨b, 0, none⟩)] w fun e w' => e = .returned (.string x) ∧ RdAt w' b t q' bad' ∧ w.grownBy w' (some b) := by
  have := textRd_any b t q bad w ht hq hR
  rw [hv] at this
  exact this
theorem step_append_ownC {P : Program} {ops : Array Oper} {o : Oper} {a : Act} {w : World} {K : Act → World → Prop} {Q : Exit → Act → World → Prop} {E : Prop} (hgd : o.guard = none) (s x : Operand) (t : TypeId)
    (ho : o.op = .call { callee := .builtin .append, args := #[s, x], argTypes := #[t, t] })
    (base : Nat) (e : TypeId) (i : TypeInfo) (z : Value) (size bytes : Nat) (ht : P.underlying t = some (.slice e)) (hi : P.info? e = some i) (hz : i.zero = some z)
    (hsize : i.size = size) (hby : i.bytes = bytes) (hzs : z.cells.size = size) (hsz : 0 < size)
    (v : Value) (n : Nat) (xs : List Value) (hs : a.eval s = v) (hown : w.ownsRow base e size v n xs)
    (ad : Addr) (m c : Nat) (news : List Value) (hx : a.eval x = .slice (some ad) m c) (hl : news.length = m * size) (hnews : ∀ j u, news[j]? = some u → w.cell? (ad.add j) = some u) (h1 : ∀ u ∈ news, u.oneCell' = true)
    (h63 : n + m ≤ maxLen) (hbytes : (n + m) * bytes ≤ 140737488355328) (hbase : base ≤ w.heap.size)
    (h : ∀ v' w', w'.ownsRow base e size v' (n + m) (xs ++ news) → w.grownBy w' v.ownBlock → K (a.put o.dst v') w') : if Region.wanted o (yielded ops a.tmps) = true then Oper.wp P o a w K Q else E := by
  have hw : Region.wanted o (yielded ops a.tmps) = true := by simp [Region.wanted, hgd]
  rw [if_pos hw]
  exact wp_append_own w s x t ho base e i z size bytes ht hi hz hsize hby hzs hsz v n xs hs hown ad m c news hx hl hnews h1 h63 hbytes hbase fun v' w' h2 h3 _ => h v' w' h2 h3
theorem blkG {w w2 : World} {b : Nat} {cs : List Value} {t : TypeId} {row : Option Nat} (h : Blk w b cs t) (hg : w.grownBy w2 row) (hne : some b ≠ row) : Blk w2 b cs t := (hg.block b h.lt hne).trans h
theorem rd_one (w : World) (o : Obj) (t : ByteArray) (ty : TypeId) : RdAt ((w.alloc o).alloc (.cells #[.string t, .int .i64 0, .bool false] ty)) (w.heap.size + 1) t 0 false := by
  have h : (w.alloc o).heap.size = w.heap.size + 1 := by simp
  rw [← h]
  exact rdAt_new _ t ty
structure CrSt (w wx : World) (rb cb : Nat) (t : ByteArray) (q : Nat) (bad : Bool) (L : List Value) : Prop where
  rd : RdAt wx rb t q bad
  cm : Blk wx cb L 35
  out : Blk wx w.heap.size [.int .i64 0, .int .i64 0, .int .i64 0, .int .i64 0, .int .i64 0, .slice none 0 0, .int .i64 0, .int .i64 0, .string ⟨#[]⟩, .int .i64 0, .int .i64 0, .int .i64 0] 41
  bel : Below w.heap.size w wx
  hr : w.heap.size < rb
  hc : w.heap.size < cb
  ne : cb ≠ rb
theorem CrSt.num {w wx w' : World} {rb cb : Nat} {t : ByteArray} {q q' : Nat} {bad bad' : Bool} {L : List Value} (h : CrSt w wx rb cb t q bad L) (hR : RdAt w' rb t q' bad') (hg : wx.grownBy w' (some rb)) : CrSt w w' rb cb t q' bad' L :=
  ⟨hR, h.cm.grownK hg h.ne, h.out.grownK hg (by have := h.hr; omega), belowRd h.bel hg (by have := h.hr; omega), h.hr, h.hc, h.ne⟩
theorem CrSt.set {w wx : World} {rb cb : Nat} {t : ByteArray} {q : Nat} {bad : Bool} {L : List Value} (h : CrSt w wx rb cb t q bad L) (i : Nat) (v : Value) : CrSt w (wx.setCell ⟨cb, i, none⟩ v) rb cb t q bad (L.set i v) :=
  ⟨h.rd.set h.ne, h.cm.set i v, h.out.other _ _ (by have := h.hc; show w.heap.size ≠ cb; omega), h.bel.setCell (by have := h.hc; show w.heap.size ≤ cb; omega) _, h.hr, h.hc, h.ne⟩
theorem res_scr (T : Array Value) (X : World) (b : Nat) (c : Cm) (v : Value) (k : Int) (hT : T.getD 2 undef = .pointer (some ⟨b, 0, none⟩)) (h : Blk X b [.int .i64 c.kind, .int .i64 c.A, .int .i64 c.B, .int .i64 c.C, .int .i64 c.D, v, .int .i64 c.wd, .int .i64 c.ht, .string c.px, .int .i64 c.lv, .int .i64 c.fo, .int .i64 k] 41) : (results Tryd.f14 T).run Tryd.prog X = .ok (.agg #[.int .i64 c.kind, .int .i64 c.A, .int .i64 c.B, .int .i64 c.C, .int .i64 c.D, v, .int .i64 c.wd, .int .i64 c.ht, .string c.px, .int .i64 c.lv, .int .i64 c.fo, .int .i64 k]) X := by
  have h0 := h.cell 0 _ rfl
  have h1 := h.cell 1 _ rfl
  have h2 := h.cell 2 _ rfl
  have h3 := h.cell 3 _ rfl
  have h4 := h.cell 4 _ rfl
  have h5 := h.cell 5 _ rfl
  have h6 := h.cell 6 _ rfl
  have h7 := h.cell 7 _ rfl
  have h8 := h.cell 8 _ rfl
  have h9 := h.cell 9 _ rfl
  have h10 := h.cell 10 _ rfl
  have h11 := h.cell 11 _ rfl
  simp only [Array.getD_eq_getD_getElem?] at hT
  simp [results, Tryd.results14, go_sem, hT, h0, h1, h2, h3, h4, h5, h6, h7, h8, h9, h10, h11]
/-- what stands behind the switch -/
def CrMid (w wx : World) (rb cb B : Nat) (t : ByteArray) : Prop := ∃ (c : Cm) (q : Nat) (bad : Bool) (a : Option Addr) (k : Nat), CrSt w wx rb cb t q bad [.int .i64 c.kind, .int .i64 c.A, .int .i64 c.B, .int .i64 c.C, .int .i64 c.D, (.slice a c.S.length k), .int .i64 c.wd, .int .i64 c.ht, .string c.px, .int .i64 c.lv, .int .i64 c.fo] ∧ (bad = true → readCm t = none) ∧ (bad = false → readCm t = some (c, q)) ∧ wx.ownsRow B 75 3 (.slice a c.S.length k) c.S.length (flatD c.S)

set_option maxHeartbeats 8000000 in
set_option maxRecDepth 100000 in
theorem specCommandRead_any (s : ByteArray) (w : World) (hs : s.size ≤ 1048576) :
    Calls Tryd.prog 14 #[.string s] w fun e w' => OutCr w' w.heap.size (crCm s) (crCode s) e ∧ Below w.heap.size w w' := by
  have B0 := hide (below1 w (.cells #[.int .i64 0, .int .i64 0, .int .i64 0, .int .i64 0, .int .i64 0, .slice none 0 0, .int .i64 0, .int .i64 0, .string ⟨#[]⟩, .int .i64 0, .int .i64 0, .int .i64 0] 41))
  have R0 := hide (blk_new w [.int .i64 0, .int .i64 0, .int .i64 0, .int .i64 0, .int .i64 0, .slice none 0 0, .int .i64 0, .int .i64 0, .string ⟨#[]⟩, .int .i64 0, .int .i64 0, .int .i64 0] 41)
  have HZ : Hid (unC s = 0 → (unT s).size ≤ 8000 ∧ (unT s).size + 4 = s.size) := hide unT_size
  have HM := hide (fun (hu : unC s = 0) (c : Cm) (q : Nat) h => cmd_iff hu (c := c) (q := q) h)
  have HK : Hid (crCode s = if unC s = 0 then (match readCm (unT s) with | none => 3 | some (c, q) => if q = (unT s).size ∧ cmdB c = true then 0 else 3) else unC s) := hide rfl
  have HC : Hid (crCm s = if unC s = 0 then (match readCm (unT s) with | none => zeroCm | some (c, q) => if q = (unT s).size ∧ cmdB c = true then c else zeroCm) else zeroCm) := hide rfl
  have cU := hide (fun W => specUnseal_any s W hs)
  generalize unC s = uc at *
  generalize unT s = ut at *
  obtain ⟨zc, hzc⟩ : ∃ z, crCm s = z := ⟨_, rfl⟩
  obtain ⟨zk, hzk⟩ : ∃ z, crCode s = z := ⟨_, rfl⟩
  rw [hzc] at HC
  rw [hzk] at HK
  have HZC := hide hzc
  have HZK := hide hzk
  clear hzc hzk
  go_enter Tryd.func14, Tryd.ntmps14
  go_wp2_with fail
  refine (unhide cU _).mono ?_
  rintro e w1 ⟨rfl, hx⟩
  have Z1 := below1 w1 (.cells #[.string ut, .int .i64 0, .int .i64 uc] 80)
  have B1 := hide (below_call (below_call (unhide B0) hx) Z1)
  have R1 := hide (((unhide R0).kept hx).kept Z1)
  have T1 := hide (blk_new w1 [.string ut, .int .i64 0, .int .i64 uc] 80)
  have hlt : w.heap.size < w1.heap.size := ((unhide R0).kept hx).lt
  clear hx Z1 B0 R0 cU
  have t0 := (unhide T1).cell 0 _ rfl
  have t1 := (unhide T1).cell 1 _ rfl
  have t2 := (unhide T1).cell 2 _ rfl
  by_cases hu : uc = 0
  · subst hu
    have hz := unhide HZ rfl
    rw [if_pos rfl] at HK HC
    have HM2 := hide (unhide HM rfl)
    clear HM HZ
    obtain ⟨kd, q1, b1, hn0⟩ : ∃ x q b, numRd ut 0 false = (x, q, b) := ⟨_, _, _, rfl⟩
    have hq1 := num_bd hn0 hz.1 (by omega)
    have cN := hide (num_at (w1.heap.size + 1) ut 0 false hn0 _ hz.1 (by omega) (rd_one w1 (.cells #[.string ut, .int .i64 0, .int .i64 0] 80) ut 84))
    go_wp2_with fail
    refine (unhide cN).mono ?_
    rintro e w2 ⟨rfl, hr, hg⟩
    have Zr := below1 (w1.alloc (.cells #[.string ut, .int .i64 0, .int .i64 0] 80)) (.cells #[.string ut, .int .i64 0, .bool false] 84)
    have B2 := belowRd (below_call (unhide B1) Zr) hg (by omega)
    have R2 := ((unhide R1).kept Zr).grownK hg (by omega)
    have Zc := below1 w2 (.cells #[.int .i64 kd, .int .i64 0, .int .i64 0, .int .i64 0, .int .i64 0, .slice none 0 0, .int .i64 0, .int .i64 0, .string ⟨#[]⟩, .int .i64 0, .int .i64 0] 35)
    have hrl : w1.heap.size + 1 < w2.heap.size := World.block_lt_of_cell? _ _ hr.1
    have ST0 : Hid (CrSt w (w2.alloc (.cells #[.int .i64 kd, .int .i64 0, .int .i64 0, .int .i64 0, .int .i64 0, .slice none 0 0, .int .i64 0, .int .i64 0, .string ⟨#[]⟩, .int .i64 0, .int .i64 0] 35)) (w1.heap.size + 1) w2.heap.size ut q1 b1 [.int .i64 kd, .int .i64 0, .int .i64 0, .int .i64 0, .int .i64 0, .slice none 0 0, .int .i64 0, .int .i64 0, .string ⟨#[]⟩, .int .i64 0, .int .i64 0]) := hide ⟨hr.kept Zc, blk_new w2 _ _, R2.kept Zc, below_call B2 Zc, by omega, by omega, by omega⟩
    have hBs : (w2.alloc (.cells #[.int .i64 kd, .int .i64 0, .int .i64 0, .int .i64 0, .int .i64 0, .slice none 0 0, .int .i64 0, .int .i64 0, .string ⟨#[]⟩, .int .i64 0, .int .i64 0] 35)).heap.size = w2.heap.size + 1 := by simp
    clear hr hg cN Zr B2 R2 Zc B1 R1 T1 t0 t1 t2
    go_upto_block 0 with fail
    generalize w2.alloc (.cells #[.int .i64 kd, .int .i64 0, .int .i64 0, .int .i64 0, .int .i64 0, .slice none 0 0, .int .i64 0, .int .i64 0, .string ⟨#[]⟩, .int .i64 0, .int .i64 0] 35) = W at *
    obtain ⟨cb, hcb⟩ : ∃ z, w2.heap.size = z := ⟨_, rfl⟩
    obtain ⟨rb, hrb⟩ : ∃ z, w1.heap.size + 1 = z := ⟨_, rfl⟩
    rw [hcb] at ST0 hBs hrl ⊢
    rw [hrb] at ST0 hrl ⊢
    clear hcb hrb
    go_cut [6] (fun _ wx => CrMid w wx rb cb (cb + 1) ut)
    case first =>
      clear HK HC HM2 HZC HZK hlt
      cases b1
      · rcases numR_some hn0 with ⟨h, _⟩ | ⟨_, hs0⟩
        · cases h
        clear hn0
        by_cases k2 : kd = 2
        · subst k2
          obtain ⟨x1, q2, b2, n1⟩ : ∃ x q b, numRd ut q1 false = (x, q, b) := ⟨_, _, _, rfl⟩
          have hq2 := num_bd n1 hz.1 hq1
          obtain ⟨x2, q3, b3, n2⟩ : ∃ x q b, numRd ut q2 b2 = (x, q, b) := ⟨_, _, _, rfl⟩
          have hq3 := num_bd n2 hz.1 hq2
          obtain ⟨x3, q4, b4, n3⟩ : ∃ x q b, numRd ut q3 b3 = (x, q, b) := ⟨_, _, _, rfl⟩
          have hq4 := num_bd n3 hz.1 hq3
          obtain ⟨x4, q5, b5, n4⟩ : ∃ x q b, numRd ut q4 b4 = (x, q, b) := ⟨_, _, _, rfl⟩
          have hq5 := num_bd n4 hz.1 hq4
          have HF := hide (num_four n1 n2 n3 n4)
          have cn := hide (num_at rb ut q1 false n1 _ hz.1 hq1 (unhide ST0).rd)
          go_wp2_with fail
          refine (unhide cn).mono ?_
          rintro e V1 ⟨rfl, hr, hg⟩
          have hS := (unhide ST0).num hr hg
          have cc := hS.cm.cell 1 _ rfl
          have cf := hS.cm.free 1
          have ST1 := hide (hS.set 1 (.int .i64 x1))
          clear hr hg cn hS ST0 n1
          have cn := hide (num_at rb ut q2 b2 n2 _ hz.1 hq2 (unhide ST1).rd)
          go_wp2_with fail
          clear cc cf
          refine (unhide cn).mono ?_
          rintro e V2 ⟨rfl, hr, hg⟩
          have hS := (unhide ST1).num hr hg
          have cc := hS.cm.cell 2 _ rfl
          have cf := hS.cm.free 2
          have ST2 := hide (hS.set 2 (.int .i64 x2))
          clear hr hg cn hS ST1 n2
          have cn := hide (num_at rb ut q3 b3 n3 _ hz.1 hq3 (unhide ST2).rd)
          go_wp2_with fail
          clear cc cf
          refine (unhide cn).mono ?_
          rintro e V3 ⟨rfl, hr, hg⟩
          have hS := (unhide ST2).num hr hg
          have cc := hS.cm.cell 3 _ rfl
          have cf := hS.cm.free 3
          have ST3 := hide (hS.set 3 (.int .i64 x3))
          clear hr hg cn hS ST2 n3
          have cn := hide (num_at rb ut q4 b4 n4 _ hz.1 hq4 (unhide ST3).rd)
          go_wp2_with fail
          clear cc cf
          refine (unhide cn).mono ?_
          rintro e V4 ⟨rfl, hr, hg⟩
          have hS := (unhide ST3).num hr hg
          have cc := hS.cm.cell 4 _ rfl
          have cf := hS.cm.free 4
          have ST4 := hide (hS.set 4 (.int .i64 x4))
          clear hr hg cn hS ST3 n4
          have HD := hide (mid2 hs0 (unhide HF))
          clear hs0 HF
          go_wp2_with fail
          clear cc cf
          go_meet
          exact ⟨⟨2, x1, x2, x3, x4, [], 0, 0, ⟨#[]⟩, 0, 0⟩, q5, b5, none, 0, unhide ST4, (unhide HD).1, (unhide HD).2, World.ownsRow_nil _ _ _ _⟩
        by_cases k3 : kd = 3
        · subst k3
          obtain ⟨c, q2, b2, hm, hc6, hbad, hok⟩ := first6 hs0
          have hq2 : q2 ≤ 8000 := by have := manyV_le (t := ut) (q := q1) (bad := false) (most := 6) hz.1 hq1; rw [hm] at this; exact this
          have cn : Hid (Calls Tryd.prog 48 #[.pointer (some ⟨rb, 0, none⟩), .int .i64 6] W fun e w' => e = .returned (.int .i64 (c : Int)) ∧ RdAt w' rb ut q2 b2 ∧ W.grownBy w' (some rb)) := hide (by have := many_any rb ut q1 false 6 W hz.1 hq1 (unhide ST0).rd; rw [hm] at this; exact this)
          have HI : Hid ((b2 = true → readCm ut = none) ∧ (b2 = false → q2 ≤ ut.size ∧ readVs ut q2 0 = some ([], q2))) := hide ⟨hbad, fun h => ⟨(hok h).1, rfl⟩⟩
          have HA : Hid (b2 = false → readCm ut = match readVs ut q2 c with | none => none | some (S, q3) => some (⟨3, 0, 0, 0, 0, S, 0, 0, ⟨#[]⟩, 0, 0⟩, q3)) := hide (fun h => (hok h).2)
          obtain ⟨i0, hi, hz0, hz1, hz2⟩ := info_parts info_vecC
          have hm8 : 400 ≤ maxLen := by decide +kernel
          clear hs0 hm hbad hok
          go_wp2_with fail
          refine (unhide cn).mono ?_
          rintro e V1 ⟨rfl, hr, hg⟩
          have ST1 := hide ((unhide ST0).num hr hg)
          have hsz1 : cb + 1 ≤ V1.heap.size := by have := hg.size; omega
          clear hr hg cn ST0
          go_wp2_with fail
          go_loopw [6] (fun i wr => ∃ (m j : Nat) (S : List D3) (q : Nat) (bad : Bool) (a : Option Addr) (k : Nat), m + j = c ∧ i = .int .i64 (m : Int) ∧ q ≤ 8000 ∧ cb + 1 ≤ wr.heap.size ∧ Hid (S.length = j) ∧ Hid ((bad = true → readCm ut = none) ∧ (bad = false → b2 = false ∧ q ≤ ut.size ∧ readVs ut q2 j = some (S, q))) ∧ Hid (CrSt w wr rb cb ut q bad [.int .i64 3, .int .i64 0, .int .i64 0, .int .i64 0, .int .i64 0, (.slice a S.length k), .int .i64 0, .int .i64 0, .string ⟨#[]⟩, .int .i64 0, .int .i64 0]) ∧ Hid (wr.ownsRow (cb + 1) 75 3 (.slice a S.length k) S.length (flatD S))) (fun i _ => (intOf i).toNat)
          case atStart => exact ⟨c, 0, [], q2, b2, none, 0, by omega, rfl, hq2, hsz1, hide rfl, hide ⟨(unhide HI).1, fun h => ⟨h, (unhide HI).2 h⟩⟩, ST1, hide (World.ownsRow_nil _ _ _ _)⟩
          case round =>
            clear ST1 HI hsz1
            obtain ⟨m, j, S, q, bad, a, k, hmj, rfl, hq, hszr, HL, HI, ST, OW⟩ := hrel
            have hLb : S.length ≤ 6 := by have := unhide HL; omega
            obtain ⟨d0, d1, d2, fr1, fr2⟩ := (unhide ST).rd
            cases bad
            · obtain ⟨hb2, hqs, hrt⟩ := (unhide HI).2 rfl
              have hrA := unhide HA hb2
              by_cases hm0 : 0 < m
              · obtain ⟨m', rfl⟩ : ∃ m', m = m' + 1 := ⟨m - 1, by omega⟩
                have hg0 : (0 : Int) < ((m' + 1 : Nat) : Int) := by omega
                obtain ⟨⟨x, y, z⟩, q3, b3, hv⟩ : ∃ p q' b, vecRd ut q false = (p, q', b) := ⟨_, _, _, rfl⟩
                have hq3 : q3 ≤ 8000 := by have := vecV_le (t := ut) (q := q) (bad := false) hz.1 hq; rw [hv] at this; exact this
                have cV := hide (fun (X : World) (hX : RdAt X rb ut q false) => vec_any rb ut q false X hz.1 hq hX)
                rw [hv] at cV
                have HN : Hid ((b3 = true → readCm ut = none) ∧ (b3 = false → b2 = false ∧ q3 ≤ ut.size ∧ readVs ut q2 (j + 1) = some (S ++ [(x, y, z)], q3))) := hide (by
                  rcases vec_three hv with ⟨rfl, e3⟩ | ⟨rfl, e3⟩
                  · have e : readVs ut q2 (j + 1) = none := by unfold readVs; rw [hrt]; simp only [e3]
                    exact ⟨fun _ => by rw [hrA, readVs_stop e (show j + 1 ≤ c by omega)], fun h => (by cases h)⟩
                  · have e : readVs ut q2 (j + 1) = some (S ++ [(x, y, z)], q3) := by unfold readVs; rw [hrt]; simp only [e3]
                    exact ⟨fun h => (by cases h), fun _ => ⟨hb2, (read3_le e3).2, e⟩⟩)
                clear hv hrt hrA hqs
                go_upto_region 16 with fail
                clear d0 d1 d2 fr1 fr2
                have h5 : wr.drew.cell? ⟨cb, 5, none⟩ = some (.slice a S.length k) := (unhide ST).cm.drewn.cell 5 _ rfl
                have hRd : RdAt wr.drew rb ut q false := (unhide ST).rd
                have STd : Hid (CrSt w wr.drew rb cb ut q false [.int .i64 3, .int .i64 0, .int .i64 0, .int .i64 0, .int .i64 0, (.slice a S.length k), .int .i64 0, .int .i64 0, .string ⟨#[]⟩, .int .i64 0, .int .i64 0]) := hide ⟨(unhide ST).rd, (unhide ST).cm.drewn, (unhide ST).out.drewn, (unhide ST).bel.drew, (unhide ST).hr, (unhide ST).hc, (unhide ST).ne⟩
                have OWd : Hid (wr.drew.ownsRow (cb + 1) 75 3 (.slice a S.length k) S.length (flatD S)) := hide (unhide OW)
                have hszd : cb + 1 ≤ wr.drew.heap.size := hszr
                clear ST OW
                refine wp_region_held_drew (S := (fun _ => True)) (by kernel_rfl) trivial (fun hHeld => ?_)
                refine wpAnyH_take (i := 0) (v := ?_) rfl (by kernel_rfl) (by kernel_rfl) (by kernel_rfl) (fun _ _ _ h => h) (Or.inl ⟨by rfl, ?_⟩) (by assumption) ?_
                rotate_left
                · intro W0 hSw; (try dsimp only at hSw); go_simp <;> with_reducible rfl
                try simp only [Act.put, List.setIfInBounds_toArray, List.set_cons_zero, List.set_cons_succ]
                refine wpAnyH_take (i := 2) (v := ?_) rfl (by kernel_rfl) (by kernel_rfl) (by kernel_rfl) (fun _ _ _ h => h) (Or.inl ⟨by rfl, ?_⟩) (by assumption) ?_
                rotate_left
                · intro W0 hSw; (try dsimp only at hSw); go_simp <;> with_reducible rfl
                try simp only [Act.put, List.setIfInBounds_toArray, List.set_cons_zero, List.set_cons_succ]
                refine wpAnyH_ready (rs := [1, 3]) (by kernel_rfl) (by simp) ?_
                refine AllReadyH.cons rfl (fun K hK => ?_) (AllReadyH.cons rfl (fun K hK => ?_) AllReadyH.nil)
                · have hx5 := (unhide STd).cm.cell 5 _ rfl
                  go_simp
                  clear hx5
                  refine hK.out _ _ trivial (fun _ => ?_)
                  clear hK K
                  refine wpAnyH_ready (rs := [3]) (by kernel_rfl) (by simp) ?_
                  refine AllReadyH.cons rfl (fun K hK => ?_) AllReadyH.nil
                  go_simp
                  refine (unhide cV _ hRd).mono ?_
                  rintro e V3 ⟨rfl, hr, hg⟩
                  have STe := hide ((unhide STd).num hr hg)
                  have OWe := hide (ownOff (unhide OWd) hg (show rb < cb + 1 by omega))
                  have hsze : cb + 1 ≤ V3.heap.size := by have := hg.size; omega
                  clear hr hg
                  refine hK.out _ _ trivial (fun _ => ?_)
                  clear hK K
                  refine wpAnyH_ready (rs := [4]) (by kernel_rfl) (by simp) ?_
                  refine AllReadyH.cons rfl (fun K hK => ?_) AllReadyH.nil
                  go_simp
                  have Zv := below1 V3 (.cells #[.int .i64 x, .int .i64 y, .int .i64 z] 75)
                  have STf := hide (show CrSt w (V3.alloc (.cells #[.int .i64 x, .int .i64 y, .int .i64 z] 75)) rb cb ut q3 b3 _ from ⟨(unhide STe).rd.kept Zv, (unhide STe).cm.kept Zv, (unhide STe).out.kept Zv, below_call (unhide STe).bel Zv, (unhide STe).hr, (unhide STe).hc, (unhide STe).ne⟩)
                  clear Zv
                  refine hK.out _ _ trivial (fun _ => ?_)
                  clear hK K
                  refine wpAnyH_ready (rs := [5]) (by kernel_rfl) (by simp) ?_
                  refine AllReadyH.cons rfl (fun K hK => ?_) AllReadyH.nil
                  have hown := (unhide OWe).alloc (.cells #[.int .i64 x, .int .i64 y, .int .i64 z] 75)
                  refine step_append_ownC rfl _ _ 32 rfl (cb + 1) 75 i0 (.agg #[.int .i64 0, .int .i64 0, .int .i64 0]) 3 24 Tryd.underlying32 hi hz0 hz1 hz2 rfl (by decide) _ _ _ rfl hown ⟨V3.heap.size, 0, none⟩ 1 1 [.int .i64 x, .int .i64 y, .int .i64 z] rfl rfl (cells3D V3 x y z 75) (by intro u hu; simp at hu; rcases hu with rfl | rfl | rfl <;> rfl) (by omega) (by omega) (by simp; omega) ?_
                  intro v7 V7 hown7 hgrow7
                  have nb : ∀ k', k' < cb + 1 → some k' ≠ Value.ownBlock (.slice a S.length k) := fun k' hk' e => by have := (hown.lt k' e.symm).1; omega
                  have STg := (unhide STf)
                  have STh : CrSt w V7 rb cb ut q3 b3 _ := ⟨STg.rd.grown hgrow7 (nb rb (by omega)), blkG STg.cm hgrow7 (nb cb (by omega)), blkG STg.out hgrow7 (nb _ (by have := STg.hc; omega)), grownOwn' STg.bel (own_lowC hown (by have := STg.hc; omega)) hgrow7 (by have := STg.bel.size; omega), STg.hr, STg.hc, STg.ne⟩
                  obtain ⟨a7, c7, hv7⟩ := own_formC hown7
                  subst hv7
                  have c5 := STh.cm.cell 5 _ rfl
                  have f5 := STh.cm.free 5
                  have ST8 := hide (STh.set 5 (.slice a7 (S.length + 1) c7))
                  have OW8 := hide (ownSetC hown7 (fun z hz => by have := (hown7.lt z hz).1; omega) (b := cb) 5 (.slice a7 (S.length + 1) c7))
                  have hs8 : cb + 1 ≤ V7.heap.size := STh.cm.lt
                  clear hown STg STh nb hown7 hgrow7 STf STe OWe STd OWd
                  refine hK.out _ _ trivial (fun _ => ?_)
                  clear hK K
                  refine wpAnyH_ready (rs := [6]) (by kernel_rfl) (by simp) ?_
                  refine AllReadyH.cons rfl (fun K hK => ?_) AllReadyH.nil
                  go_simp
                  refine hK.out _ _ trivial (fun _ => ?_)
                  clear hK K
                  refine wpAnyH_ready (rs := [7]) (by kernel_rfl) (by simp) ?_
                  refine AllReadyH.cons rfl (fun K hK => ?_) AllReadyH.nil
                  go_simp
                  refine hK.out _ _ trivial (fun _ => ?_)
                  clear hK K
                  refine wpAnyH_done (by kernel_rfl) ?_ _
                  clear c5 f5
                  go_wp2_with fail
                  go_roundw
                  case rel => exact ⟨m', j + 1, S ++ [(x, y, z)], q3, b3, a7, c7, by omega, by go_num, hq3, by simpa using hs8, hide (by simp [unhide HL]), HN, hide (by simpa using unhide ST8), hide (by rw [flatD_snoc]; simpa [vec3D] using unhide OW8)⟩
                  case measure => simp [intOf]
                · go_simp
                  refine (unhide cV _ hRd).mono ?_
                  rintro e V3 ⟨rfl, hr, hg⟩
                  have STe := hide ((unhide STd).num hr hg)
                  have OWe := hide (ownOff (unhide OWd) hg (show rb < cb + 1 by omega))
                  have hsze : cb + 1 ≤ V3.heap.size := by have := hg.size; omega
                  clear hr hg
                  refine hK.out _ _ trivial (fun _ => ?_)
                  clear hK K
                  refine wpAnyH_ready (rs := [1, 4]) (by kernel_rfl) (by simp) ?_
                  refine AllReadyH.cons rfl (fun K hK => ?_) (AllReadyH.cons rfl (fun K hK => ?_) AllReadyH.nil)
                  · have hx5 := (unhide STe).cm.cell 5 _ rfl
                    go_simp
                    clear hx5
                    refine hK.out _ _ trivial (fun _ => ?_)
                    clear hK K
                    refine wpAnyH_ready (rs := [4]) (by kernel_rfl) (by simp) ?_
                    refine AllReadyH.cons rfl (fun K hK => ?_) AllReadyH.nil
                    go_simp
                    have Zv := below1 V3 (.cells #[.int .i64 x, .int .i64 y, .int .i64 z] 75)
                    have STf := hide (show CrSt w (V3.alloc (.cells #[.int .i64 x, .int .i64 y, .int .i64 z] 75)) rb cb ut q3 b3 _ from ⟨(unhide STe).rd.kept Zv, (unhide STe).cm.kept Zv, (unhide STe).out.kept Zv, below_call (unhide STe).bel Zv, (unhide STe).hr, (unhide STe).hc, (unhide STe).ne⟩)
                    clear Zv
                    refine hK.out _ _ trivial (fun _ => ?_)
                    clear hK K
                    refine wpAnyH_ready (rs := [5]) (by kernel_rfl) (by simp) ?_
                    refine AllReadyH.cons rfl (fun K hK => ?_) AllReadyH.nil
                    have hown := (unhide OWe).alloc (.cells #[.int .i64 x, .int .i64 y, .int .i64 z] 75)
                    refine step_append_ownC rfl _ _ 32 rfl (cb + 1) 75 i0 (.agg #[.int .i64 0, .int .i64 0, .int .i64 0]) 3 24 Tryd.underlying32 hi hz0 hz1 hz2 rfl (by decide) _ _ _ rfl hown ⟨V3.heap.size, 0, none⟩ 1 1 [.int .i64 x, .int .i64 y, .int .i64 z] rfl rfl (cells3D V3 x y z 75) (by intro u hu; simp at hu; rcases hu with rfl | rfl | rfl <;> rfl) (by omega) (by omega) (by simp; omega) ?_
                    intro v7 V7 hown7 hgrow7
                    have nb : ∀ k', k' < cb + 1 → some k' ≠ Value.ownBlock (.slice a S.length k) := fun k' hk' e => by have := (hown.lt k' e.symm).1; omega
                    have STg := (unhide STf)
                    have STh : CrSt w V7 rb cb ut q3 b3 _ := ⟨STg.rd.grown hgrow7 (nb rb (by omega)), blkG STg.cm hgrow7 (nb cb (by omega)), blkG STg.out hgrow7 (nb _ (by have := STg.hc; omega)), grownOwn' STg.bel (own_lowC hown (by have := STg.hc; omega)) hgrow7 (by have := STg.bel.size; omega), STg.hr, STg.hc, STg.ne⟩
                    obtain ⟨a7, c7, hv7⟩ := own_formC hown7
                    subst hv7
                    have c5 := STh.cm.cell 5 _ rfl
                    have f5 := STh.cm.free 5
                    have ST8 := hide (STh.set 5 (.slice a7 (S.length + 1) c7))
                    have OW8 := hide (ownSetC hown7 (fun z hz => by have := (hown7.lt z hz).1; omega) (b := cb) 5 (.slice a7 (S.length + 1) c7))
                    have hs8 : cb + 1 ≤ V7.heap.size := STh.cm.lt
                    clear hown STg STh nb hown7 hgrow7 STf STe OWe STd OWd
                    refine hK.out _ _ trivial (fun _ => ?_)
                    clear hK K
                    refine wpAnyH_ready (rs := [6]) (by kernel_rfl) (by simp) ?_
                    refine AllReadyH.cons rfl (fun K hK => ?_) AllReadyH.nil
                    go_simp
                    refine hK.out _ _ trivial (fun _ => ?_)
                    clear hK K
                    refine wpAnyH_ready (rs := [7]) (by kernel_rfl) (by simp) ?_
                    refine AllReadyH.cons rfl (fun K hK => ?_) AllReadyH.nil
                    go_simp
                    refine hK.out _ _ trivial (fun _ => ?_)
                    clear hK K
                    refine wpAnyH_done (by kernel_rfl) ?_ _
                    clear c5 f5
                    go_wp2_with fail
                    go_roundw
                    case rel => exact ⟨m', j + 1, S ++ [(x, y, z)], q3, b3, a7, c7, by omega, by go_num, hq3, by simpa using hs8, hide (by simp [unhide HL]), HN, hide (by simpa using unhide ST8), hide (by rw [flatD_snoc]; simpa [vec3D] using unhide OW8)⟩
                    case measure => simp [intOf]
                  · go_simp
                    have Zv := below1 V3 (.cells #[.int .i64 x, .int .i64 y, .int .i64 z] 75)
                    have STf := hide (show CrSt w (V3.alloc (.cells #[.int .i64 x, .int .i64 y, .int .i64 z] 75)) rb cb ut q3 b3 _ from ⟨(unhide STe).rd.kept Zv, (unhide STe).cm.kept Zv, (unhide STe).out.kept Zv, below_call (unhide STe).bel Zv, (unhide STe).hr, (unhide STe).hc, (unhide STe).ne⟩)
                    clear Zv
                    refine hK.out _ _ trivial (fun _ => ?_)
                    clear hK K
                    refine wpAnyH_ready (rs := [1]) (by kernel_rfl) (by simp) ?_
                    refine AllReadyH.cons rfl (fun K hK => ?_) AllReadyH.nil
                    have hx5 := (unhide STf).cm.cell 5 _ rfl
                    go_simp
                    clear hx5
                    refine hK.out _ _ trivial (fun _ => ?_)
                    clear hK K
                    refine wpAnyH_ready (rs := [5]) (by kernel_rfl) (by simp) ?_
                    refine AllReadyH.cons rfl (fun K hK => ?_) AllReadyH.nil
                    have hown := (unhide OWe).alloc (.cells #[.int .i64 x, .int .i64 y, .int .i64 z] 75)
                    refine step_append_ownC rfl _ _ 32 rfl (cb + 1) 75 i0 (.agg #[.int .i64 0, .int .i64 0, .int .i64 0]) 3 24 Tryd.underlying32 hi hz0 hz1 hz2 rfl (by decide) _ _ _ rfl hown ⟨V3.heap.size, 0, none⟩ 1 1 [.int .i64 x, .int .i64 y, .int .i64 z] rfl rfl (cells3D V3 x y z 75) (by intro u hu; simp at hu; rcases hu with rfl | rfl | rfl <;> rfl) (by omega) (by omega) (by simp; omega) ?_
                    intro v7 V7 hown7 hgrow7
                    have nb : ∀ k', k' < cb + 1 → some k' ≠ Value.ownBlock (.slice a S.length k) := fun k' hk' e => by have := (hown.lt k' e.symm).1; omega
                    have STg := (unhide STf)
                    have STh : CrSt w V7 rb cb ut q3 b3 _ := ⟨STg.rd.grown hgrow7 (nb rb (by omega)), blkG STg.cm hgrow7 (nb cb (by omega)), blkG STg.out hgrow7 (nb _ (by have := STg.hc; omega)), grownOwn' STg.bel (own_lowC hown (by have := STg.hc; omega)) hgrow7 (by have := STg.bel.size; omega), STg.hr, STg.hc, STg.ne⟩
                    obtain ⟨a7, c7, hv7⟩ := own_formC hown7
                    subst hv7
                    have c5 := STh.cm.cell 5 _ rfl
                    have f5 := STh.cm.free 5
                    have ST8 := hide (STh.set 5 (.slice a7 (S.length + 1) c7))
                    have OW8 := hide (ownSetC hown7 (fun z hz => by have := (hown7.lt z hz).1; omega) (b := cb) 5 (.slice a7 (S.length + 1) c7))
                    have hs8 : cb + 1 ≤ V7.heap.size := STh.cm.lt
                    clear hown STg STh nb hown7 hgrow7 STf STe OWe STd OWd
                    refine hK.out _ _ trivial (fun _ => ?_)
                    clear hK K
                    refine wpAnyH_ready (rs := [6]) (by kernel_rfl) (by simp) ?_
                    refine AllReadyH.cons rfl (fun K hK => ?_) AllReadyH.nil
                    go_simp
                    refine hK.out _ _ trivial (fun _ => ?_)
                    clear hK K
                    refine wpAnyH_ready (rs := [7]) (by kernel_rfl) (by simp) ?_
                    refine AllReadyH.cons rfl (fun K hK => ?_) AllReadyH.nil
                    go_simp
                    refine hK.out _ _ trivial (fun _ => ?_)
                    clear hK K
                    refine wpAnyH_done (by kernel_rfl) ?_ _
                    clear c5 f5
                    go_wp2_with fail
                    go_roundw
                    case rel => exact ⟨m', j + 1, S ++ [(x, y, z)], q3, b3, a7, c7, by omega, by go_num, hq3, by simpa using hs8, hide (by simp [unhide HL]), HN, hide (by simpa using unhide ST8), hide (by rw [flatD_snoc]; simpa [vec3D] using unhide OW8)⟩
                    case measure => simp [intOf]
              · obtain rfl : m = 0 := by omega
                obtain rfl : j = c := by omega
                rw [hrt] at hrA
                have HR := hide hrA
                clear hrA hrt hqs
                go_wp2_with fail
                go_meet
                exact ⟨⟨3, 0, 0, 0, 0, S, 0, 0, ⟨#[]⟩, 0, 0⟩, q, false, a, k, unhide ST, fun h => (by cases h), fun _ => unhide HR, unhide OW⟩
            · have HR := hide ((unhide HI).1 rfl)
              by_cases hm0 : 0 < m
              · have hg0 : (0 : Int) < (m : Int) := by omega
                go_wp2_with fail
                go_meet
                exact ⟨⟨3, 0, 0, 0, 0, S, 0, 0, ⟨#[]⟩, 0, 0⟩, q, true, a, k, unhide ST, fun _ => unhide HR, fun h => (by cases h), unhide OW⟩
              · obtain rfl : m = 0 := by omega
                go_wp2_with fail
                go_meet
                exact ⟨⟨3, 0, 0, 0, 0, S, 0, 0, ⟨#[]⟩, 0, 0⟩, q, true, a, k, unhide ST, fun _ => unhide HR, fun h => (by cases h), unhide OW⟩
        by_cases k4 : kd = 4
        · subst k4
          obtain ⟨x1, q2, b2, n1⟩ : ∃ x q b, numRd ut q1 false = (x, q, b) := ⟨_, _, _, rfl⟩
          have hq2 := num_bd n1 hz.1 hq1
          obtain ⟨x2, q3, b3, n2⟩ : ∃ x q b, numRd ut q2 b2 = (x, q, b) := ⟨_, _, _, rfl⟩
          have hq3 := num_bd n2 hz.1 hq2
          obtain ⟨x3, q4, b4, n3⟩ : ∃ x q b, numRd ut q3 b3 = (x, q, b) := ⟨_, _, _, rfl⟩
          have hq4 := num_bd n3 hz.1 hq3
          obtain ⟨x4, q5, b5, n4⟩ : ∃ x q b, numRd ut q4 b4 = (x, q, b) := ⟨_, _, _, rfl⟩
          have hq5 := num_bd n4 hz.1 hq4
          have HF := hide (num_four n1 n2 n3 n4)
          have cn := hide (num_at rb ut q1 false n1 _ hz.1 hq1 (unhide ST0).rd)
          go_wp2_with fail
          refine (unhide cn).mono ?_
          rintro e V1 ⟨rfl, hr, hg⟩
          have hS := (unhide ST0).num hr hg
          have cc := hS.cm.cell 6 _ rfl
          have cf := hS.cm.free 6
          have ST1 := hide (hS.set 6 (.int .i64 x1))
          clear hr hg cn hS ST0 n1
          have cn := hide (num_at rb ut q2 b2 n2 _ hz.1 hq2 (unhide ST1).rd)
          go_wp2_with fail
          clear cc cf
          refine (unhide cn).mono ?_
          rintro e V2 ⟨rfl, hr, hg⟩
          have hS := (unhide ST1).num hr hg
          have cc := hS.cm.cell 7 _ rfl
          have cf := hS.cm.free 7
          have ST2 := hide (hS.set 7 (.int .i64 x2))
          clear hr hg cn hS ST1 n2
          have cn := hide (num_at rb ut q3 b3 n3 _ hz.1 hq3 (unhide ST2).rd)
          go_wp2_with fail
          clear cc cf
          refine (unhide cn).mono ?_
          rintro e V3 ⟨rfl, hr, hg⟩
          have hS := (unhide ST2).num hr hg
          have cc := hS.cm.cell 9 _ rfl
          have cf := hS.cm.free 9
          have ST3 := hide (hS.set 9 (.int .i64 x3))
          clear hr hg cn hS ST2 n3
          have cn := hide (num_at rb ut q4 b4 n4 _ hz.1 hq4 (unhide ST3).rd)
          go_wp2_with fail
          clear cc cf
          refine (unhide cn).mono ?_
          rintro e V4 ⟨rfl, hr, hg⟩
          have hS := (unhide ST3).num hr hg
          have cc := hS.cm.cell 10 _ rfl
          have cf := hS.cm.free 10
          have ST4 := hide (hS.set 10 (.int .i64 x4))
          clear hr hg cn hS ST3 n4
          obtain ⟨px, q6, b6, n5⟩ : ∃ x q b, textRd ut q5 b5 = (x, q, b) := ⟨_, _, _, rfl⟩
          have HD := hide (mid4 hs0 (unhide HF) n5)
          have cn := hide (text_at rb ut q5 b5 n5 _ hz.1 hq5 (unhide ST4).rd)
          clear hs0 HF n5
          go_wp2_with fail
          clear cc cf
          refine (unhide cn).mono ?_
          rintro e V5 ⟨rfl, hr, hg⟩
          have hS := (unhide ST4).num hr hg
          have cc := hS.cm.cell 8 _ rfl
          have cf := hS.cm.free 8
          have ST5 := hide (hS.set 8 (.string px))
          clear hr hg cn hS ST4
          go_wp2_with fail
          clear cc cf
          go_meet
          exact ⟨⟨4, 0, 0, 0, 0, [], x1, x2, px, x3, x4⟩, q6, b6, none, 0, unhide ST5, (unhide HD).1, (unhide HD).2, World.ownsRow_nil _ _ _ _⟩
        have HD := hide (mid0 hs0 k2 k3 k4)
        have e2 : (kd == 2) = false := by simp [k2]
        have e3 : (kd == 3) = false := by simp [k3]
        have e4 : (kd == 4) = false := by simp [k4]
        clear hs0
        go_wp2_with fail
        go_meet
        exact ⟨⟨kd, 0, 0, 0, 0, [], 0, 0, ⟨#[]⟩, 0, 0⟩, q1, false, none, 0, unhide ST0, fun h => (by cases h), fun _ => unhide HD, World.ownsRow_nil _ _ _ _⟩
      · rcases numR_some hn0 with ⟨_, hs0, rfl⟩ | ⟨h, _⟩
        rotate_left
        · cases h
        have HD := hide (midN hs0)
        clear hs0 hn0
        go_wp2_with fail
        go_meet
        exact ⟨⟨0, 0, 0, 0, 0, [], 0, 0, ⟨#[]⟩, 0, 0⟩, q1, true, none, 0, unhide ST0, fun _ => unhide HD, fun h => (by cases h), World.ownsRow_nil _ _ _ _⟩
    case rest =>
      obtain ⟨c, q, bad, a, k, hst, hbad, hok, hown⟩ := hcut
      have ST := hide hst
      have OW := hide hown
      obtain ⟨d0, d1, d2, fr1, fr2⟩ := hst.rd
      have c0 := (hst.cm).cell 0 _ rfl
      have c1 := (hst.cm).cell 1 _ rfl
      have c2 := (hst.cm).cell 2 _ rfl
      have c3 := (hst.cm).cell 3 _ rfl
      have c4 := (hst.cm).cell 4 _ rfl
      have c5 := (hst.cm).cell 5 _ rfl
      have c6 := (hst.cm).cell 6 _ rfl
      have c7 := (hst.cm).cell 7 _ rfl
      have c8 := (hst.cm).cell 8 _ rfl
      have c9 := (hst.cm).cell 9 _ rfl
      have c10 := (hst.cm).cell 10 _ rfl
      have r0 := (hst.out).cell 0 _ rfl
      have r1 := (hst.out).cell 1 _ rfl
      have r2 := (hst.out).cell 2 _ rfl
      have r3 := (hst.out).cell 3 _ rfl
      have r4 := (hst.out).cell 4 _ rfl
      have r5 := (hst.out).cell 5 _ rfl
      have r6 := (hst.out).cell 6 _ rfl
      have r7 := (hst.out).cell 7 _ rfl
      have r8 := (hst.out).cell 8 _ rfl
      have r9 := (hst.out).cell 9 _ rfl
      have r10 := (hst.out).cell 10 _ rfl
      have r11 := (hst.out).cell 11 _ rfl
      have g0 := (hst.out).free 0
      have g1 := (hst.out).free 1
      have g2 := (hst.out).free 2
      have g3 := (hst.out).free 3
      have g4 := (hst.out).free 4
      have g5 := (hst.out).free 5
      have g6 := (hst.out).free 6
      have g7 := (hst.out).free 7
      have g8 := (hst.out).free 8
      have g9 := (hst.out).free 9
      have g10 := (hst.out).free 10
      have g11 := (hst.out).free 11
      have hwl := hst.hc
      clear hst hown hlt ST0
      cases bad
      · have hrd := hok rfl
        rw [hrd] at HK HC
        have HQ := hide (unhide HM2 c q hrd)
        obtain ⟨hdir, hcap⟩ := dirs_own (unhide OW)
        have cB := hide (fun W hW => specCommandBytes_any c.S c.kind c.A c.B c.C c.D c.wd c.ht c.lv c.fo c.px a k W (by have := readCm_len hrd; omega) hW)
        have HD := hide hdir
        have HS : Hid (cmdS ⟨c.kind, c.A, c.B, c.C, c.D, c.S, c.wd, c.ht, c.px, c.lv, c.fo⟩ = cmdS c) := hide rfl
        rw [unhide HS] at cB
        generalize cmdS c = bs at *
        clear hdir hcap hrd hbad hok HM2 HS
        go_wp2_with fail
        refine (unhide cB _ (unhide HD)).mono ?_
        rintro e w3 ⟨rfl, hx⟩
        have B3 := hide (below_call (unhide ST).bel hx)
        have R3 := hide ((unhide ST).out.kept hx)
        have C3 := hide ((unhide ST).cm.kept hx)
        have O3 := hide (ownKept' (unhide OW) hx)
        clear hx cB HD ST OW d0 d1 d2 fr1 fr2 c0 c1 c2 c3 c4 c5 c6 c7 c8 c9 c10 r0 r1 r2 r3 r4 r5 r6 r7 r8 r9 r10 r11 g0 g1 g2 g3 g4 g5 g6 g7 g8 g9 g10 g11
        have c0 := (unhide C3).cell 0 _ rfl
        have c1 := (unhide C3).cell 1 _ rfl
        have c2 := (unhide C3).cell 2 _ rfl
        have c3 := (unhide C3).cell 3 _ rfl
        have c4 := (unhide C3).cell 4 _ rfl
        have c5 := (unhide C3).cell 5 _ rfl
        have c6 := (unhide C3).cell 6 _ rfl
        have c7 := (unhide C3).cell 7 _ rfl
        have c8 := (unhide C3).cell 8 _ rfl
        have c9 := (unhide C3).cell 9 _ rfl
        have c10 := (unhide C3).cell 10 _ rfl
        have r0 := (unhide R3).cell 0 _ rfl
        have r1 := (unhide R3).cell 1 _ rfl
        have r2 := (unhide R3).cell 2 _ rfl
        have r3 := (unhide R3).cell 3 _ rfl
        have r4 := (unhide R3).cell 4 _ rfl
        have r5 := (unhide R3).cell 5 _ rfl
        have r6 := (unhide R3).cell 6 _ rfl
        have r7 := (unhide R3).cell 7 _ rfl
        have r8 := (unhide R3).cell 8 _ rfl
        have r9 := (unhide R3).cell 9 _ rfl
        have r10 := (unhide R3).cell 10 _ rfl
        have r11 := (unhide R3).cell 11 _ rfl
        have g0 := (unhide R3).free 0
        have g1 := (unhide R3).free 1
        have g2 := (unhide R3).free 2
        have g3 := (unhide R3).free 3
        have g4 := (unhide R3).free 4
        have g5 := (unhide R3).free 5
        have g6 := (unhide R3).free 6
        have g7 := (unhide R3).free 7
        have g8 := (unhide R3).free 8
        have g9 := (unhide R3).free 9
        have g10 := (unhide R3).free 10
        have g11 := (unhide R3).free 11
        by_cases hbs : bs = s
        · have hy := (unhide HQ).1 hbs
          try dsimp only at HK HC
          rw [if_pos hy] at HK HC
          subst hbs
          clear HQ hy
          go_wp2_with fail
          clear c0 c1 c2 c3 c4 c5 c6 c7 c8 c9 c10 r0 r1 r2 r3 r4 r5 r6 r7 r8 r9 r10 r11 g0 g1 g2 g3 g4 g5 g6 g7 g8 g9 g10 g11
          refine bodyPost_ret (res_scr _ _ w.heap.size c (.slice a c.S.length k) 0 rfl (blk_set12 (unhide R3) rfl _ _ _ _ _ _ _ _ _ _ _ _)) rfl ⟨?_, ?_⟩
          · rw [unhide HZC, unhide HZK, unhide HK, unhide HC]
            refine ⟨_, rfl, ?_⟩
            iterate 12 (refine ownSetC ?_ (fun z hz => by have := ((unhide O3).lt z hz).1; omega) _ _)
            exact own_lowC (unhide O3) (by omega)
          · iterate 12 (refine belowSetC ?_ (Nat.le_refl w.heap.size) _ _)
            exact unhide B3
        · have hy := fun h => hbs ((unhide HQ).2 h)
          try dsimp only at HK HC
          rw [if_neg hy] at HK HC
          have hbs1 := str_ne hbs
          clear HQ hy
          go_wp2_with fail
          clear c0 c1 c2 c3 c4 c5 c6 c7 c8 c9 c10 r0 r1 r2 r3 r4 r5 r6 r7 r8 r9 r10 r11 g0 g1 g2 g3 g4 g5 g6 g7 g8 g9 g10 g11
          refine bodyPost_ret (res_scr _ _ w.heap.size zeroCm (.slice none 0 0) 3 rfl (blk_set12 (unhide R3) rfl _ _ _ _ _ _ _ _ _ _ _ _)) rfl ⟨?_, ?_⟩
          · rw [unhide HZC, unhide HZK, unhide HK, unhide HC]
            exact outCr_zero _ _ 3
          · iterate 12 (refine belowSetC ?_ (Nat.le_refl w.heap.size) _ _)
            exact unhide B3
      · have hrd := hbad rfl
        rw [hrd] at HK HC
        have B3 := hide (unhide ST).bel
        have R3 := hide (unhide ST).out
        clear hbad hok HM2 hrd ST OW
        go_wp2_with fail
        clear c0 c1 c2 c3 c4 c5 c6 c7 c8 c9 c10 r0 r1 r2 r3 r4 r5 r6 r7 r8 r9 r10 r11 g0 g1 g2 g3 g4 g5 g6 g7 g8 g9 g10 g11
        refine bodyPost_ret (res_scr _ _ w.heap.size zeroCm (.slice none 0 0) 3 rfl (blk_set12 (unhide R3) rfl _ _ _ _ _ _ _ _ _ _ _ _)) rfl ⟨?_, ?_⟩
        · rw [unhide HZC, unhide HZK, unhide HK, unhide HC]
          exact outCr_zero _ _ 3
        · iterate 12 (refine belowSetC ?_ (Nat.le_refl w.heap.size) _ _)
          exact unhide B3
  · have hu' : (uc == 0) = false := by simp [hu]
    have hu2 : (uc != 0) = true := by simp [hu]
    rw [if_neg hu] at HK HC
    have r0 := (unhide R1).cell 0 _ rfl
    have r1 := (unhide R1).cell 1 _ rfl
    have r2 := (unhide R1).cell 2 _ rfl
    have r3 := (unhide R1).cell 3 _ rfl
    have r4 := (unhide R1).cell 4 _ rfl
    have r5 := (unhide R1).cell 5 _ rfl
    have r6 := (unhide R1).cell 6 _ rfl
    have r7 := (unhide R1).cell 7 _ rfl
    have r8 := (unhide R1).cell 8 _ rfl
    have r9 := (unhide R1).cell 9 _ rfl
    have r10 := (unhide R1).cell 10 _ rfl
    have r11 := (unhide R1).cell 11 _ rfl
    have g0 := (unhide R1).free 0
    have g1 := (unhide R1).free 1
    have g2 := (unhide R1).free 2
    have g3 := (unhide R1).free 3
    have g4 := (unhide R1).free 4
    have g5 := (unhide R1).free 5
    have g6 := (unhide R1).free 6
    have g7 := (unhide R1).free 7
    have g8 := (unhide R1).free 8
    have g9 := (unhide R1).free 9
    have g10 := (unhide R1).free 10
    have g11 := (unhide R1).free 11
    clear HM HZ hlt
    go_wp2_with fail
    clear t0 t1 t2 r0 r1 r2 r3 r4 r5 r6 r7 r8 r9 r10 r11 g0 g1 g2 g3 g4 g5 g6 g7 g8 g9 g10 g11
    refine bodyPost_ret (res_scr _ _ w.heap.size zeroCm (.slice none 0 0) uc rfl (blk_set12 (unhide R1) rfl _ _ _ _ _ _ _ _ _ _ _ _)) rfl ⟨?_, ?_⟩
    · rw [unhide HZC, unhide HZK, unhide HK, unhide HC]
      exact outCr_zero _ _ uc
    · iterate 12 (refine belowSetC ?_ (Nat.le_refl w.heap.size) _ _)
      exact unhide B1
end Go.Proofs.YtnffnjljjecphaaDoor
