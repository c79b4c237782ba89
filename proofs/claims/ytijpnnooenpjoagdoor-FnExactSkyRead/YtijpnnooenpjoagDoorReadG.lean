/- SkyRead: the specification's. -/
import Derived.Test.YtijpnnooenpjoagDoorReadD
import Derived.Test.YtijpnnooenpjoagDoorReadF
import Derived.Test.YtijpnnooenpjoagDoorSkyL
namespace Go.Proofs.YtijpnnooenpjoagDoor
open Go.RowKit Go.Sort
set_option linter.unusedVariables false

theorem step4 (t : ByteArray) (q : Nat) : (read4 t q = none ∧ (vecV t (numV t q false).2.1 (numV t q false).2.2).2.2 = true) ∨
    (read4 t q = some (((numV t q false).1, (vecV t (numV t q false).2.1 (numV t q false).2.2).1.1, (vecV t (numV t q false).2.1 (numV t q false).2.2).1.2.1, (vecV t (numV t q false).2.1 (numV t q false).2.2).1.2.2), (vecV t (numV t q false).2.1 (numV t q false).2.2).2.1) ∧ (vecV t (numV t q false).2.1 (numV t q false).2.2).2.2 = false) := by
  unfold read4
  cases h1 : scanN t q with
  | none =>
    have e1 : numV t q false = (0, q, true) := by unfold numV; rw [h1]; rfl
    exact .inl ⟨rfl, by rw [e1]; rfl⟩
  | some a =>
    obtain ⟨a, p1⟩ := a
    have e1 : numV t q false = (a, p1, false) := by unfold numV; rw [h1]; rfl
    rw [e1]
    simp only [vecV]
    cases h2 : scanN t p1 with
    | none =>
      have e2 : numV t p1 false = (0, p1, true) := by unfold numV; rw [h2]; rfl
      exact .inl ⟨rfl, by rw [e2]; rfl⟩
    | some b =>
      obtain ⟨b, p2⟩ := b
      have e2 : numV t p1 false = (b, p2, false) := by unfold numV; rw [h2]; rfl
      rw [e2]
      simp only
      cases h3 : scanN t p2 with
      | none =>
        have e3 : numV t p2 false = (0, p2, true) := by unfold numV; rw [h3]; rfl
        exact .inl ⟨rfl, by rw [e3]; rfl⟩
      | some c =>
        obtain ⟨c, p3⟩ := c
        have e3 : numV t p2 false = (c, p3, false) := by unfold numV; rw [h3]; rfl
        rw [e3]
        simp only
        cases h4 : scanN t p3 with
        | none =>
          have e4 : numV t p3 false = (0, p3, true) := by unfold numV; rw [h4]; rfl
          exact .inl ⟨rfl, by rw [e4]⟩
        | some d =>
          obtain ⟨d, p4⟩ := d
          have e4 : numV t p3 false = (d, p4, false) := by unfold numV; rw [h4]; rfl
          exact .inr ⟨by rw [e4], by rw [e4]⟩
theorem first12 (t : ByteArray) : ∃ (c q : Nat) (bad : Bool), manyV t 0 false 12 = ((c : Int), q, bad) ∧ c ≤ 12 ∧ (bad = true → readAll t = none) ∧ (bad = false → q ≤ t.size ∧ readAll t = readTo t q c) := by
  unfold manyV readAll
  cases h : scanN t 0 with
  | none =>
    have e : numV t 0 false = (0, 0, true) := by unfold numV; rw [h]; rfl
    rw [e]
    exact ⟨0, 0, true, rfl, by omega, fun _ => rfl, fun h => by cases h⟩
  | some x =>
    obtain ⟨n, p⟩ := x
    have e : numV t 0 false = (n, p, false) := by unfold numV; rw [h]; rfl
    rw [e]
    simp only
    by_cases hn : n < 0 ∨ 12 < n
    · rw [if_neg (by omega), if_pos hn]
      exact ⟨0, p, true, rfl, by omega, fun _ => rfl, fun h => by cases h⟩
    · rw [if_pos (by omega), if_neg hn]
      refine ⟨n.toNat, p, false, by rw [Int.toNat_of_nonneg (by omega)], by omega, fun h => ?_, fun _ => ⟨(scanN_le h).2, rfl⟩⟩
      cases h
theorem vecV_le {t : ByteArray} {q : Nat} {bad : Bool} (ht : t.size ≤ 8000) (hq : q ≤ 8000) : (vecV t q bad).2.1 ≤ 8000 :=
  numV_le ht (numV_le ht (numV_le ht hq))
theorem manyV_le {t : ByteArray} {q : Nat} {bad : Bool} {most : Int} (ht : t.size ≤ 8000) (hq : q ≤ 8000) : (manyV t q bad most).2.1 ≤ 8000 := by
  unfold manyV
  split
  · exact numV_le ht hq
  · exact numV_le ht hq
theorem belowG {w wr w1 : World} {rb : Nat} (h : Below w.heap.size w wr) (hg : wr.grownBy w1 (some rb)) (hr : w.heap.size ≤ rb) : Below w.heap.size w w1 :=
  h.trans ⟨hg.os, hg.tape, hg.output, hg.size, fun k hk => hg.block k (Nat.lt_of_lt_of_le hk h.size) (fun e => by have := Option.some.inj e; omega)⟩
theorem ownG {w w1 : World} {B rb : Nat} {t : TypeId} {v : Value} {n m : Nat} {xs : List Value} (h : w.ownsRow B t m v n xs) (hg : w.grownBy w1 (some rb)) (hr : rb < B) : w1.ownsRow B t m v n xs :=
  h.kept hg (by
    cases hv : v.ownBlock with
    | none => exact .inl rfl
    | some k => exact .inr (fun e => by have := (h.lt k hv).1; have := Option.some.inj e; omega))
theorem OutAt2.grown {w w' : World} {b : Nat} {v : Value} {c : Int} {row : Option Nat} (h : OutAt2 w b v c) (hg : w.grownBy w' row) (hne : some b ≠ row) : OutAt2 w' b v c := ⟨hg.cell h.1 hne, hg.cell h.2 hne⟩
theorem Free2.grown {w w' : World} {b : Nat} {row : Option Nat} (h : Free2 w b) (hb : b < w.heap.size) (hg : w.grownBy w' row) (hne : some b ≠ row) : Free2 w' b := by
  have e := hg.block b hb hne
  exact ⟨by rw [World.frozen?_of_block (w := w) e]; exact h.1, by rw [World.frozen?_of_block (w := w) e]; exact h.2⟩
theorem rdAt_new (w : World) (t : ByteArray) (ty : TypeId) : RdAt (w.alloc (.cells #[.string t, .int .i64 0, .bool false] ty)) w.heap.size t 0 false := by
  refine ⟨?_, ?_, ?_, ?_, ?_⟩ <;> simp

theorem rd_two (w : World) (o : Obj) (t : ByteArray) (ty : TypeId) (o2 : Obj) : RdAt (((w.alloc o).alloc (.cells #[.string t, .int .i64 0, .bool false] ty)).alloc o2) (w.heap.size + 1) t 0 false := by
  have h : (w.alloc o).heap.size = w.heap.size + 1 := by simp
  rw [← h]
  exact (rdAt_new _ t ty).kept (below1 _ o2)
theorem own_two (w : World) (o o2 : Obj) (ty : TypeId) : (((w.alloc o).alloc o2).alloc (.cells #[] ty)).ownsRow (w.heap.size + 1 + 1) ty 4 (.slice (some ⟨w.heap.size + 1 + 1, 0, none⟩) 0 0) 0 [] := by
  have h : ((w.alloc o).alloc o2).heap.size = w.heap.size + 1 + 1 := by simp
  rw [← h]
  exact ⟨rfl, .inr ⟨_, 0, #[], rfl, Nat.le_refl _, Array.getElem?_push_size, Nat.le_refl _, Nat.zero_le _, rfl, rfl⟩⟩
theorem belowA2 {w W : World} (h : Below w.heap.size w W) (o o2 : Obj) : Below w.heap.size w ((W.alloc o).alloc o2) :=
  (h.alloc h.size o).alloc (h.alloc h.size o).size o2
theorem toNext {t : ByteArray} {p c j q q2 : Nat} {L : List St} {x : St} {b : Bool} (hj : j < c) (ht : readTo t p j = some (L, q)) (hA : readAll t = readTo t p c)
    (h : (read4 t q = none ∧ b = true) ∨ (read4 t q = some (x, q2) ∧ b = false)) :
    (b = true → readAll t = none) ∧ (b = false → q2 ≤ t.size ∧ readTo t p (j + 1) = some (L ++ [x], q2) ∧ readAll t = readTo t p c) := by
  rcases h with ⟨h, rfl⟩ | ⟨h, rfl⟩
  · have e : readTo t p (j + 1) = none := by unfold readTo; rw [ht]; simp only [h]
    exact ⟨fun _ => by rw [hA, readTo_stop e hj], fun h => by cases h⟩
  · have e : readTo t p (j + 1) = some (L ++ [x], q2) := by unfold readTo; rw [ht]; simp only [h]
    exact ⟨fun h => (by cases h), fun _ => ⟨(read4_le h).2, e, hA⟩⟩

set_option maxHeartbeats 4000000 in
set_option maxRecDepth 100000 in
theorem specSkyRead_any (s : ByteArray) (w : World) (hs : s.size ≤ 1048576)
    (hM : ∀ L q, unC s = 0 → readAll (unT s) = some (L, q) → (skyS L = s ↔ q = (unT s).size ∧ skyB L = true)) :
    Calls Tryd.prog 19 #[.string s] w fun e w' => outRes (w.heap.size + 1) (readL s) e w' ∧ Below w.heap.size w w' := by
  obtain ⟨i0, hi, hz0, hz1, hz2⟩ := info_parts info_star
  have B0 := hide (below1 w (.cells #[.slice none 0 0, .int .i64 0] 38))
  have R0 := hide (outAt2_new w (.slice none 0 0) 0 38)
  have F0 := hide (free2_new w (.slice none 0 0) 0 38)
  have HRL : Hid (readL s = if unC s = 0 then (match goodL (unT s) with | none => .error 3 | some L => .ok L) else .error (unC s)) := hide rfl
  have HZ : Hid (unC s = 0 → (unT s).size ≤ 8000 ∧ (unT s).size + 4 = s.size) := hide unT_size
  have HM := hide hM
  clear hM
  have cU := hide (fun W => specUnseal_any s W hs)
  generalize unC s = uc at *
  generalize unT s = ut at *
  go_enter Tryd.func19, Tryd.ntmps19
  go_wp2_with fail
  refine (unhide cU _).mono ?_
  rintro e w1 ⟨rfl, hx⟩
  have B1 := hide ((below_call (unhide B0) hx).alloc (below_call (unhide B0) hx).size (.cells #[.string ut, .int .i64 0, .int .i64 uc] 79))
  have R1 := hide (((unhide R0).kept hx).kept (below1 w1 (.cells #[.string ut, .int .i64 0, .int .i64 uc] 79)))
  have F1 := hide (((unhide F0).kept (by simp) hx).kept (World.block_lt_of_cell? _ _ ((unhide R0).kept hx).1) (below1 w1 (.cells #[.string ut, .int .i64 0, .int .i64 uc] 79)))
  have hlt : w.heap.size < w1.heap.size := by have := hx.size; simp at this; omega
  clear hx B0 R0 F0 cU
  obtain ⟨r0, r1⟩ := unhide R1
  obtain ⟨f0, f1⟩ := unhide F1
  by_cases hu : uc = 0
  · subst hu
    have hz := unhide HZ rfl
    rw [if_pos rfl] at HRL
    clear r0 r1 f0 f1
    go_wp2_with fail
    refine (many_any (w1.heap.size + 1) ut 0 false 12 _ hz.1 (by omega) (rd_two _ _ _ _ _)).mono ?_
    rintro e w2 ⟨rfl, hr, hg⟩
    obtain ⟨c, q0, bad0, hm, hc12, hbad, hok⟩ := first12 ut
    rw [hm] at hr ⊢
    have hq0 : q0 ≤ 8000 := by have := manyV_le (t := ut) (q := 0) (bad := false) (most := 12) hz.1 (by omega); rw [hm] at this; exact this
    have B2 := hide (belowG (belowA2 (unhide B1) _ _) hg (by omega))
    have W2 := hide (ownG (own_two _ _ _ _) hg (by omega))
    have R2 := hide ((((unhide R1).kept (below1 _ _)).kept (below1 _ _)).grown hg (by simp; omega))
    have F2 := hide ((((unhide F1).kept (by simp; omega) (below1 _ _)).kept (by simp; omega) (below1 _ _)).grown (by simp; omega) hg (by simp; omega))
    have D2 : Hid (RdAt w2 (w1.heap.size + 1) ut q0 bad0) := hide hr
    have HI : Hid ((bad0 = true → readAll ut = none) ∧ (bad0 = false → q0 ≤ ut.size ∧ readTo ut q0 0 = some ([], q0) ∧ readAll ut = readTo ut q0 c)) := hide (And.intro hbad (fun h => And.intro (hok h).1 (And.intro rfl (hok h).2)))
    clear hr hg hbad hok hm B1 R1 F1
    have hrb : w.heap.size < w1.heap.size + 1 := by omega
    generalize w1.heap.size + 1 = rb at *
    go_wp2_with fail
    go_loopw [5, 6] (fun v i wr => ∃ (m j : Nat) (L : List St) (q : Nat) (bad : Bool), m + j = c ∧ i = .int .i64 (m : Int) ∧ q ≤ 8000 ∧ Hid (L.length = j) ∧ Hid ((bad = true → readAll ut = none) ∧ (bad = false → q ≤ ut.size ∧ readTo ut q0 j = some (L, q) ∧ readAll ut = readTo ut q0 c)) ∧ Hid (wr.ownsRow (rb + 1) 60 4 v L.length (flatS L)) ∧ Hid (RdAt wr rb ut q bad) ∧ Hid (Below w.heap.size w wr) ∧ Hid (OutAt2 wr w.heap.size (.slice none 0 0) 0) ∧ Hid (Free2 wr w.heap.size)) (fun _ i _ => (intOf i).toNat)
    case atStart => exact ⟨c, 0, [], q0, bad0, by omega, rfl, hq0, hide rfl, HI, W2, D2, B2, R2, F2⟩
    case round =>
      obtain ⟨m, j, L, q, bad, hmj, rfl, hq, HL, HI, HW, HD, HB, HR, HF⟩ := hrel
      have hLb : L.length ≤ 12 := by have := unhide HL; omega
      obtain ⟨d0, d1, d2, g1, g2⟩ := unhide HD
      cases bad
      · obtain ⟨hqs, hrt, hra⟩ := (unhide HI).2 rfl
        by_cases hm0 : 0 < m
        · obtain ⟨m', rfl⟩ : ∃ m', m = m' + 1 := ⟨m - 1, by omega⟩
          have hg0 : (0 : Int) < ((m' + 1 : Nat) : Int) := by omega
          have HN := hide (fun (n : Int) (x y z : Int) (q2 : Nat) (b : Bool) h => toNext (x := (n, x, y, z)) (q2 := q2) (b := b) (show j < c by omega) hrt hra h)
          have H4 := hide (step4 ut q)
          have cN := hide (num_any rb ut q false wr hz.1 hq (unhide HD))
          have l1 := numV_le (bad := false) hz.1 hq
          have cV := hide (fun (W : World) hW => vec_any rb ut (numV ut q false).2.1 (numV ut q false).2.2 W hz.1 l1 hW)
          have l2 := vecV_le (bad := (numV ut q false).2.2) hz.1 l1
          clear hqs hrt hra
          generalize vecV ut (numV ut q false).2.1 (numV ut q false).2.2 = vv at *
          generalize numV ut q false = nn at *
          obtain ⟨n, q1, b1⟩ := nn
          obtain ⟨⟨x, y, z⟩, q2, b2⟩ := vv
          go_wp2_with fail
          refine (unhide cN).mono ?_
          rintro e w3 ⟨rfl, hr, hg⟩
          have hbr : w.heap.size < wr.heap.size := World.block_lt_of_cell? _ _ (unhide HR).1
          have B3 := hide (belowG (unhide HB) hg (by omega))
          have W3 := hide (ownG (unhide HW) hg (by omega))
          have R3 := hide ((unhide HR).grown hg (by simp; omega))
          have F3 := hide ((unhide HF).grown hbr hg (by simp; omega))
          have D3 : Hid (RdAt w3 rb ut q1 b1) := hide hr
          clear hr hg cN hbr HB HW HR HF HD d0 d1 d2 g1 g2
          go_wp2_with fail
          refine (unhide cV _ (unhide D3)).mono ?_
          rintro e w4 ⟨rfl, hr, hg⟩
          have hbr : w.heap.size < w3.heap.size := World.block_lt_of_cell? _ _ (unhide R3).1
          have B4 := hide (belowG (unhide B3) hg (by omega))
          have W4 := hide (ownG (unhide W3) hg (by omega))
          have R4 := hide ((unhide R3).grown hg (by simp; omega))
          have F4 := hide ((unhide F3).grown hbr hg (by simp; omega))
          have D4 : Hid (RdAt w4 rb ut q2 b2) := hide hr
          have hb4 : w.heap.size < w4.heap.size := World.block_lt_of_cell? _ _ (unhide R4).1
          have hs4 := (unhide B4).size
          have hrb4 : rb < w4.heap.size := (unhide D4).lt
          clear hr hg cV hbr B3 W3 R3 F3 D3
          have hown := unhide W4
          go_wp2_with (at_builtin; refine wpList_append_own _ rfl _ _ 32 rfl (rb + 1) 60 i0 (.agg #[.int .i64 0, .int .i64 0, .int .i64 0, .int .i64 0]) 4 32 Tryd.underlying32 hi hz0 hz1 hz2 rfl (by decide) _ _ _ rfl (hown.alloc _) ⟨w4.heap.size, 0, none⟩ 1 1 [.int .i64 n, .int .i64 x, .int .i64 y, .int .i64 z] rfl rfl ?c1 ?c2 ?c3 ?c4 ?c5 ?_)
          case c1 => exact cells4_new w4 n x y z 60
          case c2 => intro u hu; simp at hu; rcases hu with rfl | rfl | rfl | rfl <;> rfl
          case c3 => unfold maxLen; omega
          case c4 => omega
          case c5 => simp; omega
          intro v' V4 hown' hgrow _
          have Z4 := below1 w4 (.cells #[.int .i64 n, .int .i64 x, .int .i64 y, .int .i64 z] 60)
          have ho4 := ownKept' hown Z4
          have hz4 : w.heap.size ≤ (w4.alloc (.cells #[.int .i64 n, .int .i64 x, .int .i64 y, .int .i64 z] 60)).heap.size := by simp; omega
          have B5 := hide (grownOwn' (below_call (unhide B4) Z4) (ownsRow_less' ho4 (show w.heap.size ≤ rb + 1 by omega)) hgrow hz4)
          have W5 : Hid (V4.ownsRow (rb + 1) 60 4 v' (L ++ [(n, x, y, z)]).length (flatS (L ++ [(n, x, y, z)]))) := hide (by rw [flatS_snoc]; simpa [stC] using hown')
          have nb : ∀ k, k < rb + 1 → some k ≠ Value.ownBlock u5 := fun k hk e => by have := (hown.lt k e.symm).1; omega
          have D5 := hide (((unhide D4).kept Z4).grown hgrow (nb rb (by omega)))
          have R5 := hide (((unhide R4).kept Z4).grown hgrow (nb _ (by omega)))
          have F5 := hide (((unhide F4).kept hb4 Z4).grown (by simp; omega) hgrow (nb _ (by omega)))
          clear hown' hown hgrow Z4 ho4 hz4 B4 W4 R4 F4 D4 nb
          go_wp2_with fail
          go_roundw
          case rel => exact ⟨m', j + 1, _, q2, b2, by omega, by go_num, l2, hide (by simp [unhide HL]), hide (unhide HN n x y z q2 b2 (unhide H4)), W5, D5, B5, R5, F5⟩
          case measure => simp [intOf]
        · obtain rfl : m = 0 := by omega
          obtain rfl : j = c := by omega
          have hA : readAll ut = some (L, q) := hra.trans hrt
          have HG : Hid (goodL ut = if q = ut.size ∧ skyB L = true then some L else none) := hide (by unfold goodL; rw [hA])
          have HQ := hide (unhide HM L q (by first | trivial | rfl) hA)
          obtain ⟨ar, cap, hv, hlc, hcm, hst⟩ := own_stars (unhide HW)
          have HST := hide hst
          have cS := hide (fun W hW => specSkyBytes_any L ar cap W (by omega) hW)
          have HW2 := HW
          rw [hv] at HW2 ⊢
          generalize skyS L = bs at *
          clear hst hv HW hA hra hrt hqs HM
          go_wp2_with fail
          refine (unhide cS _ (unhide HST)).mono ?_
          rintro e w3 ⟨rfl, hx⟩
          have hbr : w.heap.size < wr.heap.size := World.block_lt_of_cell? _ _ (unhide HR).1
          have B3 := hide (below_call (unhide HB) hx)
          have W3 := hide (ownsRow_less' (B' := w.heap.size + 1) (ownKept' (unhide HW2) hx) (by omega))
          obtain ⟨r0, r1⟩ := (unhide HR).kept hx
          obtain ⟨f0, f1⟩ := (unhide HF).kept hbr hx
          clear hx HB HW2 HST cS HR HF HD d0 d1 d2 g1 g2
          by_cases hbs : bs = s
          · rw [if_pos ((unhide HQ).1 hbs)] at HG
            rw [unhide HG] at HRL
            subst hbs
            clear HQ HG
            go_wp2_with fail
            exact bodyPost_ret (v := .agg #[.slice ar L.length cap, .int .i64 0]) (by simp [results, Tryd.results19, go_sem, r0, r1]) rfl ⟨by rw [unhide HRL]; exact ⟨_, rfl, ownSet (ownSet (unhide W3) (by omega)) (by omega)⟩, ((unhide B3).setCell (Nat.le_refl _) _).setCell (Nat.le_refl _) _⟩
          · rw [if_neg (fun h => hbs ((unhide HQ).2 h))] at HG
            rw [unhide HG] at HRL
            have hbs1 := str_ne hbs
            clear HQ HG
            go_wp2_with fail
            exact bodyPost_ret (v := .agg #[.slice none 0 0, .int .i64 3]) (by simp [results, Tryd.results19, go_sem, r0, r1]) rfl ⟨by rw [unhide HRL]; exact rfl, ((unhide B3).setCell (Nat.le_refl _) _).setCell (Nat.le_refl _) _⟩
      · have HG : Hid (goodL ut = none) := hide (by unfold goodL; rw [(unhide HI).1 rfl])
        rw [unhide HG] at HRL
        obtain ⟨r0, r1⟩ := unhide HR
        obtain ⟨f0, f1⟩ := unhide HF
        by_cases hm0 : 0 < m
        · have hg0 : (0 : Int) < (m : Int) := by omega
          go_wp2_with fail
          exact bodyPost_ret (v := .agg #[.slice none 0 0, .int .i64 3]) (by simp [results, Tryd.results19, go_sem, r0, r1]) rfl ⟨by rw [unhide HRL]; exact rfl, ((unhide HB).setCell (Nat.le_refl _) _).setCell (Nat.le_refl _) _⟩
        · obtain rfl : m = 0 := by omega
          go_wp2_with fail
          exact bodyPost_ret (v := .agg #[.slice none 0 0, .int .i64 3]) (by simp [results, Tryd.results19, go_sem, r0, r1]) rfl ⟨by rw [unhide HRL]; exact rfl, ((unhide HB).setCell (Nat.le_refl _) _).setCell (Nat.le_refl _) _⟩
  · clear hlt
    have hu' : (uc == 0) = false := by simp [hu]
    have hu2 : (uc != 0) = true := by simp [hu]
    rw [if_neg hu] at HRL
    go_wp2_with fail
    exact bodyPost_ret (v := .agg #[.slice none 0 0, .int .i64 uc]) (by simp [results, Tryd.results19, go_sem, r0, r1]) rfl ⟨by rw [unhide HRL]; exact rfl, ((unhide B1).setCell (Nat.le_refl _) _).setCell (Nat.le_refl _) _⟩
end Go.Proofs.YtijpnnooenpjoagDoor
