/- Several texts in one: DsF, DeskA, ModO, DsU, DsR. -/
import Derived.Test.YtofpjlhoppofdaaGreatDoorQDeskFaultOwn15
import Derived.Test.YtofpjlhoppofdaaGreatDoorQDeskFaultOwn1
import Derived.Test.YtofpjlhoppofdaaGreatDoorQDeskFaultOwn4
import Derived.Test.YtofpjlhoppofdaaGreatDoorQDeskFaultOwn9
import Derived.Test.YtofpjlhoppofdaaGreatDoorQDeskFaultOwn13
import Derived.Test.YtofpjlhoppofdaaGreatDoorQDeskFaultOwn14
namespace Go.Proofs.YtofpjlhoppofdaaGreatDoor
open Go.RowKit
set_option linter.unusedVariables false
set_option linter.unusedSimpArgs false
def lnC (l : Ln) : List Value := [fnV (doesF l.k), strB l.t, .int .i64 l.n]
def flatLn (L : List Ln) : List Value := L.flatMap lnC
theorem flatLn_snoc (L : List Ln) (l : Ln) : flatLn (L ++ [l]) = flatLn L ++ lnC l := by unfold flatLn; rw [List.flatMap_append]; simp
def deskP (s : ByteArray) : List Ln ⊕ Nat := linesP 0 (pcs 10 s.data.toList)
def deskLs (s : ByteArray) : List Ln := if 8000 < s.size then [] else match deskP s with | .inl ls => ls | .inr _ => []
def deskLn (s : ByteArray) : Int := if 8000 < s.size then 0 else match deskP s with | .inl _ => 0 | .inr i => (i : Int)
def deskCd (s : ByteArray) : Int := if 8000 < s.size then 2 else match deskP s with | .inl _ => 0 | .inr _ => 3
def RdEnd (s : ByteArray) (w' : World) (B : Nat) (e : Ending) : Prop := ∃ v, e = .returned (.tuple #[v, .agg #[.string ⟨#[]⟩, .int .i64 (deskLn s), .int .i64 (deskCd s)]]) ∧ w'.ownsRow B 66 3 v (deskLs s).length (flatLn (deskLs s))
def partP (s : ByteArray) (done : List Ln) (rem : List UInt8) : Prop := deskP s = match linesP done.length (pcs 10 rem) with | .inl ls => .inl (done ++ ls) | .inr j => .inr j
theorem part_end {s : ByteArray} {done : List Ln} (h : partP s done []) : deskP s = .inl done := by
  unfold partP at h
  rw [h]
  show Sum.inl (done ++ []) = _
  rw [List.append_nil]
theorem lines_cons (i : Nat) (a : List UInt8) (b : List UInt8) : linesP i (a :: pcs 10 b) = match lineP a with | none => .inr i | some l => if 40 ≤ i then .inr i else match linesP (i + 1) (pcs 10 b) with | .inl ls => .inl (l :: ls) | .inr j => .inr j := by
  cases h : pcs 10 b with
  | nil => exact absurd h (pcs_ne _ _)
  | cons q r => rfl
theorem part_bad {s : ByteArray} {done : List Ln} {a b : List UInt8} (ha : 10 ∉ a) (h : partP s done (a ++ 10 :: b)) (hl : lineP a = none) : deskP s = .inr done.length := by
  unfold partP at h
  rw [pcs_hit ha, lines_cons, hl] at h
  exact h
theorem part_full {s : ByteArray} {done : List Ln} {a b : List UInt8} {l : Ln} (ha : 10 ∉ a) (h : partP s done (a ++ 10 :: b)) (hl : lineP a = some l) (h40 : 40 ≤ done.length) : deskP s = .inr done.length := by
  unfold partP at h
  rw [pcs_hit ha, lines_cons, hl] at h
  dsimp only at h
  rw [if_pos h40] at h
  exact h
theorem part_open {s : ByteArray} {done : List Ln} {a : List UInt8} (ha : 10 ∉ a) (hn : a ≠ []) (h : partP s done a) : deskP s = .inr done.length := by
  unfold partP at h
  rw [pcs_miss ha] at h
  have e : linesP done.length [a] = .inr done.length := by show (if a = [] then _ else _) = _; rw [if_neg hn]
  rw [e] at h
  exact h
theorem part_next {s : ByteArray} {done : List Ln} {a b : List UInt8} {l : Ln} (ha : 10 ∉ a) (h : partP s done (a ++ 10 :: b)) (hl : lineP a = some l) (h40 : ¬ 40 ≤ done.length) : partP s (done ++ [l]) b := by
  unfold partP at h ⊢
  rw [pcs_hit ha, lines_cons, hl] at h
  dsimp only at h
  rw [if_neg h40] at h
  rw [h, show (done ++ [l]).length = done.length + 1 by simp]
  cases linesP (done.length + 1) (pcs 10 b) with
  | inl ls => simp
  | inr j => rfl
theorem rd_fault {s : ByteArray} (hs : ¬ 8000 < s.size) {i : Nat} (h : deskP s = .inr i) : deskLs s = [] ∧ deskLn s = (i : Int) ∧ deskCd s = 3 := by
  unfold deskLs deskLn deskCd
  rw [if_neg hs, if_neg hs, if_neg hs, h]
  exact ⟨rfl, rfl, rfl⟩
theorem rd_good {s : ByteArray} (hs : ¬ 8000 < s.size) {L : List Ln} (h : deskP s = .inl L) : deskLs s = L ∧ deskLn s = 0 ∧ deskCd s = 0 := by
  unfold deskLs deskLn deskCd
  rw [if_neg hs, if_neg hs, if_neg hs, h]
  exact ⟨rfl, rfl, rfl⟩
theorem rd_big {s : ByteArray} (hs : 8000 < s.size) : deskLs s = [] ∧ deskLn s = 0 ∧ deskCd s = 2 := by
  unfold deskLs deskLn deskCd
  rw [if_pos hs, if_pos hs, if_pos hs]
  exact ⟨rfl, rfl, rfl⟩
def strLen : Value → Nat
  | .string b => b.size
  | _ => 0
theorem info_ln : ∃ i : TypeInfo, Tryz.prog.info? 66 = some i ∧ i.zero = some (.agg #[.nilFunc, .string ⟨#[]⟩, .int .i64 0]) ∧ i.size = 3 ∧ i.bytes = 32 := by
  have h : (Tryz.prog.info? 66).map (fun i => (i.zero, i.size, i.bytes)) = some (some (.agg #[.nilFunc, .string ⟨#[]⟩, .int .i64 0]), 3, 32) := by kernel_rfl
  cases hi : Tryz.prog.info? 66 with
  | none => rw [hi] at h; cases h
  | some i =>
    rw [hi] at h
    have := Option.some.inj h
    simp only [Prod.mk.injEq] at this
    exact ⟨i, rfl, this.1, this.2.1, this.2.2⟩
theorem res_rd (T : Array Value) (X : World) (b : Nat) (v : Value) (n c : Int) (hT2 : T.getD 2 undef = v) (hT : T.getD 3 undef = .pointer (some ⟨b, 0, none⟩)) (h : Blk X b [.string ⟨#[]⟩, .int .i64 n, .int .i64 c] 23) : (results Tryz.f14 T).run Tryz.prog X = .ok (.tuple #[v, .agg #[.string ⟨#[]⟩, .int .i64 n, .int .i64 c]]) X := by
  obtain ⟨h0, h1, h2⟩ := bcs3 (h)
  simp only [Array.getD_eq_getD_getElem?] at hT hT2
  simp [results, Tryz.results14, go_sem, hT, hT2, h0, h1, h2]
theorem own_offD {w : World} {B n m b : Nat} {t : TypeId} {v : Value} {xs : List Value} (h : w.ownsRow B t m v n xs) (hb : b < B) (o : Nat) (x : Value) : (w.setCell ⟨b, o, none⟩ x).ownsRow B t m v n xs := by
  obtain ⟨h1, h2⟩ := h
  refine ⟨h1, ?_⟩
  rcases h2 with h2 | ⟨g, c', cur, e, hg, hh, r⟩
  · exact .inl h2
  · exact .inr ⟨g, c', cur, e, hg, by rw [Below.heap_setCell w ⟨b, o, none⟩ x g (by show g ≠ b; omega)]; exact hh, r⟩
theorem new_listD (w : World) (vs : List Value) (t : TypeId) : ∀ (j : Nat) (u : Value), vs[j]? = some u → (w.alloc (.cells vs.toArray t)).cell? ((⟨w.heap.size, 0, none⟩ : Addr).add j) = some u := by
  intro j u hj
  have e : (⟨w.heap.size, 0, none⟩ : Addr).add j = ⟨w.heap.size, j, none⟩ := by cases j <;> simp [Addr.add]
  rw [e]
  simp [hj]
structure RdSt (w wr : World) (v : Value) (done : List Ln) : Prop where
  out : Blk wr w.heap.size [.string ⟨#[]⟩, .int .i64 0, .int .i64 0] 23
  row : wr.ownsRow (w.heap.size + 1) 66 3 v done.length (flatLn done)
  bel : Below w.heap.size w wr
  low : w.heap.size + 1 ≤ wr.heap.size
theorem RdSt.kept {w w1 w2 : World} {v : Value} {done : List Ln} (h : RdSt w w1 v done) (hx : Below w1.heap.size w1 w2) : RdSt w w2 v done :=
  ⟨h.out.kept hx, own_keptD h.row hx, below_call h.bel hx, Nat.le_trans h.low hx.size⟩
set_option maxHeartbeats 4000000 in
set_option maxRecDepth 100000 in
theorem readDesk_any (s : ByteArray) (w : World) (hs : s.size ≤ 1048576) (hm : MaxL w) :
    Calls Tryz.prog 14 #[.string s] w fun e w' => RdEnd s w' w.heap.size e ∧ Below w.heap.size w w' := by
  have B0 := below1 w (.cells #[.string ⟨#[]⟩, .int .i64 0, .int .i64 0] 23)
  have R0 := blk_new w [.string ⟨#[]⟩, .int .i64 0, .int .i64 0] 23
  have HM := yz hm
  clear hm
  by_cases hb : 8000 < s.size
  · have hb' : (8000 : Int) < (s.size : Int) := by omega
    have HO := yz (rd_big hb)
    go_enter Tryz.func14, Tryz.ntmps14
    go_wp2
    refine bodyPost_ret (v := .tuple #[.slice none 0 0, .agg #[.string ⟨#[]⟩, .int .i64 0, .int .i64 2]]) ?_ rfl ⟨⟨_, by rw [(yy HO).2.1, (yy HO).2.2], by rw [(yy HO).1]; exact World.ownsRow_nil _ _ _ _⟩, below1 _ _⟩
    · simp [results, Tryz.results14, go_sem]
  have hb' : ¬ (8000 : Int) < (s.size : Int) := by omega
  have HG := yz (fun L h => rd_good (s := s) hb (L := L) h)
  have HFT := yz (fun i h => rd_fault (s := s) hb (i := i) h)
  have HST : Hid (RdSt w (w.alloc (.cells #[.string ⟨#[]⟩, .int .i64 0, .int .i64 0] 23)) (.slice none 0 0) []) := yz ⟨R0, World.ownsRow_nil _ _ _ _, B0, by simp⟩
  have HP : Hid (partP s [] s.data.toList) := yz (by unfold partP deskP; rw [show ([] : List Ln).length = 0 from rfl]; cases linesP 0 (pcs 10 s.data.toList) <;> rfl)
  obtain ⟨i0, hinf, hz0, hz1, hz2⟩ := info_ln
  have hm8 : 10000 ≤ maxLen := by decide +kernel
  clear B0 R0
  go_enter Tryz.func14, Tryz.ntmps14
  go_wp2_with fail
  generalize w.alloc (.cells #[.string ⟨#[]⟩, .int .i64 0, .int .i64 0] 23) = W0 at *
  go_loopw [0, 4] (fun t v wr => ∃ (rem : ByteArray) (done : List Ln), t = .string rem ∧ rem.size ≤ 8000 ∧ done.length ≤ 40 ∧ Hid (partP s done rem.data.toList) ∧ Hid (RdSt w wr v done)) (fun t _ _ => strLen t)
  case atStart => exact ⟨s, [], rfl, by omega, by simp, HP, HST⟩
  case round =>
    clear HP HST
    obtain ⟨rem, done, rfl, hrs, hd40, HP, HST⟩ := hrel
    obtain ⟨a4, c4, rfl⟩ : ∃ a4 c4, u4 = .slice a4 done.length c4 := by
      rcases (yy HST).row.2 with ⟨h1, h0⟩ | ⟨g, c', cur, e, _⟩
      · exact ⟨none, 0, by rw [h1, h0]⟩
      · exact ⟨_, _, e⟩
    by_cases hr0 : rem = ⟨#[]⟩
    · subst hr0
      have HR := yz (yy HG done (part_end (yy HP)))
      have r0 := (yy HST).out.cell 0 _ rfl
      have r1 := (yy HST).out.cell 1 _ rfl
      have r2 := (yy HST).out.cell 2 _ rfl
      have f0 := (yy HST).out.free 0
      have f1 := (yy HST).out.free 1
      have f2 := (yy HST).out.free 2
      go_wp2
      refine bodyPost_ret (v := .tuple #[.slice a4 done.length c4, .agg #[.string ⟨#[]⟩, .int .i64 0, .int .i64 0]]) ?_ rfl ⟨⟨_, by rw [(yy HR).2.1, (yy HR).2.2], ?_⟩, ?_⟩
      · refine res_rd _ _ w.heap.size _ _ _ rfl rfl ?_
        exact (((yy HST).out.set 0 _).set 1 _).set 2 _
      · rw [(yy HR).1]
        refine own_lowD (B := w.heap.size + 1) ?_ (by omega)
        iterate 3 (refine own_offD ?_ (Nat.lt_succ_self w.heap.size) _ _)
        exact (yy HST).row
      · iterate 3 (refine Below.setCell ?_ (Nat.le_refl w.heap.size) _)
        exact (yy HST).bel
    · have hne : (rem.toList == []) = false := strL_ne (l := []) hr0
      have hne2 : rem.data.toList ≠ [] := fun e => hr0 (ByteArray.ext (by have := congrArg List.toArray e; simpa using this))
      obtain ⟨n, hn⟩ : ∃ n, done.length = n := ⟨_, rfl⟩
      have HN := yz hn
      rw [hn] at hd40 ⊢
      clear hn
      have cC := yz (cut_any rem 10 wr hrs ((yy HM).kept (yy HST).bel))
      by_cases h10 : (10 : UInt8) ∈ rem.data.toList
      · obtain ⟨a, b, hab, ha⟩ := first_of h10
        rw [hab] at HP
        rw [hab, cut_hit ha] at cC
        dsimp only at cC
        have hsz : a.length + 1 + b.length = rem.size := by rw [← len_size, hab]; simp; omega
        obtain ⟨ab, hab2⟩ : ∃ ab : ByteArray, (⟨a.toArray⟩ : ByteArray) = ab := ⟨_, rfl⟩
        obtain ⟨bb, hbb⟩ : ∃ bb : ByteArray, (⟨b.toArray⟩ : ByteArray) = bb := ⟨_, rfl⟩
        have hA : ab.data.toList = a := by rw [← hab2]
        have hBB : bb.data.toList = b := by rw [← hbb]
        have has : ab.size ≤ 8000 := by rw [← len_size, hA]; omega
        have hbs : bb.size < rem.size := by rw [← len_size, hBB]; omega
        unfold strB at cC
        rw [hab2, hbb] at cC
        have HA := yz hA
        have HBB := yz hBB
        clear hab hab2 hbb hsz h10 hA hBB hne2
        go_wp2_with fail
        refine (yy cC).mono ?_
        rintro e W1 ⟨rfl, hx⟩
        have HST1 := yz ((yy HST).kept hx)
        clear hx HST cC
        have cR := yz (readLine_any ab W1 has ((yy HM).kept (yy HST1).bel))
        go_wp2_with fail
        refine (yy cR).mono ?_
        rintro e W2 ⟨he, hx⟩
        have HST2 := yz ((yy HST1).kept hx)
        clear hx HST1 cR
        unfold RlEnd at he
        rw [yy HA] at he
        rcases he with ⟨l, hl, hlk, rfl⟩ | ⟨hl, f, t, nn, hf, rfl⟩
        · obtain ⟨tb, htb⟩ : ∃ tb : ByteArray, (⟨l.t.toArray⟩ : ByteArray) = tb := ⟨_, rfl⟩
          have HTB : Hid (lnC l = [.func (.func (doesF l.k)) #[] #[], .string tb, .int .i64 l.n]) := yz (by unfold lnC strB fnV; rw [htb])
          unfold strB fnV
          rw [htb]
          obtain ⟨ln, hln⟩ : ∃ ln, l.n = ln := ⟨_, rfl⟩
          obtain ⟨df, hdf⟩ : ∃ df, doesF l.k = df := ⟨_, rfl⟩
          rw [hln, hdf] at HTB ⊢
          clear htb hln hdf
          have Z := below1 W2 (.cells #[.func (.func df) #[] #[], .string tb, .int .i64 ln] 66)
          have HST3 := yz ((yy HST2).kept Z)
          have D3 := yz (blk_new W2 [.func (.func df) #[] #[], .string tb, .int .i64 ln] 66)
          clear Z HST2
          go_upto_region 7 with fail
          generalize W2.alloc (.cells #[.func (.func df) #[] #[], .string tb, .int .i64 ln] 66) = W3 at *
          generalize W2.heap.size = lb at *
          by_cases h40 : n = 40
          · subst h40
            have HR := yz (yy HFT done.length (part_full ha (yy HP) hl (by rw [yy HN]; omega)))
            rw [yy HN] at HR
            have r0 := (yy HST3).out.cell 0 _ rfl
            have r1 := (yy HST3).out.cell 1 _ rfl
            have r2 := (yy HST3).out.cell 2 _ rfl
            have f0 := (yy HST3).out.free 0
            have f1 := (yy HST3).out.free 1
            have f2 := (yy HST3).out.free 2
            go_wp2
            refine bodyPost_ret (v := .tuple #[.slice none 0 0, .agg #[.string ⟨#[]⟩, .int .i64 40, .int .i64 3]]) ?_ rfl ⟨⟨_, by rw [(yy HR).2.1, (yy HR).2.2]; rfl, by rw [(yy HR).1]; exact World.ownsRow_nil _ _ _ _⟩, ?_⟩
            · refine res_rd _ _ w.heap.size _ _ _ rfl rfl ?_
              exact (((yy HST3).out.set 0 _).set 1 _).set 2 _
            · iterate 3 (refine Below.setCell ?_ (Nat.le_refl w.heap.size) _)
              exact (yy HST3).bel
          · have h40' : ((n : Int) == 40) = false := by simpa using (show (n : Int) ≠ 40 by omega)
            have HP2 : Hid (partP s (done ++ [l]) bb.data.toList) := yz (by rw [yy HBB]; exact part_next ha (yy HP) hl (by rw [yy HN]; omega))
            obtain ⟨d0, d1, d2⟩ := bcs3 (yy D3)
            have Z1 := below1 W3 (.cells #[.func (.func df) #[] #[], .string tb, .int .i64 ln] 66)
            have ST4 := (yy HST3).kept Z1
            have hown := ST4.row
            rw [yy HN] at hown
            clear Z1 HST3 HP
            go_wp2_with (at_builtin; refine wpList_append_own _ rfl _ _ 32 rfl (w.heap.size + 1) 66 i0 (.agg #[.nilFunc, .string ⟨#[]⟩, .int .i64 0]) 3 32 Tryz.underlying32 hinf hz0 hz1 hz2 rfl (by decide) _ _ _ rfl hown ⟨W3.heap.size, 0, none⟩ 1 1 [.func (.func df) #[] #[], .string tb, .int .i64 ln] rfl rfl ?d2 (fun u hu => by simp at hu; rcases hu with rfl | rfl | rfl <;> rfl) ?d3 ?d4 ?d5 ?_)
            case d2 => exact new_listD _ _ _
            case d3 => omega
            case d4 => omega
            case d5 => exact ST4.low
            intro v7 V7 hown7 hgrow7 _
            have HST7 : Hid (RdSt w V7 v7 (done ++ [l])) := yz ⟨(hgrow7.block w.heap.size ST4.out.lt (fun e => by have := (hown.lt _ e.symm).1; omega)).trans ST4.out, by rw [flatLn_snoc, yy HTB, List.length_append, yy HN]; exact hown7, belowB ST4.bel hgrow7 (by have := ST4.low; omega) (fun g e => by have := (hown.lt _ e).1; omega), Nat.le_trans ST4.low hgrow7.size⟩
            clear hown7 hgrow7 hown ST4 d0 d1 d2 D3
            go_wp2_with fail
            go_roundw
            case rel => exact ⟨bb, done ++ [l], rfl, by omega, by rw [List.length_append, yy HN]; show n + 1 ≤ 40; omega, HP2, HST7⟩
            case measure => show bb.size < rem.size; exact hbs
        · have HR := yz (yy HFT done.length (part_bad ha (yy HP) hl))
          rw [yy HN] at HR
          rcases hf with rfl | ⟨x, rfl⟩
          · skip
            have Z := below1 W2 (.cells #[.nilFunc, .string t, .int .i64 nn] 66)
            have HST3 := yz ((yy HST2).kept Z)
            clear Z HST2
            go_upto_region 7 with fail
            generalize W2.alloc (.cells #[.nilFunc, .string t, .int .i64 nn] 66) = W3 at *
            generalize W2.heap.size = lb at *
            have r0 := (yy HST3).out.cell 0 _ rfl
            have r1 := (yy HST3).out.cell 1 _ rfl
            have r2 := (yy HST3).out.cell 2 _ rfl
            have f0 := (yy HST3).out.free 0
            have f1 := (yy HST3).out.free 1
            have f2 := (yy HST3).out.free 2
            go_wp2
            refine bodyPost_ret (v := .tuple #[.slice none 0 0, .agg #[.string ⟨#[]⟩, .int .i64 n, .int .i64 3]]) ?_ rfl ⟨⟨_, by rw [(yy HR).2.1, (yy HR).2.2], by rw [(yy HR).1]; exact World.ownsRow_nil _ _ _ _⟩, ?_⟩
            · refine res_rd _ _ w.heap.size _ _ _ rfl rfl ?_
              exact (((yy HST3).out.set 0 _).set 1 _).set 2 _
            · iterate 3 (refine Below.setCell ?_ (Nat.le_refl w.heap.size) _)
              exact (yy HST3).bel
          · unfold fnV
            have Z := below1 W2 (.cells #[.func (.func x) #[] #[], .string t, .int .i64 nn] 66)
            have HST3 := yz ((yy HST2).kept Z)
            clear Z HST2
            go_upto_region 7 with fail
            generalize W2.alloc (.cells #[.func (.func x) #[] #[], .string t, .int .i64 nn] 66) = W3 at *
            generalize W2.heap.size = lb at *
            have r0 := (yy HST3).out.cell 0 _ rfl
            have r1 := (yy HST3).out.cell 1 _ rfl
            have r2 := (yy HST3).out.cell 2 _ rfl
            have f0 := (yy HST3).out.free 0
            have f1 := (yy HST3).out.free 1
            have f2 := (yy HST3).out.free 2
            go_wp2
            refine bodyPost_ret (v := .tuple #[.slice none 0 0, .agg #[.string ⟨#[]⟩, .int .i64 n, .int .i64 3]]) ?_ rfl ⟨⟨_, by rw [(yy HR).2.1, (yy HR).2.2], by rw [(yy HR).1]; exact World.ownsRow_nil _ _ _ _⟩, ?_⟩
            · refine res_rd _ _ w.heap.size _ _ _ rfl rfl ?_
              exact (((yy HST3).out.set 0 _).set 1 _).set 2 _
            · iterate 3 (refine Below.setCell ?_ (Nat.le_refl w.heap.size) _)
              exact (yy HST3).bel
      · have HR := yz (yy HFT done.length (part_open h10 hne2 (yy HP)))
        rw [yy HN] at HR
        rw [cut_miss h10] at cC
        dsimp only at cC
        unfold strB at cC
        rw [show (⟨rem.data.toList.toArray⟩ : ByteArray) = rem from ByteArray.ext (by simp)] at cC
        clear HP HFT HG
        go_wp2_with fail
        refine (yy cC).mono ?_
        rintro e W1 ⟨rfl, hx⟩
        have HST1 := yz ((yy HST).kept hx)
        clear hx HST cC
        have cR := yz (readLine_any rem W1 hrs ((yy HM).kept (yy HST1).bel))
        go_wp2_with fail
        refine (yy cR).mono ?_
        rintro e W2 ⟨he, hx⟩
        have HST2 := yz ((yy HST1).kept hx)
        clear hx HST1 cR
        rcases he with ⟨l, hl, hlk, rfl⟩ | ⟨hl, f, t, nn, hf, rfl⟩
        · obtain ⟨t, ht⟩ : ∃ tb : ByteArray, (⟨l.t.toArray⟩ : ByteArray) = tb := ⟨_, rfl⟩
          unfold strB fnV
          rw [ht]
          obtain ⟨nn, hln⟩ : ∃ ln, l.n = ln := ⟨_, rfl⟩
          obtain ⟨df, hdf⟩ : ∃ df, doesF l.k = df := ⟨_, rfl⟩
          rw [hln, hdf]
          clear ht hln hdf
          have Z := below1 W2 (.cells #[.func (.func df) #[] #[], .string t, .int .i64 nn] 66)
          have HST3 := yz ((yy HST2).kept Z)
          clear Z HST2
          go_upto_region 7 with fail
          generalize W2.alloc (.cells #[.func (.func df) #[] #[], .string t, .int .i64 nn] 66) = W3 at *
          generalize W2.heap.size = lb at *
          have r0 := (yy HST3).out.cell 0 _ rfl
          have r1 := (yy HST3).out.cell 1 _ rfl
          have r2 := (yy HST3).out.cell 2 _ rfl
          have f0 := (yy HST3).out.free 0
          have f1 := (yy HST3).out.free 1
          have f2 := (yy HST3).out.free 2
          go_wp2
          refine bodyPost_ret (v := .tuple #[.slice none 0 0, .agg #[.string ⟨#[]⟩, .int .i64 n, .int .i64 3]]) ?_ rfl ⟨⟨_, by rw [(yy HR).2.1, (yy HR).2.2], by rw [(yy HR).1]; exact World.ownsRow_nil _ _ _ _⟩, ?_⟩
          · refine res_rd _ _ w.heap.size _ _ _ rfl rfl ?_
            exact (((yy HST3).out.set 0 _).set 1 _).set 2 _
          · iterate 3 (refine Below.setCell ?_ (Nat.le_refl w.heap.size) _)
            exact (yy HST3).bel
        · rcases hf with rfl | ⟨x, rfl⟩
          · skip
            have Z := below1 W2 (.cells #[.nilFunc, .string t, .int .i64 nn] 66)
            have HST3 := yz ((yy HST2).kept Z)
            clear Z HST2
            go_upto_region 7 with fail
            generalize W2.alloc (.cells #[.nilFunc, .string t, .int .i64 nn] 66) = W3 at *
            generalize W2.heap.size = lb at *
            have r0 := (yy HST3).out.cell 0 _ rfl
            have r1 := (yy HST3).out.cell 1 _ rfl
            have r2 := (yy HST3).out.cell 2 _ rfl
            have f0 := (yy HST3).out.free 0
            have f1 := (yy HST3).out.free 1
            have f2 := (yy HST3).out.free 2
            go_wp2
            refine bodyPost_ret (v := .tuple #[.slice none 0 0, .agg #[.string ⟨#[]⟩, .int .i64 n, .int .i64 3]]) ?_ rfl ⟨⟨_, by rw [(yy HR).2.1, (yy HR).2.2], by rw [(yy HR).1]; exact World.ownsRow_nil _ _ _ _⟩, ?_⟩
            · refine res_rd _ _ w.heap.size _ _ _ rfl rfl ?_
              exact (((yy HST3).out.set 0 _).set 1 _).set 2 _
            · iterate 3 (refine Below.setCell ?_ (Nat.le_refl w.heap.size) _)
              exact (yy HST3).bel
          · unfold fnV
            have Z := below1 W2 (.cells #[.func (.func x) #[] #[], .string t, .int .i64 nn] 66)
            have HST3 := yz ((yy HST2).kept Z)
            clear Z HST2
            go_upto_region 7 with fail
            generalize W2.alloc (.cells #[.func (.func x) #[] #[], .string t, .int .i64 nn] 66) = W3 at *
            generalize W2.heap.size = lb at *
            have r0 := (yy HST3).out.cell 0 _ rfl
            have r1 := (yy HST3).out.cell 1 _ rfl
            have r2 := (yy HST3).out.cell 2 _ rfl
            have f0 := (yy HST3).out.free 0
            have f1 := (yy HST3).out.free 1
            have f2 := (yy HST3).out.free 2
            go_wp2
            refine bodyPost_ret (v := .tuple #[.slice none 0 0, .agg #[.string ⟨#[]⟩, .int .i64 n, .int .i64 3]]) ?_ rfl ⟨⟨_, by rw [(yy HR).2.1, (yy HR).2.2], by rw [(yy HR).1]; exact World.ownsRow_nil _ _ _ _⟩, ?_⟩
            · refine res_rd _ _ w.heap.size _ _ _ rfl rfl ?_
              exact (((yy HST3).out.set 0 _).set 1 _).set 2 _
            · iterate 3 (refine Below.setCell ?_ (Nat.le_refl w.heap.size) _)
              exact (yy HST3).bel
end Go.Proofs.YtofpjlhoppofdaaGreatDoor
namespace Go.Proofs.YtofpjlhoppofdaaGreatDoor
open Go.RowKit
set_option linter.unusedVariables false
def deskL : List St := [(1, 0, 0, 1), (2, 1, 0, 2), (3, 0, 1, 3), (4, -1, -1, 2), (5, 2, 1, 5), (6, 1, 0, 0)]
def deskN : List Int := [1, 0, 0, 1, 2, 1, 0, 2, 3, 0, 1, 3, 4, -1, -1, 2, 5, 2, 1, 5, 6, 1, 0, 0]
def deskO : Obj := .cells #[.int .i64 1, .int .i64 0, .int .i64 0, .int .i64 1, .int .i64 2, .int .i64 1, .int .i64 0, .int .i64 2, .int .i64 3, .int .i64 0, .int .i64 1, .int .i64 3, .int .i64 4, .int .i64 (-1), .int .i64 (-1), .int .i64 2, .int .i64 5, .int .i64 2, .int .i64 1, .int .i64 5, .int .i64 6, .int .i64 1, .int .i64 0, .int .i64 0] 78
theorem deskRow (w : World) : RowAt (w.alloc deskO) 78 w.heap.size (6 * 4) (fun j => deskN.getD j 0) := by
  refine ⟨_, heap_alloc_new w deskO, fun j hj => ?_⟩
  match j, hj with
  | 0, _ => rfl
  | 1, _ => rfl
  | 2, _ => rfl
  | 3, _ => rfl
  | 4, _ => rfl
  | 5, _ => rfl
  | 6, _ => rfl
  | 7, _ => rfl
  | 8, _ => rfl
  | 9, _ => rfl
  | 10, _ => rfl
  | 11, _ => rfl
  | 12, _ => rfl
  | 13, _ => rfl
  | 14, _ => rfl
  | 15, _ => rfl
  | 16, _ => rfl
  | 17, _ => rfl
  | 18, _ => rfl
  | 19, _ => rfl
  | 20, _ => rfl
  | 21, _ => rfl
  | 22, _ => rfl
  | 23, _ => rfl
  | k + 24, h => exact absurd h (by omega)
theorem deskStars {w : World} {g : Nat} (h : RowAt w 78 g (6 * 4) (fun j => deskN.getD j 0)) : Stars w (some ⟨g, 0, none⟩) deskL 6 := by
  refine .inr ⟨g, 0, rfl, h.lt, fun i hi => ?_⟩
  rw [Nat.zero_add]
  refine ⟨?_, ?_, ?_, ?_⟩
  · rw [h.cell (j := i * 4) (by omega)]
    match i, hi with
    | 0, _ | 1, _ | 2, _ | 3, _ | 4, _ | 5, _ => rfl
  · rw [h.cell (j := i * 4 + 1) (by omega)]
    match i, hi with
    | 0, _ | 1, _ | 2, _ | 3, _ | 4, _ | 5, _ => rfl
  · rw [h.cell (j := i * 4 + 2) (by omega)]
    match i, hi with
    | 0, _ | 1, _ | 2, _ | 3, _ | 4, _ | 5, _ => rfl
  · rw [h.cell (j := i * 4 + 3) (by omega)]
    match i, hi with
    | 0, _ | 1, _ | 2, _ | 3, _ | 4, _ | 5, _ => rfl
set_option maxHeartbeats 2000000 in
set_option maxRecDepth 100000 in
theorem specDesk_any (w : World) : Calls Tryz.prog 19 #[] w fun e w' => e = .returned (.slice (some ⟨w.heap.size, 0, none⟩) 6 6) ∧ w' = w.alloc deskO := by
  go_enter Tryz.func19, Tryz.ntmps19
  go_wp2
  go_ret
  exact ⟨rfl, rfl⟩
end Go.Proofs.YtofpjlhoppofdaaGreatDoor
namespace Go.Proofs.YtofpjlhoppofdaaGreatDoor
open Go.RowKit Go.Sort
set_option linter.unusedVariables false
def newOk (L : List St) (lim : Int) : Bool := skyB L && spanB 1 5 lim
def newT (L : List St) (lim : Int) : Tk := if 400 < L.length then zeroK else if newOk L lim = true then ⟨L, lim, 0, 0, 0, 0, 0, 0, 0⟩ else zeroK
def newC (L : List St) (lim : Int) : Int := if 400 < L.length then 2 else if newOk L lim = true then 0 else 1
set_option maxHeartbeats 2000000 in
set_option maxRecDepth 100000 in
theorem specNew_any (L : List St) (lim : Int) (b o c : Nat) (w : World) (hn : L.length ≤ 1048576) (hS : Stars w (some ⟨b, o, none⟩) L L.length) :
    Calls Tryz.prog 18 #[.slice (some ⟨b, o, none⟩) L.length c, .int .i64 lim] w fun e w' => OutT w' w.heap.size (newT L lim) (newC L lim) e ∧ Below w.heap.size w w' := by
  have B0 := below1 w (.cells #[.slice none 0 0, .int .i64 0, .int .i64 0, .int .i64 0, .int .i64 0, .int .i64 0, .int .i64 0, .int .i64 0, .int .i64 0, .int .i64 0] 50)
  have R0 := tkO_new w (.slice none 0 0) 0 0 0 0 0 0 0 0 0 50
  have G0 := freeK_new w #[.slice none 0 0, .int .i64 0, .int .i64 0, .int .i64 0, .int .i64 0, .int .i64 0, .int .i64 0, .int .i64 0, .int .i64 0, .int .i64 0] 50
  have S0 := hS.kept B0
  have hsz : w.heap.size + 1 ≤ (w.alloc (.cells #[.slice none 0 0, .int .i64 0, .int .i64 0, .int .i64 0, .int .i64 0, .int .i64 0, .int .i64 0, .int .i64 0, .int .i64 0, .int .i64 0] 50)).heap.size := by simp
  have cR := yz (fun W h => specSky_any L (some ⟨b, o, none⟩) c W hn h)
  have HB := yz B0
  have HR := yz R0
  have HG := yz G0
  have HS := yz S0
  clear B0 R0 G0 S0 hS
  by_cases h4 : 400 < L.length
  · have h4' : (400 : Int) < (L.length : Int) := by omega
    have HO1 : Hid (newT L lim = zeroK) := yz (by unfold newT; rw [if_pos h4])
    have HO2 : Hid (newC L lim = 2) := yz (by unfold newC; rw [if_pos h4])
    clear h4
    go_enter Tryz.func18, Tryz.ntmps18
    go_wp2_with fail
    refine (l07Ill_any 2 _).mono ?_
    rintro e w2 ⟨rfl, hx⟩
    have B2 := yz (below_call (yy HB) hx)
    have R2 := yz ((yy HR).kept hx)
    have G2 := yz ((yy HG).kept (yy HR).lt hx)
    clear hx HB HR HG
    obtain ⟨⟨r0, r1, r2, r3, r4, r5, r6, r7, r8⟩, r9⟩ := yy R2
    have g0 := yy G2 0
    have g1 := yy G2 1
    have g2 := yy G2 2
    have g3 := yy G2 3
    have g4 := yy G2 4
    have g5 := yy G2 5
    have g6 := yy G2 6
    have g7 := yy G2 7
    have g8 := yy G2 8
    have g9 := yy G2 9
    go_wp2_with fail
    clear r0 r1 r2 r3 r4 r5 r6 r7 r8 r9 g0 g1 g2 g3 g4 g5 g6 g7 g8 g9
    refine bodyPost_ret (v := .agg #[.slice none 0 0, .int .i64 0, .int .i64 0, .int .i64 0, .int .i64 0, .int .i64 0, .int .i64 0, .int .i64 0, .int .i64 0, .int .i64 2]) ?_ rfl ⟨?_, ?_⟩
    · refine res_snew _ _ w.heap.size _ 0 0 0 0 0 0 0 0 2 rfl ?_
      exact tkO_set10 (yy R2) _ _ _ _ _ _ _ _ _ _
    · rw [yy HO1, yy HO2]
      exact outT_ill _ _ _
    · iterate 10 (refine belowSet ?_ (Nat.le_refl w.heap.size) _ _)
      exact yy B2
  have h4' : ¬ (400 : Int) < (L.length : Int) := by omega
  go_enter Tryz.func18, Tryz.ntmps18
  go_wp2_with fail
  refine (yy cR _ (yy HS)).mono ?_
  rintro e w1 ⟨rfl, hx⟩
  have B1 := yz (below_call (yy HB) hx)
  have R1 := yz ((yy HR).kept hx)
  have G1 := yz ((yy HG).kept (yy HR).lt hx)
  have S1 := yz ((yy HS).kept hx)
  have hsz1 : w.heap.size + 1 ≤ w1.heap.size := Nat.le_trans hsz hx.size
  clear hx HB HR HG HS hsz cR
  have hill : newOk L lim = false → Hid (newT L lim = zeroK) ∧ Hid (newC L lim = 1) := fun h => ⟨yz (by unfold newT; rw [if_neg h4, h]; rfl), yz (by unfold newC; rw [if_neg h4, h]; rfl)⟩
  cases hk : skyB L
  · obtain ⟨HO1, HO2⟩ := hill (by unfold newOk; rw [hk]; rfl)
    clear hill
    go_wp2_with fail
    refine (l07Ill_any 1 _).mono ?_
    rintro e w2 ⟨rfl, hx⟩
    have B2 := yz (below_call (yy B1) hx)
    have R2 := yz ((yy R1).kept hx)
    have G2 := yz ((yy G1).kept (yy R1).lt hx)
    clear hx B1 R1 G1
    obtain ⟨⟨r0, r1, r2, r3, r4, r5, r6, r7, r8⟩, r9⟩ := yy R2
    have g0 := yy G2 0
    have g1 := yy G2 1
    have g2 := yy G2 2
    have g3 := yy G2 3
    have g4 := yy G2 4
    have g5 := yy G2 5
    have g6 := yy G2 6
    have g7 := yy G2 7
    have g8 := yy G2 8
    have g9 := yy G2 9
    go_wp2_with fail
    clear r0 r1 r2 r3 r4 r5 r6 r7 r8 r9 g0 g1 g2 g3 g4 g5 g6 g7 g8 g9
    refine bodyPost_ret (v := .agg #[.slice none 0 0, .int .i64 0, .int .i64 0, .int .i64 0, .int .i64 0, .int .i64 0, .int .i64 0, .int .i64 0, .int .i64 0, .int .i64 1]) ?_ rfl ⟨?_, ?_⟩
    · refine res_snew _ _ w.heap.size _ 0 0 0 0 0 0 0 0 1 rfl ?_
      exact tkO_set10 (yy R2) _ _ _ _ _ _ _ _ _ _
    · rw [yy HO1, yy HO2]
      exact outT_ill _ _ _
    · iterate 10 (refine belowSet ?_ (Nat.le_refl w.heap.size) _ _)
      exact yy B2
  go_wp2_with fail
  refine (l02Span_any lim 1 5 _).mono ?_
  rintro e w2 ⟨rfl, hw⟩
  rw [hw]
  clear hw w2
  cases hl : spanB 1 5 lim
  · obtain ⟨HO1, HO2⟩ := hill (by unfold newOk; rw [hk, hl]; rfl)
    clear hill
    go_wp2_with fail
    refine (l07Ill_any 1 _).mono ?_
    rintro e w2 ⟨rfl, hx⟩
    have B2 := yz (below_call (yy B1) hx)
    have R2 := yz ((yy R1).kept hx)
    have G2 := yz ((yy G1).kept (yy R1).lt hx)
    clear hx B1 R1 G1
    obtain ⟨⟨r0, r1, r2, r3, r4, r5, r6, r7, r8⟩, r9⟩ := yy R2
    have g0 := yy G2 0
    have g1 := yy G2 1
    have g2 := yy G2 2
    have g3 := yy G2 3
    have g4 := yy G2 4
    have g5 := yy G2 5
    have g6 := yy G2 6
    have g7 := yy G2 7
    have g8 := yy G2 8
    have g9 := yy G2 9
    go_wp2_with fail
    clear r0 r1 r2 r3 r4 r5 r6 r7 r8 r9 g0 g1 g2 g3 g4 g5 g6 g7 g8 g9
    refine bodyPost_ret (v := .agg #[.slice none 0 0, .int .i64 0, .int .i64 0, .int .i64 0, .int .i64 0, .int .i64 0, .int .i64 0, .int .i64 0, .int .i64 0, .int .i64 1]) ?_ rfl ⟨?_, ?_⟩
    · refine res_snew _ _ w.heap.size _ 0 0 0 0 0 0 0 0 1 rfl ?_
      exact tkO_set10 (yy R2) _ _ _ _ _ _ _ _ _ _
    · rw [yy HO1, yy HO2]
      exact outT_ill _ _ _
    · iterate 10 (refine belowSet ?_ (Nat.le_refl w.heap.size) _ _)
      exact yy B2
  have HO1 : Hid (newT L lim = ⟨L, lim, 0, 0, 0, 0, 0, 0, 0⟩) := yz (by unfold newT newOk; rw [if_neg h4, hk, hl]; rfl)
  have HO2 : Hid (newC L lim = 0) := yz (by unfold newC newOk; rw [if_neg h4, hk, hl]; rfl)
  clear hill hk hl h4
  have Z1 := below1 w1 (.cells #[] 78)
  have S2 := (yy S1).kept Z1
  have B2 := yz (below_call (yy B1) Z1)
  have R2 := yz ((yy R1).kept Z1)
  have G2 := yz ((yy G1).kept (yy R1).lt Z1)
  have N2 := ownS_none w1 (w.heap.size + 1) hsz1
  have hcells := yz (stars_cells S2)
  have HN := yz N2
  clear Z1 S2 B1 R1 G1 S1 N2
  obtain ⟨i0, hinf, hz0, hz1, hz2⟩ := info_parts info_star
  go_wp2_with (at_builtin; refine wpList_append_own _ rfl _ _ 44 rfl (w.heap.size + 1) 78 i0 (.agg #[.int .i64 0, .int .i64 0, .int .i64 0, .int .i64 0]) 4 32 Tryz.underlying44 hinf hz0 hz1 hz2 rfl (by decide) _ _ _ rfl (yy HN) ⟨b, o, none⟩ L.length c (flatSt L) rfl (flatSt_len L) (yy hcells) (fun u hu => flatSt_one hu) ?d1 ?d2 ?d3 ?_)
  case d1 => have : 1048576 ≤ maxLen := by decide +kernel
             omega
  case d2 => omega
  case d3 => simp; omega
  intro v' w3 ho hg _
  obtain ⟨a, cap, rfl, hC⟩ := copied_form ho
  have hne : ∀ g, Value.ownBlock (.slice (some ⟨w1.heap.size, 0, none⟩) 0 0) = some g → w.heap.size + 1 ≤ g := fun g e => by simp [Value.ownBlock] at e; omega
  have B3 := yz (belowR (yy B2) hg (yy B2).size (fun g e => by have := hne g e; omega))
  have R3 := yz ((yy R2).grown hg (fun e => by have := hne _ e.symm; omega))
  have G3 := yz ((yy G2).grown (yy R2).lt hg (fun e => by have := hne _ e.symm; omega))
  have C3 := yz hC
  clear ho hg hC hne B2 R2 G2 HN hcells
  obtain ⟨⟨r0, r1, r2, r3, r4, r5, r6, r7, r8⟩, r9⟩ := yy R3
  have g0 := yy G3 0
  have g1 := yy G3 1
  have g2 := yy G3 2
  have g3 := yy G3 3
  have g4 := yy G3 4
  have g5 := yy G3 5
  have g6 := yy G3 6
  have g7 := yy G3 7
  have g8 := yy G3 8
  have g9 := yy G3 9
  go_wp2_with fail
  clear r0 r1 r2 r3 r4 r5 r6 r7 r8 r9 g0 g1 g2 g3 g4 g5 g6 g7 g8 g9
  refine bodyPost_ret (v := .agg #[.slice a L.length cap, .int .i64 lim, .int .i64 0, .int .i64 0, .int .i64 0, .int .i64 0, .int .i64 0, .int .i64 0, .int .i64 0, .int .i64 0]) ?_ rfl ⟨?_, ?_⟩
  · refine res_snew _ _ w.heap.size _ lim 0 0 0 0 0 0 0 0 rfl ?_
    exact tkO_set10 (yy R3) _ _ _ _ _ _ _ _ _ _
  · rw [yy HO1, yy HO2]
    refine ⟨a, cap, rfl, ?_⟩
    refine Copied.low (B := w.heap.size + 1) ?_ (by omega)
    iterate 10 (refine Copied.far ?_ (Nat.lt_succ_self w.heap.size) _ _)
    exact yy C3
  · iterate 10 (refine belowSet ?_ (Nat.le_refl w.heap.size) _ _)
    exact yy B3
end Go.Proofs.YtofpjlhoppofdaaGreatDoor
namespace Go.Proofs.YtofpjlhoppofdaaGreatDoor
open Go.RowKit Go.Sort
set_option linter.unusedVariables false
set_option linter.unusedSimpArgs false
def stD (p : (Tk × U4) × ByteArray) (l : Ln) : (Tk × U4) × ByteArray := ((lineD p.1 l).1, p.2 ++ ((lineD p.1 l).2 ++ ⟨#[10]⟩))
def desk0 : Tk × U4 := (newT deskL 2, (1, 0, 0, 0))
def runD (ls : List Ln) : (Tk × U4) × ByteArray := ls.foldl stD (desk0, ⟨#[]⟩)
def deskTx (s : ByteArray) : ByteArray := (runD (deskLs s)).2
theorem runD_snoc (ls : List Ln) (l : Ln) : runD (ls ++ [l]) = stD (runD ls) l := by unfold runD; rw [List.foldl_append]; rfl
theorem ok_desk0 : DeskOk desk0.1 := by
  unfold desk0 newT
  dsimp only
  split
  · exact ok_zero
  · split
    · exact ⟨by decide, by decide, by decide⟩
    · exact ok_zero
theorem pcs_short {c : UInt8} : ∀ {s p : List UInt8}, p ∈ pcs c s → p.length ≤ s.length
  | [], p, h => by unfold pcs at h; simp at h; rw [h]; exact Nat.le_refl _
  | x :: xs, p, h => by
    unfold pcs at h
    split at h
    · rcases List.mem_cons.1 h with h | h
      · rw [h]; exact Nat.zero_le _
      · exact Nat.le_succ_of_le (pcs_short h)
    · rcases List.mem_cons.1 h with h | h
      · rw [h]
        cases hp : pcs c xs with
        | nil => exact absurd hp (pcs_ne _ _)
        | cons q r => have := pcs_short (c := c) (s := xs) (p := q) (by rw [hp]; exact List.mem_cons_self ..); simp; exact this
      · exact Nat.le_succ_of_le (pcs_short (List.mem_of_mem_tail h))
theorem pcs_many (c : UInt8) : ∀ s : List UInt8, (pcs c s).length ≤ s.length + 1
  | [] => Nat.le_refl _
  | x :: xs => by
    have ih := pcs_many c xs
    have hn := pcs_ne c xs
    unfold pcs
    split
    · simp; exact ih
    · cases hp : pcs c xs with
      | nil => exact absurd hp hn
      | cons q r => rw [hp] at ih; simp at ih ⊢; omega
def leftP (s : ByteArray) (done : List Ln) : Prop := deskP s = match linesP done.length ((pcs 10 s.data.toList).drop done.length) with | .inl ls => .inl (done ++ ls) | .inr j => .inr j
theorem left_start (s : ByteArray) : leftP s [] := by
  unfold leftP deskP
  show linesP 0 (pcs 10 s.data.toList) = match linesP 0 (pcs 10 s.data.toList) with | .inl ls => .inl ([] ++ ls) | .inr j => .inr j
  cases linesP 0 (pcs 10 s.data.toList) <;> rfl
theorem left_end {s : ByteArray} {done : List Ln} (h : leftP s done) (hk : (pcs 10 s.data.toList).drop done.length = [[]]) : deskP s = .inl done := by
  unfold leftP at h
  rw [hk] at h
  rw [h]
  show (match (if ([] : List UInt8) = [] then (.inl [] : List Ln ⊕ Nat) else .inr done.length) with | .inl ls => (.inl (done ++ ls) : List Ln ⊕ Nat) | .inr j => .inr j) = _
  rw [if_pos rfl]
  simp
theorem left_open {s : ByteArray} {done : List Ln} {p : List UInt8} (h : leftP s done) (hp : p ≠ []) (hk : (pcs 10 s.data.toList).drop done.length = [p]) : deskP s = .inr done.length := by
  unfold leftP at h
  rw [hk] at h
  rw [h]
  show (match (if p = [] then (.inl [] : List Ln ⊕ Nat) else .inr done.length) with | .inl ls => (.inl (done ++ ls) : List Ln ⊕ Nat) | .inr j => .inr j) = _
  rw [if_neg hp]
theorem left_bad {s : ByteArray} {done : List Ln} {p q : List UInt8} {r : List (List UInt8)} (h : leftP s done) (hk : (pcs 10 s.data.toList).drop done.length = p :: q :: r) (hl : lineP p = none) : deskP s = .inr done.length := by
  unfold leftP at h
  rw [hk, linesP, hl] at h
  exact h
theorem left_full {s : ByteArray} {done : List Ln} {p q : List UInt8} {r : List (List UInt8)} {l : Ln} (h : leftP s done) (hk : (pcs 10 s.data.toList).drop done.length = p :: q :: r) (hl : lineP p = some l) (h40 : 40 ≤ done.length) : deskP s = .inr done.length := by
  unfold leftP at h
  rw [hk, linesP, hl] at h
  simp only [if_pos h40] at h
  exact h
theorem left_next {s : ByteArray} {done : List Ln} {p q : List UInt8} {r : List (List UInt8)} {l : Ln} (h : leftP s done) (hk : (pcs 10 s.data.toList).drop done.length = p :: q :: r) (hl : lineP p = some l) (h40 : ¬ 40 ≤ done.length) : leftP s (done ++ [l]) := by
  unfold leftP at h ⊢
  have e : (pcs 10 s.data.toList).drop (done ++ [l]).length = q :: r := by
    rw [List.length_append, ← List.drop_drop, hk]; rfl
  rw [e, h, hk, linesP, hl]
  simp only [if_neg h40]
  rw [List.length_append]
  show (match (match linesP (done.length + 1) (q :: r) with | .inl ls => (.inl (l :: ls) : List Ln ⊕ Nat) | .inr j => .inr j) with | .inl ls => (.inl (done ++ ls) : List Ln ⊕ Nat) | .inr j => .inr j) = match linesP (done.length + 1) (q :: r) with | .inl ls => (.inl ((done ++ [l]) ++ ls) : List Ln ⊕ Nat) | .inr j => .inr j
  cases linesP (done.length + 1) (q :: r) with
  | inl ls => simp
  | inr j => rfl
theorem strCells_app (a b : ByteArray) : Lib.strCells (a ++ b) = Lib.strCells a ++ Lib.strCells b := by unfold Lib.strCells; simp
theorem own_apart {w : World} {B B' m m' n n' : Nat} {t t' : TypeId} {v v' : Value} {xs xs' : List Value} (h : w.ownsRow B t m v n xs) (h' : w.ownsRow B' t' m' v' n' xs') (ht : t ≠ t') : v.ownBlock = none ∨ v.ownBlock ≠ v'.ownBlock := by
  rcases h.2 with ⟨rfl, _⟩ | ⟨g, cap, cur, rfl, _, hg, _⟩
  · exact .inl rfl
  · refine .inr (fun e => ?_)
    rcases h'.2 with ⟨rfl, _⟩ | ⟨g', cap', cur', rfl, _, hg', _⟩
    · cases e
    · obtain rfl : g = g' := Option.some.inj e
      rw [hg] at hg'
      injection hg' with e1
      injection e1 with _ e2
      exact ht e2
theorem own_blk {w : World} {B m n b : Nat} {t t' : TypeId} {v : Value} {xs cs : List Value} (h : w.ownsRow B t m v n xs) (h' : Blk w b cs t') (ht : t ≠ t') : v.ownBlock = none ∨ v.ownBlock ≠ some b := by
  rcases h.2 with ⟨rfl, _⟩ | ⟨g, cap, cur, rfl, _, hg, _⟩
  · exact .inl rfl
  · refine .inr (fun e => ?_)
    obtain rfl : g = b := Option.some.inj e
    have h2 : w.heap[g]? = some (.cells cs.toArray t') := h'
    rw [hg] at h2
    injection h2 with e1
    injection e1 with _ e2
    exact ht e2
theorem own_lt2 {w : World} {B m n : Nat} {t : TypeId} {v : Value} {xs : List Value} (h : w.ownsRow B t m v n xs) : ∀ g, v.ownBlock = some g → B ≤ g := by
  intro g e
  rcases h.2 with ⟨rfl, _⟩ | ⟨g', cap, cur, rfl, hb, hg, _⟩
  · cases e
  · obtain rfl : g' = g := Option.some.inj e
    exact hb
theorem lineP_k {r : List UInt8} {l : Ln} (h : lineP r = some l) : l.k ≤ 6 ∧ l.t.length ≤ r.length := by
  have hp : ∀ p ∈ pcs 32 r, p.length ≤ r.length := fun p hp => pcs_short hp
  unfold lineP at h
  split at h
  · cases h
  · rename_i w q e
    rw [e] at hp
    have T0 : ∀ {k : Nat}, k ≤ 6 → take0 k q = some l → l.k ≤ 6 ∧ l.t.length ≤ r.length := by
      intro k hk h
      unfold take0 at h
      split at h
      · injection h with h; subst h; exact ⟨hk, Nat.zero_le _⟩
      · cases h
    have T1 : ∀ {k : Nat}, k ≤ 6 → takeT k q = some l → l.k ≤ 6 ∧ l.t.length ≤ r.length := by
      intro k hk h
      unfold takeT at h
      split at h
      · split at h
        · cases h
        · injection h with h; subst h; exact ⟨hk, hp _ (by simp)⟩
      · cases h
    have T2 : ∀ {k : Nat}, k ≤ 6 → takeN k q = some l → l.k ≤ 6 ∧ l.t.length ≤ r.length := by
      intro k hk h
      unfold takeN at h
      split at h
      · split at h
        · injection h with h; subst h; exact ⟨hk, Nat.zero_le _⟩
        · cases h
      · cases h
    split at h
    · exact T0 (by decide) h
    split at h
    · exact T1 (by decide) h
    split at h
    · exact T2 (by decide) h
    split at h
    · exact T1 (by decide) h
    split at h
    · exact T0 (by decide) h
    split at h
    · exact T2 (by decide) h
    split at h
    · exact T0 (by decide) h
    · cases h
theorem specLine_any (w : World) (db B : Nat) (d : Tk × U4) (a : Option Addr) (cap : Nat) (l : Ln) (hl : l.k ≤ 6) (hk : DeskOk d.1) (hs : l.t.length ≤ 8000) (hB : B ≤ w.heap.size) (hD : DeskAt w db B d.1 d.2 a cap) :
    Calls Tryz.prog 21 #[.pointer (some ⟨db, 0, none⟩), .agg #[strB (wordK l.k), strB l.t, .int .i64 l.n]] w fun e w' => e = .returned (.string (lineD d l).2) ∧ (∃ a' cap', DeskAt w' db B (lineD d l).1.1 (lineD d l).1.2 a' cap') ∧ w.grownBy w' (some db) := by
  obtain ⟨k, t, n⟩ := l
  obtain ⟨tk, u⟩ := d
  have hs' : (⟨t.toArray⟩ : ByteArray).size ≤ 9223372036854775807 := by show t.toArray.size ≤ _; simp at hs ⊢; omega
  match k, hl with
  | 0, _ => exact specLine_Blind w db B tk u a cap ⟨t.toArray⟩ n hk hs' hB hD
  | 1, _ => exact specLine_Drift w db B tk u a cap ⟨t.toArray⟩ n hk hs' hB hD
  | 2, _ => exact specLine_Ids w db B tk u a cap ⟨t.toArray⟩ n hk hs' hB hD
  | 3, _ => exact specLine_Move w db B tk u a cap ⟨t.toArray⟩ n hk hs' hB hD
  | 4, _ => exact specLine_Reset w db B tk u a cap ⟨t.toArray⟩ n hk hs' hB hD
  | 5, _ => exact specLine_See w db B tk u a cap ⟨t.toArray⟩ n hk hs' hB hD
  | 6, _ => exact specLine_State w db B tk u a cap ⟨t.toArray⟩ n hk hs' hB hD
  | k + 7, h => exact absurd h (by simp)
end Go.Proofs.YtofpjlhoppofdaaGreatDoor
