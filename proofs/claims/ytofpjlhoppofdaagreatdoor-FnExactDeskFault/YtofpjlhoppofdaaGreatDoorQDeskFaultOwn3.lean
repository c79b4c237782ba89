/- Several texts in one: IdM, MaM, DsN, Bytes, DecT, DsM, DsA, DsG, SeenB, SeenC, ModM. -/
import Derived.Test.YtofpjlhoppofdaaGreatDoorRows
import Derived.WalkKit
import Derived.WalkSpells
import Derived.WalkLawsBesides
import Derived.Lib.BufferWrite
import Derived.Lib.SlBytesRow
import Derived.Lib.ItoaMem
import Derived.Lib.ItoaNum
import Derived.Lib.Split
import Derived.Lib.SplitLaws
import Derived.Lib.IndexLaws
import Derived.Lib.IndexBytes
import Derived.Test.YtofpjlhoppofdaaGreatDoorQDeskFaultOwn1
import Derived.Test.YtofpjlhoppofdaaGreatDoorQDeskFaultOwn2
namespace Go.Proofs.YtofpjlhoppofdaaGreatDoor
open Go.RowKit
set_option linter.unusedVariables false
abbrev D3 := Int × Int × Int
def vA (L : List D3) (i : Nat) : D3 := L.getD i (0, 0, 0)
def wideD (v : D3) : Bool := wideB v.1 v.2.1 v.2.2
def sameD (p q : D3) : Bool := sameB p.1 p.2.1 p.2.2 q.1 q.2.1 q.2.2
def amongB (L : List D3) (v : D3) (n : Nat) : Bool := (List.range n).any fun j => sameD v (vA L j)
def asideTo (L : List D3) (v : D3) (k : Nat) : Prop := ∀ j, j < k → sameD v (vA L j) = false
def okV (L : List D3) (i : Nat) : Bool := wideD (vA L i) && !amongB L (vA L i) i
def okVTo (L : List D3) (k : Nat) : Prop := ∀ j, j < k → okV L j = true
def spotsB (L : List D3) : Bool := decide (L.length ≤ 6) && (List.range L.length).all (okV L)
theorem among_no {L : List D3} {v : D3} {n : Nat} (h : asideTo L v n) : amongB L v n = false := by
  unfold amongB
  rw [List.any_eq_false]
  intro j hj
  rw [h j (List.mem_range.1 hj)]
  simp
theorem among_yes {L : List D3} {v : D3} {n j : Nat} (hj : j < n) (h : sameD v (vA L j) = true) : amongB L v n = true := by
  unfold amongB
  rw [List.any_eq_true]
  exact ⟨j, List.mem_range.2 hj, h⟩
theorem aside_step {L : List D3} {v : D3} {k : Nat} (h : asideTo L v k) (h1 : sameD v (vA L k) = false) : asideTo L v (k + 1) := by
  intro j hj
  by_cases e : j = k
  · rw [e]; exact h1
  · exact h j (by omega)
theorem okV_step {L : List D3} {k : Nat} (h : okVTo L k) (h1 : okV L k = true) : okVTo L (k + 1) := by
  intro j hj
  by_cases e : j = k
  · rw [e]; exact h1
  · exact h j (by omega)
theorem spots_yes {L : List D3} (hl : L.length ≤ 6) (h : okVTo L L.length) : spotsB L = true := by
  unfold spotsB
  rw [Bool.and_eq_true, List.all_eq_true]
  exact ⟨by simpa using hl, fun j hj => h j (List.mem_range.1 hj)⟩
theorem spots_no {L : List D3} {k : Nat} (hk : k < L.length) (h : okV L k = false) : spotsB L = false := by
  unfold spotsB
  have : (List.range L.length).all (okV L) = false := by
    rw [List.all_eq_false]
    exact ⟨k, List.mem_range.2 hk, by rw [h]; simp⟩
  rw [this, Bool.and_false]
theorem spots_long {L : List D3} (hl : 6 < L.length) : spotsB L = false := by
  unfold spotsB
  rw [show decide (L.length ≤ 6) = false by simp; omega, Bool.false_and]
theorem spots_ok {L : List D3} (h : spotsB L = true) : L.length ≤ 6 ∧ okVTo L L.length := by
  unfold spotsB at h
  rw [Bool.and_eq_true, List.all_eq_true] at h
  exact ⟨by simpa using h.1, fun j hj => h.2 j (List.mem_range.2 hj)⟩
theorem okV_wide {L : List D3} {i : Nat} (h : okV L i = true) : wideD (vA L i) = true := by
  unfold okV at h
  rw [Bool.and_eq_true] at h
  exact h.1
theorem wide_iff {x y z : Int} (h : wideB x y z = true) : rightB x y z = true ∧ withinB 1800 x y z = true := by simpa [wideB] using h
theorem same_turned {a1 a2 a3 b1 b2 b3 : Int} (ra : rightB a1 a2 a3 = true) (rb : rightB b1 b2 b3 = true) : sameB a1 a2 a3 b1 b2 b3 = sameB b1 b2 b3 a1 a2 a3 := by
  obtain ⟨⟨x1, x2, x3⟩, _⟩ := rightB_iff.1 ra
  obtain ⟨⟨y1, y2, y3⟩, _⟩ := rightB_iff.1 rb
  have e1 := crW_eq x2 x3 y2 y3 (by omega)
  have e2 := crW_eq x3 x1 y3 y1 (by omega)
  have e3 := crW_eq x1 x2 y1 y2 (by omega)
  have f1 := crW_eq y2 y3 x2 x3 (by omega)
  have f2 := crW_eq y3 y1 x3 x1 (by omega)
  have f3 := crW_eq y1 y2 x1 x2 (by omega)
  unfold sameB
  rw [ra, rb, e1.1, e2.1, e3.1, f1.1, f2.1, f3.1, dotW_comm]
  congr 2
  unfold zeroB
  rw [Int.mul_comm b2, Int.mul_comm b3 a2, Int.mul_comm b3 a1, Int.mul_comm b1 a3, Int.mul_comm b1 a2, Int.mul_comm b2 a1]
  congr 1
  apply propext
  constructor <;> rintro ⟨h1, h2, h3⟩ <;> exact ⟨by omega, by omega, by omega⟩
theorem sameD_turned {p q : D3} (hp : wideD p = true) (hq : wideD q = true) : sameD p q = sameD q p := same_turned (wide_iff hp).1 (wide_iff hq).1
theorem sameD_comm (p q : D3) : sameD p q = sameD q p := by
  unfold sameD
  by_cases hp : rightB p.1 p.2.1 p.2.2 = true
  · by_cases hq : rightB q.1 q.2.1 q.2.2 = true
    · exact same_turned hp hq
    · rw [Bool.not_eq_true] at hq
      unfold sameB
      rw [hq]
      simp
  · rw [Bool.not_eq_true] at hp
    unfold sameB
    rw [hp]
    simp
theorem same_within {a1 a2 a3 b1 b2 b3 : Int} (ha : withinB 1000000 a1 a2 a3 = true) (hb : withinB 1000000 b1 b2 b3 = true) :
    (decide (crW a2 a3 b2 b3 = 0 ∧ crW a3 a1 b3 b1 = 0 ∧ crW a1 a2 b1 b2 = 0) && decide (0 < dotW a1 a2 a3 b1 b2 b3)) = sameB a1 a2 a3 b1 b2 b3 := by
  unfold sameB rightB
  rw [ha, hb]
  by_cases za : a1 = 0 ∧ a2 = 0 ∧ a3 = 0
  · obtain ⟨rfl, rfl, rfl⟩ := za
    have : dotW 0 0 0 b1 b2 b3 = 0 := by have z : wrap64 0 = 0 := wrap_id (by omega) (by omega); unfold dotW; simp [z]
    rw [this]
    simp [zeroB]
  · by_cases zb : b1 = 0 ∧ b2 = 0 ∧ b3 = 0
    · obtain ⟨rfl, rfl, rfl⟩ := zb
      have : dotW a1 a2 a3 0 0 0 = 0 := by have z : wrap64 0 = 0 := wrap_id (by omega) (by omega); unfold dotW; simp [z]
      rw [this]
      simp [zeroB]
    · have h1 : zeroB a1 a2 a3 = false := by unfold zeroB; simp only [decide_eq_false_iff_not]; exact za
      have h2 : zeroB b1 b2 b3 = false := by unfold zeroB; simp only [decide_eq_false_iff_not]; exact zb
      rw [h1, h2]
      rfl
theorem small_wideB {x y z : Int} (h : smallB x y z = true) : wideB x y z = true := by
  obtain ⟨h1, h2⟩ := small_iff h
  unfold wideB
  rw [h1, Bool.true_and, withinB_iff]
  rw [withinB_iff] at h2
  omega
def apD (a b c d : Int) (v : D3) : D3 := (apX a b c d v.1 v.2.1 v.2.2, apY a b c d v.1 v.2.1 v.2.2, apZ a b c d v.1 v.2.1 v.2.2)
theorem apD_within {a b c d : Int} {v : D3} (ht : rightT a b c d = true) (hv : smallB v.1 v.2.1 v.2.2 = true) : withinB 1000000 (apD a b c d v).1 (apD a b c d v).2.1 (apD a b c d v).2.2 = true := by
  refine ap_bound (D := 300) ht ?_ (by omega) (by omega)
  have h := dot_bound (small_iff hv).2 (small_iff hv).2
  omega
def idTo (L : List St) (a b c d : Int) (v : D3) : Nat → Int
  | 0 => 0
  | k + 1 => if sameD v (apD a b c d (stA L k).2) = true then (stA L k).1 else idTo L a b c d v k
def matchOk (L : List St) (a b c d : Int) (S : List D3) : Bool := skyB L && rightT a b c d && spotsB S
def matchL (L : List St) (a b c d : Int) (S : List D3) : List Int := if matchOk L a b c d S = true then S.map (fun v => idTo L a b c d v L.length) else []
theorem match_yes {L : List St} {a b c d : Int} {S : List D3} (h1 : skyB L = true) (h2 : rightT a b c d = true) (h3 : spotsB S = true) : matchL L a b c d S = S.map (fun v => idTo L a b c d v L.length) := by unfold matchL matchOk; rw [h1, h2, h3]; rfl
def apV (L : List St) (a b c d id : Int) : D3 := apD a b c d (atV L L.length id)
def spotV (L : List St) (a b c d id : Int) : D3 :=
  (prI (rightB (apV L a b c d id).1 (apV L a b c d id).2.1 (apV L a b c d id).2.2) (gI (apV L a b c d id).1 (apV L a b c d id).2.1 (apV L a b c d id).2.2) (apV L a b c d id).1, prI (rightB (apV L a b c d id).1 (apV L a b c d id).2.1 (apV L a b c d id).2.2) (gI (apV L a b c d id).1 (apV L a b c d id).2.1 (apV L a b c d id).2.2) (apV L a b c d id).2.1, prI (rightB (apV L a b c d id).1 (apV L a b c d id).2.1 (apV L a b c d id).2.2) (gI (apV L a b c d id).1 (apV L a b c d id).2.1 (apV L a b c d id).2.2) (apV L a b c d id).2.2)
def spotsD (L : List St) (a b c d cone : Int) : List D3 := ((seenL L a b c d cone).take 6).map (spotV L a b c d)
theorem spotsD_len (L : List St) (a b c d cone : Int) : (spotsD L a b c d cone).length ≤ 6 := by unfold spotsD; rw [List.length_map, List.length_take]; omega
theorem seenTo_mem {L : List St} {a b c d cone id : Int} : ∀ {k : Nat}, id ∈ seenTo L a b c d cone k → ∃ i, i < k ∧ id = (stA L i).1
  | 0, h => by cases h
  | k + 1, h => by
    unfold seenTo at h
    split at h
    · rcases List.mem_append.1 h with h | h
      · obtain ⟨i, hi, e⟩ := seenTo_mem h
        exact ⟨i, by omega, e⟩
      · simp at h
        exact ⟨k, by omega, h⟩
    · obtain ⟨i, hi, e⟩ := seenTo_mem h
      exact ⟨i, by omega, e⟩
theorem seen_pre {L : List St} {a b c d cone id : Int} (h : id ∈ seenL L a b c d cone) : skyB L = true ∧ rightT a b c d = true ∧ ∃ i, i < L.length ∧ id = (stA L i).1 := by
  unfold seenL at h
  split at h
  · rename_i hc
    simp only [Bool.and_eq_true] at hc
    exact ⟨hc.1.1, hc.1.2, seenTo_mem h⟩
  · cases h
theorem near_in {L : List St} (hk : skyB L = true) {i : Nat} (hi : i < L.length) : smallB (atV L L.length (stA L i).1).1 (atV L L.length (stA L i).1).2.1 (atV L L.length (stA L i).1).2.2 = true := by
  rw [at_own hk hi]
  exact ok_small ((sky_ok hk).2 i hi)
theorem ap_right {a b c d x y z : Int} (ht : rightT a b c d = true) (h : smallB x y z = true) : rightB (apX a b c d x y z) (apY a b c d x y z) (apZ a b c d x y z) = true := by
  have h1 := (small_iff h).1
  have h2 := withinB_iff.1 (small_iff h).2
  have hd : dot x y z x y z ≤ 300 := by
    have s1 := mulB (A := 10) (B := 10) (a := x) (b := x) (by omega) (by omega)
    have s2 := mulB (A := 10) (B := 10) (a := y) (b := y) (by omega) (by omega)
    have s3 := mulB (A := 10) (B := 10) (a := z) (b := z) (by omega) (by omega)
    unfold dot
    omega
  have hb := ap_bound ht hd (M := 1000000) (by omega) (by omega)
  exact rightB_iff.2 ⟨withinB_iff.1 hb, ap_ne ht (rightB_iff.1 h1).2⟩
theorem spot_pre {L : List St} {a b c d cone id : Int} (h : id ∈ seenL L a b c d cone) : inT 5 a b c d = true ∧ withinB 1800 (atV L L.length id).1 (atV L L.length id).2.1 (atV L L.length id).2.2 = true ∧ rightB (apV L a b c d id).1 (apV L a b c d id).2.1 (apV L a b c d id).2.2 = true ∧ 1 ≤ id ∧ id ≤ 9999 := by
  obtain ⟨hk, ht, i, hi, rfl⟩ := seen_pre h
  have hs := near_in hk hi
  refine ⟨(rightT_iff.1 ht).1, ?_, ap_right ht hs, ?_⟩
  · have := withinB_iff.1 (small_iff hs).2
    exact withinB_iff.2 (by omega)
  · have := (sky_ok hk).2 i hi
    unfold okAt idB at this
    simp only [Bool.and_eq_true, decide_eq_true_eq] at this
    omega
theorem seen_short (L : List St) (a b c d cone : Int) : (seenL L a b c d cone).length ≤ 12 := by
  unfold seenL
  split
  · rename_i h
    have := seenTo_len L a b c d cone L.length
    simp only [Bool.and_eq_true] at h
    have := (sky_ok h.1.1).1
    omega
  · simp
end Go.Proofs.YtofpjlhoppofdaaGreatDoor
namespace Go.Proofs.YtofpjlhoppofdaaGreatDoor
open Go.RowKit
set_option maxRecDepth 100000 in
theorem infoByte : ∃ i : TypeInfo, Tryz.prog.info? 5 = some i ∧ i.zero = some (.int .u8 0) ∧ i.size = 1 ∧ i.bytes = 1 := by
  refine ⟨_, rfl, ?_, ?_, ?_⟩ <;> kernel_rfl
theorem convBytes (w : World) (T : TypeId) (Y : Array Value) (s : ByteArray) (hY : Y.toList = Lib.byteCells s.data.toList) (cap : Nat) :
    (convert 55 9 (.slice (some ⟨w.heap.size, 0, none⟩) s.size cap)).run Tryz.prog (w.alloc (.cells Y T)) = .ok (.string s) (w.alloc (.cells Y T)) := by
  refine Lib.run_convert_whole (P := Tryz.prog) _ 55 5 9 Tryz.underlying55 Tryz.underlying5 Tryz.underlying9 w.heap.size 0 s ?_ cap
  intro i hi
  have hl : Y[i]? = some (.int .u8 (s[i].toNat : Int)) := by
    rw [← Array.getElem?_toList, hY, Lib.byteCells, List.getElem?_map]
    have : s.data.toList[i]? = some s[i] := by rw [Array.getElem?_toList]; exact Array.getElem?_eq_getElem hi
    rw [this]; rfl
  simp [hl]
end Go.Proofs.YtofpjlhoppofdaaGreatDoor
namespace Go.Proofs.YtofpjlhoppofdaaGreatDoor
open Go.RowKit Go.Sort
set_option linter.unusedVariables false
def dG (k : Nat) : ByteArray := if k = 0 then ⟨#[]⟩ else ⟨(Lib.decDigits k).toArray⟩
def dgB (d : Nat) : UInt8 := UInt8.ofNat (48 + d)
theorem cat_l (k l : List UInt8) : ((⟨k.toArray⟩ : ByteArray) ++ ⟨l.toArray⟩) = ⟨(k ++ l).toArray⟩ := by
  apply ByteArray.ext
  simp
theorem dG_step {k : Nat} (hk : k ≠ 0) : dG k = dG (k / 10) ++ ⟨#[dgB (k % 10)]⟩ := by
  unfold dG dgB
  rw [if_neg hk]
  by_cases h : k < 10
  · rw [if_pos (by omega), Lib.decDigits_one h, Nat.mod_eq_of_lt h]
    exact (cat_l [] _).symm
  · rw [if_neg (by omega), Lib.decDigits, dif_neg h]
    exact (cat_l _ [_]).symm
theorem dG_zero : dG 0 = ⟨#[]⟩ := rfl
theorem ba_one (x : UInt8) : (⟨#[x]⟩ : ByteArray).size = 1 := rfl
theorem ba_none : (⟨#[]⟩ : ByteArray).size = 0 := rfl
theorem ba_nil (t : ByteArray) : (⟨#[]⟩ : ByteArray) ++ t = t := by
  apply ByteArray.ext
  simp
theorem ba_nilr (t : ByteArray) : t ++ (⟨#[]⟩ : ByteArray) = t := by
  apply ByteArray.ext
  simp
theorem dg_num {d : Nat} (h : d < 10) : ((dgB d).toNat : Int) = 48 + (d : Int) := by
  unfold dgB
  rw [UInt8.toNat_ofNat']
  omega
theorem mt_rem (k : Nat) : (k : Int).tmod 10 = ((k % 10 : Nat) : Int) := by
  rw [Int.tmod_eq_emod_of_nonneg (by omega)]
  omega
theorem mt_quo (k : Nat) : (k : Int).tdiv 10 = ((k / 10 : Nat) : Int) := by
  rw [Int.tdiv_eq_ediv_of_nonneg (by omega)]
  omega
theorem conv1d (w : World) (k : UInt8) : (convert 55 9 (.slice (some ⟨w.heap.size, 0, none⟩) 1 1)).run Tryz.prog (w.alloc (.cells #[.int .u8 (k.toNat : Int)] 5)) = .ok (.string ⟨#[k]⟩) (w.alloc (.cells #[.int .u8 (k.toNat : Int)] 5)) :=
  convBytes w 5 #[.int .u8 (k.toNat : Int)] ⟨#[k]⟩ (by simp [Lib.byteCells]) 1
end Go.Proofs.YtofpjlhoppofdaaGreatDoor
namespace Go.Proofs.YtofpjlhoppofdaaGreatDoor
set_option linter.unusedVariables false
def pcs (c : UInt8) : List UInt8 → List (List UInt8)
  | [] => [[]]
  | x :: xs => if x = c then [] :: pcs c xs else (x :: (pcs c xs).headD []) :: (pcs c xs).tail
theorem pcs_ne (c : UInt8) (s : List UInt8) : pcs c s ≠ [] := by
  cases s with
  | nil => simp [pcs]
  | cons x xs => unfold pcs; split <;> simp
theorem pcs_miss {c : UInt8} : ∀ {s : List UInt8}, c ∉ s → pcs c s = [s]
  | [], _ => rfl
  | x :: xs, h => by
    have hx : ¬ x = c := fun e => h (e ▸ List.mem_cons_self ..)
    have ih := pcs_miss (c := c) (s := xs) (fun h' => h (List.mem_cons_of_mem _ h'))
    unfold pcs
    rw [if_neg hx, ih]
    rfl
theorem pcs_hit {c : UInt8} : ∀ {a b : List UInt8}, c ∉ a → pcs c (a ++ c :: b) = a :: pcs c b
  | [], b, _ => by show pcs c (c :: b) = _; rw [pcs, if_pos rfl]
  | x :: xs, b, h => by
    have hx : ¬ x = c := fun e => h (e ▸ List.mem_cons_self ..)
    have ih := pcs_hit (c := c) (a := xs) (b := b) (fun h' => h (List.mem_cons_of_mem _ h'))
    show pcs c (x :: (xs ++ c :: b)) = _
    rw [pcs, if_neg hx, ih]
    rfl
theorem first_of {c : UInt8} : ∀ {s : List UInt8}, c ∈ s → ∃ a b, s = a ++ c :: b ∧ c ∉ a
  | [], h => by cases h
  | x :: xs, h => by
    by_cases hx : x = c
    · exact ⟨[], xs, by rw [hx]; rfl, by simp⟩
    · have : c ∈ xs := by rcases List.mem_cons.1 h with e | e; exact absurd e.symm hx; exact e
      obtain ⟨a, b, e, hn⟩ := first_of this
      exact ⟨x :: a, b, by rw [e]; rfl, fun h' => by rcases List.mem_cons.1 h' with e' | e'; exact hx e'.symm; exact hn e'⟩
theorem idx_miss {c : UInt8} {s : List UInt8} (h : c ∉ s) : Lib.index s [c] = -1 := by
  rw [Lib.index_one]
  have := Lib.indexByte_ge s c
  rcases Int.lt_or_le (Lib.indexByte s c) 0 with h1 | h1
  · omega
  · obtain ⟨o, ho⟩ := Int.eq_ofNat_of_zero_le h1
    exact absurd (List.mem_of_getElem? (Lib.indexByte_some ho).1) h
theorem idx_hit {c : UInt8} {a b : List UInt8} (h : c ∉ a) : Lib.index (a ++ c :: b) [c] = (a.length : Int) := by
  rw [Lib.index_one]
  have := Lib.indexByte_ge (a ++ c :: b) c
  rcases Int.lt_or_le (Lib.indexByte (a ++ c :: b) c) 0 with h1 | h1
  · exact absurd (by rw [List.getElem?_append_right (Nat.le_refl _)]; simp) (Lib.indexByte_none (l := a ++ c :: b) (c := c) (by omega) a.length)
  · obtain ⟨o, ho⟩ := Int.eq_ofNat_of_zero_le h1
    obtain ⟨g1, g2⟩ := Lib.indexByte_some ho
    rw [ho]
    rcases Nat.lt_trichotomy o a.length with h2 | h2 | h2
    · rw [List.getElem?_append_left h2] at g1
      exact absurd (List.mem_of_getElem? g1) h
    · rw [h2]
    · exact absurd (by rw [List.getElem?_append_right (Nat.le_refl _)]; simp) (g2 a.length h2)
theorem cut_miss {c : UInt8} {s : List UInt8} (h : c ∉ s) : Lib.cut s [c] = (s, [], false) := by unfold Lib.cut; rw [idx_miss h]; rfl
theorem cut_hit {c : UInt8} {a b : List UInt8} (h : c ∉ a) : Lib.cut (a ++ c :: b) [c] = (a, b, true) := by
  unfold Lib.cut
  rw [idx_hit h, if_pos (by omega)]
  simp
theorem split_pcs (c : UInt8) : ∀ (n : Nat) (s : List UInt8), s.length ≤ n → Lib.splitK [c] 0 (Lib.count s [c]) s = pcs c s
  | n, s, hn => by
    by_cases h : c ∈ s
    · obtain ⟨a, b, rfl, ha⟩ := first_of h
      match n, hn with
      | 0, hn => simp at hn
      | n + 1, hn =>
        have ih := split_pcs c n b (by simp at hn; omega)
        have hc : Lib.count (a ++ c :: b) [c] = 1 + Lib.count b [c] := by
          have := Lib.count_hit (s := a ++ c :: b) (sub := [c]) (i := a.length) (by simp) (idx_hit ha)
          rw [this]
          simp
        rw [hc, Nat.add_comm, Lib.splitK, idx_hit ha, if_neg (by simp), pcs_hit ha]
        simp only [Int.toNat_natCast, Nat.add_zero]
        rw [List.take_left, show ([c] : List UInt8).length = 1 from rfl, ← ih]
        congr 2
        simp
    · rw [Lib.count_miss (idx_miss h), pcs_miss h]
      rfl
def isDg (x : UInt8) : Bool := decide (48 ≤ x.toNat ∧ x.toNat ≤ 57)
def valD : List UInt8 → Int := fun l => l.foldl (fun n x => 10 * n + ((x.toNat : Int) - 48)) 0
def numOk (l : List UInt8) : Bool := decide (1 ≤ l.length ∧ l.length ≤ 9) && !(decide (1 < l.length) && decide (l.head? = some 48)) && l.all isDg
def wBlind : List UInt8 := [98, 108, 105, 110, 100]
def wDrift : List UInt8 := [100, 114, 105, 102, 116]
def wIds : List UInt8 := [105, 100, 115]
def wMove : List UInt8 := [109, 111, 118, 101]
def wReset : List UInt8 := [114, 101, 115, 101, 116]
def wSee : List UInt8 := [115, 101, 101]
def wState : List UInt8 := [115, 116, 97, 116, 101]
structure Ln where
  k : Nat
  t : List UInt8
  n : Int
def takeT (k : Nat) : List (List UInt8) → Option Ln
  | [x] => if x = [] then none else some ⟨k, x, 0⟩
  | _ => none
def takeN (k : Nat) : List (List UInt8) → Option Ln
  | [x] => if numOk x = true then some ⟨k, [], valD x⟩ else none
  | _ => none
def take0 (k : Nat) : List (List UInt8) → Option Ln
  | [] => some ⟨k, [], 0⟩
  | _ => none
def lineP (raw : List UInt8) : Option Ln :=
  match pcs 32 raw with
  | [] => none
  | w :: r => if w = wBlind then take0 0 r else if w = wDrift then takeT 1 r else if w = wIds then takeN 2 r else if w = wMove then takeT 3 r else if w = wReset then take0 4 r else if w = wSee then takeN 5 r else if w = wState then take0 6 r else none
def linesP : Nat → List (List UInt8) → List Ln ⊕ Nat
  | i, [] => .inl []
  | i, [p] => if p = [] then .inl [] else .inr i
  | i, p :: q :: r => match lineP p with
    | none => .inr i
    | some l => if 40 ≤ i then .inr i else match linesP (i + 1) (q :: r) with
      | .inl ls => .inl (l :: ls)
      | .inr j => .inr j
end Go.Proofs.YtofpjlhoppofdaaGreatDoor
namespace Go.Proofs.YtofpjlhoppofdaaGreatDoor
open Go.RowKit
set_option linter.unusedVariables false
theorem valD_snoc (l : List UInt8) (x : UInt8) : valD (l ++ [x]) = 10 * valD l + ((x.toNat : Int) - 48) := by unfold valD; rw [List.foldl_append]; rfl
def dgs (s : ByteArray) (k : Nat) : Bool := (s.data.toList.take k).all isDg
def vls (s : ByteArray) (k : Nat) : Int := valD (s.data.toList.take k)
theorem tk_snoc (s : ByteArray) (k : Nat) (h : k < s.size) : s.data.toList.take (k + 1) = s.data.toList.take k ++ [s[k]] := by
  have hl : k < s.data.toList.length := by simpa using h
  have e2 : s.data.toList[k] = s[k] := by
    have e1 : s.data.toList[k]? = some s[k] := by
      rw [Array.getElem?_toList]
      exact Array.getElem?_eq_getElem h
    rw [List.getElem?_eq_getElem hl] at e1
    exact Option.some.inj e1
  rw [List.take_succ_eq_append_getElem hl, e2]
theorem dgs_succ (s : ByteArray) (k : Nat) (h : k < s.size) : dgs s (k + 1) = (dgs s k && isDg s[k]) := by unfold dgs; rw [tk_snoc s k h, List.all_append]; simp
theorem vls_succ (s : ByteArray) (k : Nat) (h : k < s.size) : vls s (k + 1) = 10 * vls s k + ((s[k].toNat : Int) - 48) := by unfold vls; rw [tk_snoc s k h, valD_snoc]
theorem isD_iff (x : UInt8) : isDg x = true ↔ 48 ≤ x.toNat ∧ x.toNat ≤ 57 := by unfold isDg; simp
theorem vls_bound (s : ByteArray) : ∀ k, k ≤ s.size → dgs s k = true → 0 ≤ vls s k ∧ vls s k < 10 ^ k
  | 0, _, _ => by unfold vls valD; simp
  | k + 1, hk, h => by
    rw [dgs_succ s k (by omega), Bool.and_eq_true] at h
    have ih := vls_bound s k (by omega) h.1
    have := (isD_iff _).1 h.2
    rw [vls_succ s k (by omega), Int.pow_succ]
    omega
theorem vls_nine {s : ByteArray} {k : Nat} (hk : k ≤ s.size) (h9 : s.size ≤ 9) (h : dgs s k = true) : 0 ≤ vls s k ∧ vls s k ≤ 999999999 := by
  have b := vls_bound s k hk h
  have : (10 : Int) ^ k ≤ 10 ^ 9 := by
    have := Nat.pow_le_pow_right (n := 10) (by omega) (show k ≤ 9 by omega)
    exact_mod_cast this
  have e : (10 : Int) ^ 9 = 1000000000 := by decide
  omega
theorem dgs_no (s : ByteArray) {k : Nat} (hk : k < s.size) (h : isDg s[k] = false) : dgs s s.size = false := by
  have : ∀ n, k < n → n ≤ s.size → dgs s n = false := by
    intro n
    induction n with
    | zero => intro h1; omega
    | succ n ih =>
      intro h1 h2
      rw [dgs_succ s n (by omega)]
      by_cases e : k = n
      · subst e; rw [h]; simp
      · rw [ih (by omega) (by omega)]; rfl
  exact this s.size hk (Nat.le_refl _)
theorem len_size (s : ByteArray) : s.data.toList.length = s.size := by simp
theorem dgs_all (s : ByteArray) : dgs s s.size = s.data.toList.all isDg := by unfold dgs; rw [List.take_of_length_le (by rw [len_size]; exact Nat.le_refl _)]
theorem vls_all (s : ByteArray) : vls s s.size = valD s.data.toList := by unfold vls; rw [List.take_of_length_le (by rw [len_size]; exact Nat.le_refl _)]
theorem head_at (s : ByteArray) (h : 0 < s.size) : s.data.toList.head? = some s[0] := by
  rw [List.head?_eq_getElem?, Array.getElem?_toList]
  exact Array.getElem?_eq_getElem h
def numHead (s : ByteArray) : Bool := decide (1 ≤ s.size ∧ s.size ≤ 9) && !(decide (1 < s.size) && decide (s.data.toList.head? = some 48))
theorem numOk_eq (s : ByteArray) : numOk s.data.toList = (numHead s && dgs s s.size) := by unfold numOk numHead; rw [dgs_all, len_size]
theorem u8_subD {x : Nat} (h : 48 ≤ x) (h2 : x ≤ 57) : IntKind.u8.wrap ((x : Int) - 48) = (x : Int) - 48 := by
  obtain ⟨d, rfl⟩ : ∃ d, x = 48 + d := ⟨x - 48, by omega⟩
  have : d ≤ 9 := by omega
  have hc : d = 0 ∨ d = 1 ∨ d = 2 ∨ d = 3 ∨ d = 4 ∨ d = 5 ∨ d = 6 ∨ d = 7 ∨ d = 8 ∨ d = 9 := by omega
  rcases hc with rfl | rfl | rfl | rfl | rfl | rfl | rfl | rfl | rfl | rfl <;> decide
set_option maxHeartbeats 1000000 in
set_option maxRecDepth 100000 in
theorem l09Num_any (s : ByteArray) (w : World) (hs : s.size ≤ 8000) :
    Calls Tryz.prog 37 #[.string s] w fun e w' => e = .returned (.int .i64 (if numOk s.data.toList = true then valD s.data.toList else -1)) ∧ w' = w := by
  obtain ⟨R, hR⟩ : ∃ R : Int, (if numOk s.data.toList = true then valD s.data.toList else -1) = R := ⟨_, rfl⟩
  rw [hR]
  have HR := yz hR
  clear hR
  by_cases h0 : s.size < 1
  · have hd : decide ((s.size : Int) < 1) = true := decide_eq_true (by omega)
    have HO : Hid (R = -1) := yz (by rw [← yy HR, numOk_eq]; unfold numHead; rw [decide_eq_false (show ¬ (1 ≤ s.size ∧ s.size ≤ 9) by omega)]; rfl)
    go_enter Tryz.func37, Tryz.ntmps37
    go_wp2
    go_ret
    exact ⟨by rw [yy HO]; rfl, rfl⟩
  have hd : decide ((s.size : Int) < 1) = false := decide_eq_false (by omega)
  by_cases h9 : 9 < s.size
  · have hd9 : decide ((9 : Int) < (s.size : Int)) = true := decide_eq_true (by omega)
    have HO : Hid (R = -1) := yz (by rw [← yy HR, numOk_eq]; unfold numHead; rw [decide_eq_false (show ¬ (1 ≤ s.size ∧ s.size ≤ 9) by omega)]; rfl)
    go_enter Tryz.func37, Tryz.ntmps37
    go_wp2
    go_ret
    exact ⟨by rw [yy HO]; rfl, rfl⟩
  have hd9 : decide ((9 : Int) < (s.size : Int)) = false := decide_eq_false (by omega)
  have hp : 0 < s.size := by omega
  have hhd := head_at s hp
  have hrange : decide (1 ≤ s.size ∧ s.size ≤ 9) = true := decide_eq_true (by omega)
  by_cases hz : 1 < s.size ∧ s[0] = 48
  · have h1 : decide ((1 : Int) < (s.size : Int)) = true := decide_eq_true (by omega)
    have hb : ((s[0].toNat : Int) == 48) = true := by rw [hz.2]; rfl
    have HO : Hid (R = -1) := yz (by rw [← yy HR, numOk_eq]; unfold numHead; rw [hrange, hhd, hz.2, decide_eq_true hz.1]; rfl)
    go_enter Tryz.func37, Tryz.ntmps37
    go_wp2
    go_ret
    exact ⟨by rw [yy HO]; rfl, rfl⟩
  have HH : Hid (numHead s = true) := yz (by
    unfold numHead
    rw [hrange, hhd]
    by_cases h1 : 1 < s.size
    · have : s[0] ≠ 48 := fun e => hz ⟨h1, e⟩
      rw [decide_eq_true h1, decide_eq_false (by simpa using this)]
      rfl
    · rw [decide_eq_false h1]
      rfl)
  have key : decide ((1 : Int) < (s.size : Int)) = false ∨ (decide ((1 : Int) < (s.size : Int)) = true ∧ ((s[0].toNat : Int) == 48) = false) := by
    by_cases h1 : 1 < s.size
    · refine .inr ⟨decide_eq_true (by omega), ?_⟩
      have : s[0] ≠ 48 := fun e => hz ⟨h1, e⟩
      have h2 : s[0].toNat ≠ 48 := fun e => this (UInt8.toNat.inj e)
      simpa using (show (s[0].toNat : Int) ≠ 48 by omega)
    · exact .inl (decide_eq_false (by omega))
  have HRR : Hid (R = if dgs s s.size = true then vls s s.size else -1) := yz (by rw [← yy HR, numOk_eq, yy HH, Bool.true_and, vls_all])
  have h9' : s.size ≤ 9 := by omega
  clear hz hrange hhd HR HH
  rcases key with h1 | ⟨h1, hb⟩
  all_goals
    go_enter Tryz.func37, Tryz.ntmps37
    go_wp2_with fail
    go_loop [3, 4] (fun n i => ∃ (k : Nat) (v : Int), k ≤ s.size ∧ i = .int .i64 k ∧ n = .int .i64 v ∧ 0 ≤ v ∧ v ≤ 999999999 ∧ Hid (v = vls s k) ∧ Hid (dgs s k = true)) (fun _ i => s.size - (intOf i).toNat)
    case atStart => exact ⟨0, 0, by omega, rfl, rfl, by omega, by omega, yz rfl, yz rfl⟩
    case round =>
      obtain ⟨k, v, hk, rfl, rfl, hv0, hv9, HV, HD⟩ := hrel
      by_cases hkn : k < s.size
      · have hkn2 : (k : Int) < (s.size : Int) := by omega
        have HS := yz (dgs_succ s k hkn)
        have HVS := yz (vls_succ s k hkn)
        have HB := yz (fun h => vls_nine (s := s) (k := k + 1) (by omega) h9' h)
        have hbt := s[k].toNat_lt
        obtain ⟨x, hx⟩ : ∃ x : Nat, s[k].toNat = x := ⟨_, rfl⟩
        have HI := yz (isD_iff s[k])
        rw [hx] at HVS HI hbt
        by_cases hl : x < 48
        · have hdl : decide ((x : Int) < 48) = true := decide_eq_true (by omega)
          have HO : Hid (R = -1) := yz (by
            have hf : dgs s s.size = false := dgs_no s hkn (by cases hq : isDg s[k] with | false => rfl | true => have := (yy HI).1 hq; omega)
            rw [yy HRR, hf]
            rfl)
          go_wp2
          go_ret
          exact ⟨by rw [yy HO]; rfl, rfl⟩
        have hdl : decide ((x : Int) < 48) = false := decide_eq_false (by omega)
        by_cases hr : 57 < x
        · have hdr : decide ((57 : Int) < (x : Int)) = true := decide_eq_true (by omega)
          have HO : Hid (R = -1) := yz (by
            have hf : dgs s s.size = false := dgs_no s hkn (by cases hq : isDg s[k] with | false => rfl | true => have := (yy HI).1 hq; omega)
            rw [yy HRR, hf]
            rfl)
          go_wp2
          go_ret
          exact ⟨by rw [yy HO]; rfl, rfl⟩
        have hdr : decide ((57 : Int) < (x : Int)) = false := decide_eq_false (by omega)
        have hw := u8_subD (x := x) (by omega) (by omega)
        have HD2 : Hid (dgs s (k + 1) = true) := yz (by rw [yy HS, yy HD, (yy HI).2 (by omega)]; rfl)
        have hbd := yy HB (yy HD2)
        rw [yy HVS, ← yy HV] at hbd
        have HV2 : Hid (10 * v + ((x : Int) - 48) = vls s (k + 1)) := yz (by rw [yy HVS, yy HV])
        clear HS HVS HB HI hbt
        go_wp2
        go_round
        case rel => exact ⟨k + 1, 10 * v + ((x : Int) - 48), by omega, by go_num, by go_num, hbd.1, hbd.2, HV2, HD2⟩
        case measure => simp [intOf]; omega
      · have hkn' : k = s.size := by omega
        subst hkn'
        go_wp2
        go_ret
        exact ⟨by rw [yy HRR, yy HD, if_pos rfl, ← yy HV]; rfl, rfl⟩
set_option maxRecDepth 100000 in
theorem isDigitD_any (x : Nat) (w : World) :
    Calls Tryz.prog 86 #[.int .u8 (x : Int)] w fun e w' => e = .returned (.bool (decide (48 ≤ x ∧ x ≤ 57))) ∧ w' = w := by
  by_cases hl : 48 ≤ x
  · have h1 : decide ((48 : Int) ≤ (x : Int)) = true := decide_eq_true (by omega)
    by_cases hr : x ≤ 57
    · have h2 : decide ((x : Int) ≤ 57) = true := decide_eq_true (by omega)
      have HO : Hid (decide (48 ≤ x ∧ x ≤ 57) = true) := yz (decide_eq_true ⟨hl, hr⟩)
      go_enter Tryz.func86, Tryz.ntmps86
      go_wp2
      go_ret
      exact ⟨by rw [yy HO]; rfl, rfl⟩
    · have h2 : decide ((x : Int) ≤ 57) = false := decide_eq_false (by omega)
      have HO : Hid (decide (48 ≤ x ∧ x ≤ 57) = false) := yz (decide_eq_false (by omega))
      go_enter Tryz.func86, Tryz.ntmps86
      go_wp2
      go_ret
      exact ⟨by rw [yy HO]; rfl, rfl⟩
  · have h1 : decide ((48 : Int) ≤ (x : Int)) = false := decide_eq_false (by omega)
    have HO : Hid (decide (48 ≤ x ∧ x ≤ 57) = false) := yz (decide_eq_false (by omega))
    go_enter Tryz.func86, Tryz.ntmps86
    go_wp2
    go_ret
    exact ⟨by rw [yy HO]; rfl, rfl⟩
theorem strD_ne {a b : ByteArray} (h : a ≠ b) : (a.toList == b.toList) = false := by
  rw [ByteArray.toList_eq, ByteArray.toList_eq]
  simp
  intro e
  exact h (ByteArray.ext e)
theorem strL_ne {a : ByteArray} {l : List UInt8} (h : a ≠ ⟨l.toArray⟩) : (a.toList == l) = false := by
  rw [ByteArray.toList_eq]
  cases h2 : (a.data.toList == l) with
  | false => rfl
  | true => exact absurd (ByteArray.ext (by rw [← (show a.data.toList = l by simpa using h2)])) h
theorem strL_eq {a : ByteArray} {l : List UInt8} (h : a = ⟨l.toArray⟩) : (a.toList == l) = true := by rw [ByteArray.toList_eq, h]; simp
theorem one_byte {s : ByteArray} (h1 : s.size = 1) (h : s[0]'(by omega) = 48) : s = ⟨#[48]⟩ := by
  apply ByteArray.ext
  apply Array.ext
  · exact h1
  · intro i hi1 hi2
    obtain rfl : i = 0 := by have : s.data.size = 1 := h1; omega
    exact h
set_option maxHeartbeats 1000000 in
set_option maxRecDepth 100000 in
theorem readCount_any (s : ByteArray) (w : World) (hs : s.size ≤ 8000) :
    Calls Tryz.prog 53 #[.string s] w fun e w' => e = .returned (.tuple #[.int .i64 (if numOk s.data.toList = true then valD s.data.toList else 0), .bool (numOk s.data.toList)]) ∧ w' = w := by
  obtain ⟨R, hR⟩ : ∃ R : Int, (if numOk s.data.toList = true then valD s.data.toList else 0) = R := ⟨_, rfl⟩
  obtain ⟨Q, hQ⟩ : ∃ Q : Bool, numOk s.data.toList = Q := ⟨_, rfl⟩
  rw [hR, hQ]
  have HR := yz hR
  have HQ := yz hQ
  clear hR hQ
  have no : Hid (numOk s.data.toList = false → R = 0 ∧ Q = false) := yz (fun h => ⟨by rw [← yy HR, h]; rfl, by rw [← yy HQ, h]⟩)
  by_cases h0 : s.size < 1
  · have hd : decide ((s.size : Int) < 1) = true := decide_eq_true (by omega)
    have HO := yz (yy no (by rw [numOk_eq]; unfold numHead; rw [decide_eq_false (show ¬ (1 ≤ s.size ∧ s.size ≤ 9) by omega)]; rfl))
    go_enter Tryz.func53, Tryz.ntmps53
    go_wp2
    refine bodyPost_ret (v := .tuple #[.int .i64 0, .bool false]) (by simp [results, Tryz.results53, go_sem]) rfl ⟨by rw [(yy HO).1, (yy HO).2], rfl⟩
  have hd : decide ((s.size : Int) < 1) = false := decide_eq_false (by omega)
  by_cases h9 : 9 < s.size
  · have hd9 : decide ((9 : Int) < (s.size : Int)) = true := decide_eq_true (by omega)
    have HO := yz (yy no (by rw [numOk_eq]; unfold numHead; rw [decide_eq_false (show ¬ (1 ≤ s.size ∧ s.size ≤ 9) by omega)]; rfl))
    go_enter Tryz.func53, Tryz.ntmps53
    go_wp2
    refine bodyPost_ret (v := .tuple #[.int .i64 0, .bool false]) (by simp [results, Tryz.results53, go_sem]) rfl ⟨by rw [(yy HO).1, (yy HO).2], rfl⟩
  have hd9 : decide ((9 : Int) < (s.size : Int)) = false := decide_eq_false (by omega)
  have hp : 0 < s.size := by omega
  have hhd := head_at s hp
  have hrange : decide (1 ≤ s.size ∧ s.size ≤ 9) = true := decide_eq_true (by omega)
  by_cases hz : 1 < s.size ∧ s[0] = 48
  · have hb : ((s[0].toNat : Int) == 48) = true := by rw [hz.2]; rfl
    have hne : (s.toList == [48]) = false := strL_ne (l := [48]) (fun e => by have := congrArg ByteArray.size e; have h1 : (⟨#[48]⟩ : ByteArray).size = 1 := rfl; omega)
    have HO := yz (yy no (by rw [numOk_eq]; unfold numHead; rw [hrange, hhd, hz.2, decide_eq_true hz.1]; rfl))
    go_enter Tryz.func53, Tryz.ntmps53
    go_wp2
    refine bodyPost_ret (v := .tuple #[.int .i64 0, .bool false]) (by simp [results, Tryz.results53, go_sem]) rfl ⟨by rw [(yy HO).1, (yy HO).2], rfl⟩
  have HH : Hid (numHead s = true) := yz (by
    unfold numHead
    rw [hrange, hhd]
    by_cases h1 : 1 < s.size
    · have : s[0] ≠ 48 := fun e => hz ⟨h1, e⟩
      rw [decide_eq_true h1, decide_eq_false (by simpa using this)]
      rfl
    · rw [decide_eq_false h1]
      rfl)
  have key : ((s[0].toNat : Int) == 48) = false ∨ (((s[0].toNat : Int) == 48) = true ∧ (s.toList == [48]) = true) := by
    by_cases h1 : s[0] = 48
    · exact .inr ⟨by rw [h1]; rfl, strL_eq (l := [48]) (one_byte (by have : ¬ 1 < s.size := fun e => hz ⟨e, h1⟩; omega) h1)⟩
    · have h2 : s[0].toNat ≠ 48 := fun e => h1 (UInt8.toNat.inj e)
      exact .inl (by simpa using (show (s[0].toNat : Int) ≠ 48 by omega))
  have HRR : Hid (R = (if dgs s s.size = true then vls s s.size else 0) ∧ Q = dgs s s.size) := yz (by rw [← yy HR, ← yy HQ, numOk_eq, yy HH, Bool.true_and, vls_all]; exact ⟨rfl, rfl⟩)
  have h9' : s.size ≤ 9 := by omega
  clear hz hrange hhd HR HH HQ no
  rcases key with hb | ⟨hb, hst⟩
  all_goals
    go_enter Tryz.func53, Tryz.ntmps53
    go_wp2_with fail
    go_loop [4, 25] (fun n i => ∃ (k : Nat) (v : Int), k ≤ s.size ∧ i = .int .i64 k ∧ n = .int .i64 v ∧ 0 ≤ v ∧ v ≤ 999999999 ∧ Hid (v = vls s k) ∧ Hid (dgs s k = true)) (fun _ i => s.size - (intOf i).toNat)
    case atStart => exact ⟨0, 0, by omega, rfl, rfl, by omega, by omega, yz rfl, yz rfl⟩
    case round =>
      obtain ⟨k, v, hk, rfl, rfl, hv0, hv9, HV, HD⟩ := hrel
      by_cases hkn : k < s.size
      · have hkn2 : (k : Int) < (s.size : Int) := by omega
        have HS := yz (dgs_succ s k hkn)
        have HVS := yz (vls_succ s k hkn)
        have HB := yz (fun h => vls_nine (s := s) (k := k + 1) (by omega) h9' h)
        have hbt := s[k].toNat_lt
        obtain ⟨x, hx⟩ : ∃ x : Nat, s[k].toNat = x := ⟨_, rfl⟩
        have HI := yz (isD_iff s[k])
        rw [hx] at HVS HI hbt
        have cD := yz (isDigitD_any x w)
        by_cases hdg : 48 ≤ x ∧ x ≤ 57
        · have hw := u8_subD (x := x) hdg.1 hdg.2
          have HD2 : Hid (dgs s (k + 1) = true) := yz (by rw [yy HS, yy HD, (yy HI).2 hdg]; rfl)
          have hbd := yy HB (yy HD2)
          rw [yy HVS, ← yy HV] at hbd
          have HV2 : Hid (10 * v + ((x : Int) - 48) = vls s (k + 1)) := yz (by rw [yy HVS, yy HV])
          rw [decide_eq_true hdg] at cD
          clear HS HVS HB HI hbt
          go_wp2_with fail
          refine (yy cD).mono ?_
          rintro e w2 ⟨rfl, hw2⟩
          subst hw2
          go_wp2
          go_round
          case rel => exact ⟨k + 1, 10 * v + ((x : Int) - 48), by omega, by go_num, by go_num, hbd.1, hbd.2, HV2, HD2⟩
          case measure => simp [intOf]; omega
        · have HO : Hid (R = 0 ∧ Q = false) := yz (by
            have hf : dgs s s.size = false := dgs_no s hkn (by cases hq : isDg s[k] with | false => rfl | true => exact absurd ((yy HI).1 hq) hdg)
            rw [(yy HRR).1, (yy HRR).2, hf]
            exact ⟨rfl, rfl⟩)
          rw [decide_eq_false hdg] at cD
          go_wp2_with fail
          refine (yy cD).mono ?_
          rintro e w2 ⟨rfl, hw2⟩
          subst hw2
          go_wp2
          refine bodyPost_ret (v := .tuple #[.int .i64 0, .bool false]) (by simp [results, Tryz.results53, go_sem]) rfl ⟨by rw [(yy HO).1, (yy HO).2], rfl⟩
      · have hkn' : k = s.size := by omega
        subst hkn'
        go_wp2
        refine bodyPost_ret (v := .tuple #[.int .i64 v, .bool true]) (by simp [results, Tryz.results53, go_sem]) rfl ⟨by rw [(yy HRR).1, (yy HRR).2, yy HD, if_pos rfl, ← yy HV], rfl⟩
end Go.Proofs.YtofpjlhoppofdaaGreatDoor
namespace Go.Proofs.YtofpjlhoppofdaaGreatDoor
open Go.RowKit
set_option linter.unusedVariables false
set_option linter.unusedSimpArgs false
def decB (n : Nat) : ByteArray := if n = 0 then ⟨#[48]⟩ else dG n
theorem decB_pos {n : Nat} (h : n ≠ 0) : decB n = dG n := by unfold decB; rw [if_neg h]
theorem dG_size : ∀ (k n : Nat), n < 10 ^ k → (dG n).size ≤ k
  | 0, n, h => by
    obtain rfl : n = 0 := by omega
    exact Nat.le_refl _
  | k + 1, n, h => by
    by_cases hn : n = 0
    · subst hn; exact Nat.zero_le _
    · rw [dG_step hn, ByteArray.size_append, ba_one]
      have := dG_size k (n / 10) (by rw [Nat.pow_succ] at h; omega)
      omega
theorem decB_size {n : Nat} (h : n ≤ 1000000000) : (decB n).size ≤ 10 := by
  by_cases hn : n = 0
  · subst hn; decide
  · rw [decB_pos hn]
    exact dG_size 10 n (by omega)
set_option maxHeartbeats 1000000 in
set_option maxRecDepth 100000 in
theorem l01DecN_any (n : Nat) (w : World) (hn : n ≤ 1000000000) :
    Calls Tryz.prog 44 #[.int .i64 n] w fun e w' => e = .returned (.string (decB n)) ∧ Below w.heap.size w w' := by
  by_cases h0 : n = 0
  · subst h0
    go_enter Tryz.func44, Tryz.ntmps44
    go_wp2_with fail
    go_ret
    exact ⟨rfl, Below.refl _ _⟩
  have h0' : ((n : Int) == 0) = false := by simpa using (show (n : Int) ≠ 0 by omega)
  have hng : ¬ (n : Int) < 0 := by omega
  have HO := yz (decB_pos h0)
  go_enter Tryz.func44, Tryz.ntmps44
  go_wp2_with fail
  go_loopw [0, 4] (fun u s wr => ∃ (k : Nat) (t : ByteArray), u = .int .i64 k ∧ s = .string t ∧ k ≤ n ∧ t.size + k ≤ n ∧ Hid (dG k ++ t = dG n) ∧ Hid (Below w.heap.size w wr)) (fun u _ _ => (intOf u).toNat)
  case atStart => exact ⟨n, ⟨#[]⟩, rfl, rfl, Nat.le_refl _, by rw [ba_none]; omega, yz (ba_nilr _), yz (Below.refl _ _)⟩
  case round =>
    obtain ⟨k, t, rfl, rfl, hk, ht, HD, HB⟩ := hrel
    by_cases hz : k = 0
    · subst hz
      go_wp2
      go_ret
      exact ⟨by rw [yy HO, ← yy HD, dG_zero, ba_nil]; rfl, yy HB⟩
    · have hk0 : ((k : Int) == 0) = false := by simpa using (show (k : Int) ≠ 0 by omega)
      obtain ⟨d, hd⟩ : ∃ d, k % 10 = d := ⟨_, rfl⟩
      obtain ⟨q, hq⟩ : ∃ q, k / 10 = q := ⟨_, rfl⟩
      have hd10 : d < 10 := by omega
      have hdn : ¬ (d : Int) < 0 := by omega
      have er := mt_rem k
      have eq := mt_quo k
      rw [hd] at er
      rw [hq] at eq
      have hcv := conv1d wr (dgB d)
      rw [dg_num hd10] at hcv
      have hc : ¬ (⟨#[dgB d]⟩ : ByteArray).size + t.size > 9223372036854775807 := by rw [ba_one]; omega
      go_wp2
      go_roundw
      case rel => exact ⟨q, ⟨#[dgB d]⟩ ++ t, rfl, rfl, by omega, by rw [ByteArray.size_append, ba_one]; omega, yz (by rw [← yy HD, dG_step hz, hd, hq, ByteArray.append_assoc]), yz (below_call (yy HB) (below1 _ _))⟩
      case measure => simp [intOf]; omega
def errT (n : Nat) : ByteArray := ⟨#[101, 114, 114, 111, 114, 32]⟩ ++ decB n
set_option maxRecDepth 100000 in
theorem l09Error_any (n : Nat) (w : World) (hn : n ≤ 1000000000) :
    Calls Tryz.prog 43 #[.int .i64 n] w fun e w' => e = .returned (.string (errT n)) ∧ Below w.heap.size w w' := by
  have hz := decB_size hn
  have cD := yz (l01DecN_any n w hn)
  have HE : Hid (errT n = ⟨#[101, 114, 114, 111, 114, 32]⟩ ++ decB n) := yz rfl
  generalize decB n = x at *
  have hc : ¬ (⟨#[101, 114, 114, 111, 114, 32]⟩ : ByteArray).size + x.size > 9223372036854775807 := by have : (⟨#[101, 114, 114, 111, 114, 32]⟩ : ByteArray).size = 6 := rfl; omega
  go_enter Tryz.func43, Tryz.ntmps43
  go_wp2_with fail
  refine (yy cD).mono ?_
  rintro e w1 ⟨rfl, hx⟩
  have HB := yz hx
  clear hx cD
  go_wp2
  go_ret
  exact ⟨by rw [yy HE]; rfl, yy HB⟩
end Go.Proofs.YtofpjlhoppofdaaGreatDoor
namespace Go.Proofs.YtofpjlhoppofdaaGreatDoor
open Go.RowKit Go.Sort
set_option linter.unusedVariables false
theorem grownOfBelow {w w' : World} (h : Below w.heap.size w w') : w.grownBy w' none := ⟨h.os, h.tape, h.output, h.size, fun k hk _ => h.block k hk⟩
theorem ownKept {w w' : World} {B : Nat} {t : TypeId} {v : Value} {n m : Nat} {xs : List Value} (h : w.ownsRow B t m v n xs) (hB : Below w.heap.size w w') : w'.ownsRow B t m v n xs :=
  h.kept (grownOfBelow hB) (by cases hv : v.ownBlock <;> simp)
theorem TurnAt.grown {w w' : World} {b : Nat} {p q r s : Int} {row : Option Nat} (h : TurnAt w b p q r s) (hg : w.grownBy w' row) (hne : some b ≠ row) : TurnAt w' b p q r s := by
  obtain ⟨h0, h1, h2, h3⟩ := h
  exact ⟨hg.cell h0 hne, hg.cell h1 hne, hg.cell h2 hne, hg.cell h3 hne⟩
theorem holdS {wr wx : World} {A b o1 o2 o3 : Nat} {p q r s x y z : Int} (ht : TurnAt wr A p q r s) (h1 : wr.cell? ⟨b, o1, none⟩ = some (.int .i64 x)) (h2 : wr.cell? ⟨b, o2, none⟩ = some (.int .i64 y)) (h3 : wr.cell? ⟨b, o3, none⟩ = some (.int .i64 z)) (h : Below wr.heap.size wr wx) :
    ((wx.cell? ⟨A, 0, none⟩ = some (.int .i64 p) ∧ wx.cell? ⟨A, 1, none⟩ = some (.int .i64 q) ∧ wx.cell? ⟨A, 2, none⟩ = some (.int .i64 r) ∧ wx.cell? ⟨A, 3, none⟩ = some (.int .i64 s)) ∧ (wx.cell? ⟨b, o1, none⟩ = some (.int .i64 x) ∧ wx.cell? ⟨b, o2, none⟩ = some (.int .i64 y) ∧ wx.cell? ⟨b, o3, none⟩ = some (.int .i64 z))) ∧ Below wr.heap.size wr wx := by
  have hb := World.block_lt_of_cell? wr _ h1
  obtain ⟨k0, k1, k2, k3⟩ := ht.kept ht.lt h
  exact ⟨⟨⟨k0, k1, k2, k3⟩, by rw [h.cell (p := ⟨b, o1, none⟩) hb]; exact h1, by rw [h.cell (p := ⟨b, o2, none⟩) hb]; exact h2, by rw [h.cell (p := ⟨b, o3, none⟩) hb]; exact h3⟩, h⟩
set_option maxHeartbeats 4000000 in
set_option maxRecDepth 100000 in
theorem l04Seen_any (L : List St) (a b c d cone : Int) (ar : Option Addr) (cap : Nat) (w : World) (hk : skyB L = true) (hr : rightT a b c d = true) (hS : Stars w ar L L.length) :
    Calls Tryz.prog 112 #[.slice ar L.length cap, .agg #[.int .i64 a, .int .i64 b, .int .i64 c, .int .i64 d], .int .i64 cone] w fun e w' => ∃ v, e = .returned v ∧ w'.ownsRow (w.heap.size + 1) 2 1 v (seenTo L a b c d cone L.length).length (ints (seenTo L a b c d cone L.length)) ∧ Below w.heap.size w w' := by
  obtain ⟨h12, hok⟩ := sky_ok hk
  have HO := yz hok
  have HR := yz hr
  have HI : Hid (inT 5 a b c d = true) := yz (rightT_iff.1 hr).1
  clear hk hok hr
  generalize L.length = n at *
  obtain ⟨i0, hi, hz0, hz1, hz2⟩ := info_parts info_int
  have HB0 := yz ((below1 w (.cells #[.int .i64 a, .int .i64 b, .int .i64 c, .int .i64 d] 46)).alloc (by simp) (.cells #[] 2))
  have HA0 := yz ((turnAt_new w a b c d 46).alloc (.cells #[] 2))
  have HW0 := yz (World.ownsRow_lit (base := w.heap.size + 1) (e := 2) (size := 1) (w.alloc (.cells #[.int .i64 a, .int .i64 b, .int .i64 c, .int .i64 d] 46)) #[] 0 (by simp) (by simp [maxLen]) rfl)
  go_enter Tryz.func112, Tryz.ntmps112
  go_wp2_with fail
  rcases hS with rfl | ⟨b0, o, rfl, hb, hc⟩
  · refine wp_loop_rounds 1 ?_
    rw [rounds_succ]
    go_wp2_with fail
    go_ret
    exact ⟨_, rfl, by simpa [seenTo, ints] using yy HW0, yy HB0⟩
  have HC := yz hc
  clear hc
  go_loopw [7, 8] (fun v i wr => ∃ k : Nat, k ≤ n ∧ i = .int .i64 k ∧ Hid (wr.ownsRow (w.heap.size + 1) 2 1 v (seenTo L a b c d cone k).length (ints (seenTo L a b c d cone k))) ∧ Hid (Below w.heap.size w wr) ∧ Hid (TurnAt wr w.heap.size a b c d)) (fun _ i _ => n - (intOf i).toNat)
  case atStart => exact ⟨0, by omega, rfl, yz (by simpa [seenTo, ints] using yy HW0), HB0, HA0⟩
  case round =>
    clear HB0 HA0 HW0
    obtain ⟨k, hk, rfl, HW, HB, HA⟩ := hrel
    by_cases hkn : k < n
    · obtain ⟨⟨s1, s2, s3, s4⟩, hs⟩ : ∃ s, stA L k = s := ⟨_, rfl⟩
      have hst := ((yy HC) k hkn).kept hb (yy HB)
      have hsm := ok_small ((yy HO) k hkn)
      rw [hs] at hst hsm
      have HST := yz hst
      obtain ⟨c0, c1, c2, c3⟩ := hst
      have hw18 : withinB 1800 s2 s3 s4 = true := by
        have hsm2 : smallB s2 s3 s4 = true := hsm
        have := withinB_iff.1 (small_iff hsm2).2
        exact withinB_iff.2 ⟨by omega, by omega, by omega⟩
      have cA := yz (fun W => l03Apply_any a b c d s2 s3 s4 W (yy HI) hw18)
      have HQ : Hid (coneS (stA L k) a b c d cone = coneB (apX a b c d s2 s3 s4) (apY a b c d s2 s3 s4) (apZ a b c d s2 s3 s4) cone) := yz (by rw [hs]; rfl)
      have HT := yz hs
      generalize apX a b c d s2 s3 s4 = x at cA HQ
      generalize apY a b c d s2 s3 s4 = y at cA HQ
      generalize apZ a b c d s2 s3 s4 = z at cA HQ
      have hkn2 : (k : Int) < (n : Int) := by omega
      clear hs hsm hw18
      go_wp2_with fail
      have K1 := yz c1
      have K2 := yz c2
      have K3 := yz c3
      clear c0 c1 c2 c3
      go_cut [9] (fun s wx => ∃ bb, s = .pointer (some ⟨bb, 0, none⟩) ∧ VecAt wx bb x y z ∧ Below wr.heap.size wr wx)
      case first =>
        go_region_held (fun w' => ((w'.cell? ⟨w.heap.size, 0, none⟩ = some (.int .i64 a) ∧ w'.cell? ⟨w.heap.size, 1, none⟩ = some (.int .i64 b) ∧ w'.cell? ⟨w.heap.size, 2, none⟩ = some (.int .i64 c) ∧ w'.cell? ⟨w.heap.size, 3, none⟩ = some (.int .i64 d)) ∧ (w'.cell? ⟨b0, o + k * 4 + 1, none⟩ = some (.int .i64 s2) ∧ w'.cell? ⟨b0, o + k * 4 + 2, none⟩ = some (.int .i64 s3) ∧ w'.cell? ⟨b0, o + k * 4 + 3, none⟩ = some (.int .i64 s4))) ∧ Below wr.heap.size wr w') (first | exact holdS (yy HA) (yy K1) (yy K2) (yy K3) (Below.refl _ _).drew | exact holdS (yy HA) (yy K1) (yy K2) (yy K3) (stepAlloc (by assumption) _) | exact holdS (yy HA) (yy K1) (yy K2) (yy K3) (by assumption) | exact holdS (yy HA) (yy K1) (yy K2) (yy K3) (stepAlloc2 (by assumption) _) | exact holdS (yy HA) (yy K1) (yy K2) (yy K3) (stepSet3 (by assumption) (by first | exact Nat.le_refl _ | exact Below.size (by assumption)) _ _ _)) ((go_at_call 70; refine (yy cA _).mono ?_; rintro e wn ⟨rfl, hx⟩; have hw := stepCall (w1 := wr) hx (by assumption); first | (have hr : Resv wn wr.heap.size := newVecD hx; have hr2 := hr; obtain ⟨⟨r0, r1, r2⟩, f0, f1, f2⟩ := hr2) | (have hr := newVec hx; have hr2 := hr; obtain ⟨⟨r0, r1, r2⟩, f0, f1, f2⟩ := hr2) | (have hr := keptVec (by assumption) hx; have hr2 := hr; obtain ⟨⟨r0, r1, r2⟩, f0, f1, f2⟩ := hr2) | skip))
        all_goals (go_wp2_with fail; go_meet; refine ⟨_, rfl, ?_, ?_⟩)
        all_goals first | (with_reducible exact vecAt_new _ _ _ _ _) | (with_reducible exact stepAlloc2 (by assumption) _) | (with_reducible exact vecAt_set3 (by assumption) _ _ _) | (with_reducible exact below_set3' (by assumption) (by first | exact Nat.le_refl _ | exact Below.size (by assumption)) _ _ _) | trace_state
      case rest =>
        obtain ⟨bb, rfl, v5, hx⟩ := hcut
        have B2 := yz (below_call (yy HB) hx)
        have A2 := yz ((yy HA).kept (yy HA).lt hx)
        have W2 := yz (ownKept (yy HW) hx)
        have S2 := yz ((yy HST).kept (World.block_lt_of_cell? _ _ (yy HST).1) hx)
        obtain ⟨v0, v1, v2⟩ := v5
        have r0 := cell_regrown v0
        have r1 := cell_regrown v1
        have r2 := cell_regrown v2
        have cQ := yz (fun W => l02Dot_any x y z x y z W)
        have HD : Hid (coneB x y z cone = (decide (0 < z) && decide (wrap64 (wrap64 (cone * cone) * dotW x y z x y z) ≤ wrap64 (wrap64 (10000 * z) * z)))) := yz rfl
        generalize dotW x y z x y z = dd at cQ HD
        obtain ⟨m1, hm1⟩ : ∃ m, wrap64 (10000 * z) = m := ⟨_, rfl⟩
        obtain ⟨m2, hm2⟩ : ∃ m, wrap64 (m1 * z) = m := ⟨_, rfl⟩
        obtain ⟨m3, hm3⟩ : ∃ m, wrap64 (cone * cone) = m := ⟨_, rfl⟩
        obtain ⟨m4, hm4⟩ : ∃ m, wrap64 (m3 * dd) = m := ⟨_, rfl⟩
        rw [hm1, hm2, hm3, hm4] at HD
        clear hx HB HA HW HST K1 K2 K3 cA v0 v1 v2
        have hlen := seenTo_len L a b c d cone k
        go_wp2_with fail
        go_cut [42] (fun s wx => s = .bool (coneS (stA L k) a b c d cone) ∧ Below wc.heap.size wc wx)
        case first =>
          by_cases hz : 0 < z
          · have HC2 : Hid (coneB x y z cone = decide (m4 ≤ m2)) := yz (by rw [yy HD]; simp [hz])
            refine wp_region_quiet_below (by kernel_rfl) (by kernel_rfl) ?_
            repeat (go_big_quiet_step (first | (with_reducible exact Calls.regrown_of (yy cQ _))))
            refine wpQuiet_nil ?_
            intro _ hw'
            obtain ⟨⟨dq, osq⟩, hw''⟩ := hw'
            subst hw''
            have hx := below_regrown wc dq osq
            go_wp2_with fail
            go_meet
            case rel => exact ⟨by rw [yy HQ, yy HC2], hx⟩
          · have hz' : decide (0 < z) = false := by simpa using hz
            have HC2 : Hid (coneB x y z cone = false) := yz (by rw [yy HD, hz']; rfl)
            refine wp_region_quiet_below (by kernel_rfl) (by kernel_rfl) ?_
            repeat (go_big_quiet_step (first | (with_reducible exact Calls.regrown_of (yy cQ _))))
            refine wpQuiet_nil ?_
            intro _ hw'
            obtain ⟨⟨dq, osq⟩, hw''⟩ := hw'
            subst hw''
            have hx := below_regrown wc dq osq
            go_wp2_with fail
            go_meet
            case rel => exact ⟨by rw [yy HQ, yy HC2], hx⟩
        case rest =>
          obtain ⟨rfl, hx⟩ := hcut
          have B3 := yz (below_call (yy B2) hx)
          have A3 := yz ((yy A2).kept (yy A2).lt hx)
          have S3 := yz ((yy S2).kept (World.block_lt_of_cell? _ _ (yy S2).1) hx)
          have hown := ownKept (yy W2) hx
          clear hx B2 A2 W2 S2 r0 r1 r2 cQ HD hm1 hm2 hm3 hm4
          cases hq : coneS (stA L k) a b c d cone
          · have HE2 : Hid (seenTo L a b c d cone (k + 1) = seenTo L a b c d cone k) := yz (by show (if _ then _ else _) = _; rw [hq]; rfl)
            have W3 := yz hown
            clear hown hq
            go_wp2_with fail
            go_roundw
            case rel => exact ⟨k + 1, by omega, by go_num, by rw [yy HE2]; exact W3, B3, A3⟩
            case measure => simp [intOf]; omega
          · have HE2 : Hid (seenTo L a b c d cone (k + 1) = seenTo L a b c d cone k ++ [s1]) := yz (by show (if _ then _ else _) = _; rw [hq, yy HT]; rfl)
            clear hq
            obtain ⟨e0, _, _, _⟩ := yy S3
            have hsz := (yy B3).size
            have hbl : w.heap.size < wc.heap.size := (yy A3).lt
            go_wp2_with (at_builtin; refine wpList_append_own _ rfl _ _ 85 rfl (w.heap.size + 1) 2 i0 (.int .i64 0) 1 8 Tryz.underlying85 hi hz0 hz1 hz2 rfl (by decide) _ _ _ rfl (hown.alloc _) ⟨wc.heap.size, 0, none⟩ 1 1 [.int .i64 s1] rfl rfl ?c1 ?c2 ?c3 ?c4 ?c5 ?_)
            case c2 => rfl
            case c3 => unfold maxLen; omega
            case c4 => omega
            intro v' V4 hown' hgrow _
            have hne : some w.heap.size ≠ u7.ownBlock := fun e => by have := (hown.lt _ e.symm).1; omega
            have A4 := yz (((yy A3).alloc (.cells #[.int .i64 s1] 2)).grown hgrow hne)
            have B4 := yz (grownOwn (w2 := V4) ((yy B3).alloc (yy B3).size (.cells #[.int .i64 s1] 2)) (by simp; omega) (World.ownsRow_weak (hown.alloc (.cells #[.int .i64 s1] 2))) hgrow)
            have W4 : Hid (V4.ownsRow (w.heap.size + 1) 2 1 v' (seenTo L a b c d cone (k + 1)).length (ints (seenTo L a b c d cone (k + 1)))) := yz (by rw [yy HE2]; simpa [ints] using hown')
            clear hown' hown hgrow hne A3 B3 S3 e0
            go_wp2_with fail
            go_roundw
            case rel => exact ⟨k + 1, by omega, by go_num, W4, B4, A4⟩
            case measure => simp [intOf]; omega
    · have hkn' : k = n := by omega
      subst hkn'
      go_wp2_with fail
      go_ret
      exact ⟨_, rfl, yy HW, yy HB⟩
set_option maxHeartbeats 2000000 in
set_option maxRecDepth 100000 in
theorem specSeen_any (L : List St) (a b c d cone : Int) (ar : Option Addr) (cap : Nat) (w : World) (hn : L.length ≤ 1048576) (hS : Stars w ar L L.length) :
    Calls Tryz.prog 69 #[.slice ar L.length cap, .agg #[.int .i64 a, .int .i64 b, .int .i64 c, .int .i64 d], .int .i64 cone] w fun e w' => ∃ v, e = .returned v ∧ w'.ownsRow (w.heap.size + 1) 2 1 v (seenL L a b c d cone).length (ints (seenL L a b c d cone)) ∧ Below w.heap.size w w' := by
  have cS := yz (fun (W : World) hW => specSky_any L ar cap W hn hW)
  have cA := yz (fun (W : World) hk hr hW => l04Seen_any L a b c d cone ar cap W hk hr hW)
  have HS := yz hS
  clear hS
  have HV := yz (show seenL L a b c d cone = if (skyB L && rightT a b c d && (decide (0 ≤ cone) && decide (cone ≤ 100))) = true then seenTo L a b c d cone L.length else [] from rfl)
  have H12 : Hid (skyB L = true → L.length ≤ 12) := yz (fun h => (sky_ok h).1)
  generalize L.length = n at *
  have HB := yz (below1 w (.cells #[.int .i64 a, .int .i64 b, .int .i64 c, .int .i64 d] 46))
  have HA := yz (turnAt_new w a b c d 46)
  have none : ∀ (W : World), Below w.heap.size w W → w.heap.size + 1 ≤ W.heap.size → (W.alloc (.cells #[] 2)).ownsRow (w.heap.size + 1) 2 1 (.slice (some ⟨W.heap.size, 0, none⟩) 0 0) 0 [] ∧ Below w.heap.size w (W.alloc (.cells #[] 2)) := fun W h1 h2 =>
    ⟨World.ownsRow_lit W #[] 0 h2 (by simp [maxLen]) rfl, h1.alloc h1.size _⟩
  have HN := yz none
  clear none
  by_cases hbig : (400 : Int) < (n : Int)
  · have hk : skyB L = false := by cases h : skyB L with | false => rfl | true => have := yy H12 h; omega
    rw [hk] at HV
    clear hk
    go_enter Tryz.func69, Tryz.ntmps69
    go_wp2_with fail
    go_ret
    exact ⟨_, rfl, by rw [yy HV]; simpa using yy HN _ (yy HB) (by simp)⟩
  have hbig' : decide ((400 : Int) < (n : Int)) = false := by simpa using hbig
  go_enter Tryz.func69, Tryz.ntmps69
  go_wp2_with fail
  refine (yy cS _ ((yy HS).kept (yy HB))).mono ?_
  rintro e w1 ⟨rfl, hx⟩
  have HB1 := yz (below_call (yy HB) hx)
  have HA1 := yz ((yy HA).kept (by simp) hx)
  clear hx HB HA
  have hl1 : w.heap.size + 1 ≤ w1.heap.size := (yy HA1).lt
  cases hk : skyB L
  · rw [hk] at HV
    clear hk
    go_wp2_with fail
    go_ret
    exact ⟨_, rfl, by rw [yy HV]; exact yy HN _ (yy HB1) hl1⟩
  rw [hk] at HV
  have va := yy HA1
  obtain ⟨c0, c1, c2, c3⟩ := va
  have HK := yz hk
  clear hk
  go_wp2_with fail
  refine (specTRight_any a b c d _).mono ?_
  rintro e w2 ⟨rfl, hx⟩
  have HB2 := yz (below_call (yy HB1) hx)
  have HA2 := yz ((yy HA1).kept (yy HA1).lt hx)
  clear hx HB1 HA1 c0 c1 c2 c3
  have hl2 : w.heap.size + 1 ≤ w2.heap.size := (yy HA2).lt
  cases hr : rightT a b c d
  · rw [hr] at HV
    clear hr
    go_wp2_with fail
    go_ret
    exact ⟨_, rfl, by rw [yy HV]; exact yy HN _ (yy HB2) hl2⟩
  rw [hr] at HV
  have HR := yz hr
  clear hr
  go_wp2_with fail
  refine (l02Is_any cone 0 100 _).mono ?_
  rintro e w3 ⟨rfl, hw⟩
  rw [hw]
  clear hw w3
  cases hc : (decide (0 ≤ cone) && decide (cone ≤ 100))
  · rw [hc] at HV
    clear hc
    go_wp2_with fail
    go_ret
    exact ⟨_, rfl, by rw [yy HV]; exact yy HN _ (yy HB2) hl2⟩
  rw [hc] at HV
  have HV' : Hid (seenL L a b c d cone = seenTo L a b c d cone n) := yz (by rw [yy HV]; rfl)
  clear hc HV
  have va := yy HA2
  obtain ⟨c0, c1, c2, c3⟩ := va
  go_wp2_with fail
  refine (yy cA _ (yy HK) (yy HR) ((yy HS).kept (yy HB2))).mono ?_
  rintro e w4 ⟨v, rfl, ho, hx⟩
  have HO : Hid (w4.ownsRow (w.heap.size + 1) 2 1 v (seenTo L a b c d cone n).length (ints (seenTo L a b c d cone n))) := yz (World.ownsRow_less ho (by omega))
  have HB4 := yz (below_call (yy HB2) hx)
  clear hx ho c0 c1 c2 c3
  go_wp2_with fail
  go_ret
  exact ⟨_, rfl, by rw [yy HV']; exact yy HO, yy HB4⟩
end Go.Proofs.YtofpjlhoppofdaaGreatDoor
namespace Go.Proofs.YtofpjlhoppofdaaGreatDoor
set_option linter.unusedVariables false
structure Tk where
  L : List St
  lim : Int
  mode : Int
  A : Int
  B : Int
  C : Int
  D : Int
  coast : Int
  fr : Int
def spanB (lo hi x : Int) : Bool := decide (lo ≤ x) && decide (x ≤ hi)
def modeB (t : Tk) : Bool :=
  if t.mode = 0 then eqT t.A t.B t.C t.D 0 0 0 0 && decide (t.coast = 0)
  else if t.mode = 1 then rightT t.A t.B t.C t.D && decide (t.coast = 0)
  else if t.mode = 2 then rightT t.A t.B t.C t.D && spanB 1 t.lim t.coast
  else false
def headB (t : Tk) : Bool := skyB t.L && spanB 1 5 t.lim && spanB 0 1000000 t.fr
def trackB (t : Tk) : Bool := headB t && modeB t
theorem span_iff {lo hi x : Int} : spanB lo hi x = true ↔ lo ≤ x ∧ x ≤ hi := by unfold spanB; simp
theorem track_no1 {t : Tk} (h : skyB t.L = false) : trackB t = false := by unfold trackB headB; rw [h]; rfl
theorem track_no2 {t : Tk} (h : spanB 1 5 t.lim = false) : trackB t = false := by unfold trackB headB; rw [h]; simp
theorem track_no3 {t : Tk} (h : spanB 0 1000000 t.fr = false) : trackB t = false := by unfold trackB headB; rw [h]; simp
theorem track_head {t : Tk} (h1 : skyB t.L = true) (h2 : spanB 1 5 t.lim = true) (h3 : spanB 0 1000000 t.fr = true) : trackB t = modeB t := by unfold trackB headB; rw [h1, h2, h3]; rfl
theorem mode_0 {t : Tk} (h : t.mode = 0) : modeB t = (eqT t.A t.B t.C t.D 0 0 0 0 && decide (t.coast = 0)) := by unfold modeB; rw [if_pos h]
theorem mode_1 {t : Tk} (h : t.mode = 1) : modeB t = (rightT t.A t.B t.C t.D && decide (t.coast = 0)) := by unfold modeB; rw [if_neg (by omega), if_pos h]
theorem mode_2 {t : Tk} (h : t.mode = 2) : modeB t = (rightT t.A t.B t.C t.D && spanB 1 t.lim t.coast) := by unfold modeB; rw [if_neg (by omega), if_neg (by omega), if_pos h]
theorem mode_n {t : Tk} (h0 : t.mode ≠ 0) (h1 : t.mode ≠ 1) (h2 : t.mode ≠ 2) : modeB t = false := by unfold modeB; rw [if_neg h0, if_neg h1, if_neg h2]
theorem track_mode {t : Tk} (h : trackB t = true) : modeB t = true := by unfold trackB at h; rw [Bool.and_eq_true] at h; exact h.2
theorem track_turn {t : Tk} (h : trackB t = true) (h0 : t.mode ≠ 0) : rightT t.A t.B t.C t.D = true := by
  have hm := track_mode h
  by_cases h1 : t.mode = 1
  · rw [mode_1 h1, Bool.and_eq_true] at hm; exact hm.1
  · by_cases h2 : t.mode = 2
    · rw [mode_2 h2, Bool.and_eq_true] at hm; exact hm.1
    · rw [mode_n h0 h1 h2] at hm; cases hm
def lostT (t : Tk) : Tk := { t with mode := 0, A := 0, B := 0, C := 0, D := 0, coast := 0 }
def zeroK : Tk := ⟨[], 0, 0, 0, 0, 0, 0, 0, 0⟩
end Go.Proofs.YtofpjlhoppofdaaGreatDoor
