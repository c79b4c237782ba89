/- The law on spots: plain facts. A spot lies ahead and is its own prime; each spot of a frame is that of a good blob. -/
import Derived.Test.YtmacbegchdjdnaaSpL
import Derived.Test.YtmacbegchdjdnaaTurnMath2
namespace Go.Proofs.Ytmacbegchdjdnaa
open Go.RowKit Go.Sort
set_option linter.unusedVariables false

theorem spot_prime (su sx sy wd ht : Int) (s : ByteArray) (fo : Int) : ∃ x y z : Int, spV su sx sy wd ht s fo = .agg #[.int .i64 x, .int .i64 y, .int .i64 z] ∧ ((x = 0 ∧ y = 0 ∧ z = 0) ∨ (0 < z ∧ prI (rightB x y z) (gI x y z) x = x ∧ prI (rightB x y z) (gI x y z) y = y ∧ prI (rightB x y z) (gI x y z) z = z)) := by
  by_cases h : spOk su sx sy wd ht s fo = true
  · have hr := sp_right h
    have hz : 0 < spZ fo su := by have := (sp_bounds h).2.2.2.2.2.1; unfold spZ; omega
    rw [spV_yes h]
    generalize spX sx wd su = X at *
    generalize spX sy ht su = Y at *
    generalize spZ fo su = Z at *
    obtain ⟨p, q, r, e1, e2, e3, f1, f2, f3, hg⟩ := prime_of hr
    rw [e1, e2, e3]
    refine ⟨p, q, r, rfl, .inr ?_⟩
    have hm := gI_mul (k := gI X Y Z) (by omega) p q r
    rw [← f1, ← f2, ← f3] at hm
    have hb := (rightB_iff.1 hr).1
    generalize gI X Y Z = g at *
    have h1 : gI p q r = 1 := (Int.eq_of_mul_eq_mul_left (a := g) (by omega) (by rw [Int.mul_one]; exact hm)).symm
    have hrp : 0 < r := by
      rcases Int.lt_or_le 0 r with h | h
      · exact h
      · have := Int.mul_nonpos_of_nonneg_of_nonpos (show 0 ≤ g by omega) h
        omega
    have key : ∀ {n k : Int}, (-1000000 ≤ n ∧ n ≤ 1000000) → n = g * k → (-1000000 ≤ k ∧ k ≤ 1000000) := by
      intro n k hn e
      have e1 : n.tdiv g = k := by rw [e]; exact Int.mul_tdiv_cancel_left k (by omega)
      have hb := tdiv_le (s := g) hn
      rw [e1] at hb
      exact hb
    have bp := key hb.1 f1
    have bq := key hb.2.1 f2
    have br := key hb.2.2 f3
    have hR : rightB p q r = true := rightB_iff.2 ⟨⟨bp, bq, br⟩, by omega⟩
    rw [hR, h1]
    have one : ∀ {k : Int}, (-1000000 ≤ k ∧ k ≤ 1000000) → prI true 1 k = k := by
      intro k hk
      unfold prI
      rw [if_pos rfl, Int.tdiv_one]
      exact wrap_id (by omega) (by omega)
    exact ⟨hrp, one bp, one bq, one br⟩
  · have h' : spOk su sx sy wd ht s fo = false := by simpa using h
    exact ⟨0, 0, 0, spV_no h', .inl ⟨rfl, rfl, rfl⟩⟩
/-- whether one of the first k blobs is good, and its spot is v -/
def seenP (wd ht : Int) (s : ByteArray) (fo : Int) (S : List Bl) (v : Int × Int × Int) (k : Nat) : Bool :=
  (S.take k).any (fun b => goodB b.ar b.ed 1 20 && eqB (spT wd ht s fo b).1 (spT wd ht s fo b).2.1 (spT wd ht s fo b).2.2 v.1 v.2.1 v.2.2)
theorem seenP_zero (wd ht : Int) (s : ByteArray) (fo : Int) (S : List Bl) (v : Int × Int × Int) : seenP wd ht s fo S v 0 = false := by unfold seenP; simp
theorem seenP_step (wd ht : Int) (s : ByteArray) (fo : Int) (S : List Bl) (v : Int × Int × Int) (k : Nat) (b : Bl) (hk : S[k]? = some b) :
    seenP wd ht s fo S v (k + 1) = (seenP wd ht s fo S v k || (goodB b.ar b.ed 1 20 && eqB (spT wd ht s fo b).1 (spT wd ht s fo b).2.1 (spT wd ht s fo b).2.2 v.1 v.2.1 v.2.2)) := by
  obtain ⟨hl, he⟩ := List.getElem?_eq_some_iff.1 hk
  unfold seenP
  rw [List.take_succ_eq_append_getElem hl, he, List.any_append]
  simp
theorem seenP_all (wd ht : Int) (s : ByteArray) (lv fo : Int) (i : Nat) (v : Int × Int × Int) (h : (spotsR wd ht s lv fo)[i]? = some v) :
    seenP wd ht s fo (resB wd ht s lv) v (resB wd ht s lv).length = true := by
  unfold spotsR at h
  split at h
  · have hm := List.mem_of_getElem? h
    unfold pickS at hm
    obtain ⟨b, hb, rfl⟩ := List.mem_map.1 hm
    obtain ⟨hb1, hb2⟩ := List.mem_filter.1 hb
    unfold seenP
    rw [List.take_length, List.any_eq_true]
    refine ⟨b, hb1, ?_⟩
    unfold keepS at hb2
    rw [Bool.and_eq_true] at hb2
    rw [hb2.1]
    simp [eqB]
  · simp at h
end Go.Proofs.Ytmacbegchdjdnaa
