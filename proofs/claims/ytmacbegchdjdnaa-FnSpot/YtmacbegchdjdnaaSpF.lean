/- The law on SpotsOf, walked. -/
import Derived.Test.YtmacbegchdjdnaaSpE
import Derived.Test.YtmacbegchdjdnaaListV
namespace Go.Proofs.Ytmacbegchdjdnaa
open Go.RowKit Go.Sort
set_option linter.unusedVariables false

theorem flatV_kind : ∀ (R : List (Int × Int × Int)) (j : Nat), j < R.length * 3 → ∃ z, (flatV R)[j]? = some (.int .i64 z)
  | [], j, h => by simp at h
  | b :: R, j, h => by
    have e : flatV (b :: R) = vec3 b ++ flatV R := by unfold flatV; simp
    rw [e]
    by_cases h5 : j < 3
    · have hc : j = 0 ∨ j = 1 ∨ j = 2 := by omega
      rcases hc with rfl | rfl | rfl <;> exact ⟨_, rfl⟩
    · have hl : (vec3 b).length = 3 := rfl
      rw [List.getElem?_append_right (by omega), hl]
      exact flatV_kind R (j - 3) (by simp at h; omega)
def vcI (R : List (Int × Int × Int)) (j : Nat) : Int := match (flatV R)[j]? with | some (.int _ z) => z | _ => 0
theorem flatV_val (R : List (Int × Int × Int)) (fB : Nat → Bool) (j : Nat) (h : j < R.length * 3) : (flatV R)[j]? = some (valVecS (vcI R) fB j) := by
  obtain ⟨z, hz⟩ := flatV_kind R j h
  unfold valVecS vcI
  rw [hz]
theorem spotsR_len (wd ht : Int) (s : ByteArray) (lv fo : Int) : (spotsR wd ht s lv fo).length ≤ 8 := by
  unfold spotsR
  split
  · have := pick_len wd ht s fo (resB wd ht s lv)
    have := resB_len' wd ht s lv
    omega
  · simp
theorem Blk.apartV {w w' : World} {b lo hi : Nat} {cs : List Value} {t : TypeId} (h : Blk w b cs t) (ha : Apart lo hi w w') (hd : b < lo ∨ hi ≤ b) : Blk w' b cs t := (ha.block b h.lt hd).trans h
theorem belowV {B lo hi : Nat} {w w1 w2 : World} (h : Below B w w1) (ha : Apart lo hi w1 w2) (hB : B ≤ lo) (hs : B ≤ w1.heap.size) : Below B w w2 :=
  h.trans ⟨ha.os, ha.tape, ha.output, ha.size, fun k hk => ha.block k (by omega) (.inl (by omega))⟩
end Go.Proofs.Ytmacbegchdjdnaa
