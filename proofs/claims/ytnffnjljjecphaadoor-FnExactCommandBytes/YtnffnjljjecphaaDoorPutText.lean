/- PutText: the specification's and the program's functions answer the same text, 'textS'. -/
import Derived.Test.YtnffnjljjecphaaDoorPutNum
import Derived.Test.YtnffnjljjecphaaDoorJoin
namespace Go.Proofs.YtnffnjljjecphaaDoor
open Go.RowKit

def textS (t : ByteArray) : ByteArray := if 8000 < t.size then ⟨#[]⟩ else numS (t.size : Int) ++ t

set_option maxHeartbeats 400000 in
theorem specPutText_any (t : ByteArray) (w : World) (hs : t.size ≤ 1048576) :
    Calls Tryd.prog 40 #[.string t] w fun e w' => e = .returned (.string (textS t)) ∧ Below w.heap.size w w' := by
  by_cases h1 : 8000 < t.size
  · have HS := hide (show textS t = ⟨#[]⟩ by simp [textS, h1])
    go_enter Tryd.func40, Tryd.ntmps40
    go_wp2
    go_ret
    exact ⟨by rw [unhide HS]; rfl, Below.refl _ _⟩
  · have HS := hide (show textS t = numS (t.size : Int) ++ t by simp [textS, h1])
    have hn := numS_size (t.size : Int)
    go_enter Tryd.func40, Tryd.ntmps40
    go_wp2_with fail
    refine (specPutNum_any _ _ (by omega) (by omega)).mono ?_
    rintro e w1 ⟨rfl, hb⟩
    go_wp2
    go_ret
    exact ⟨by rw [unhide HS]; rfl, hb⟩

set_option maxHeartbeats 400000 in
theorem implPutText_any (t : ByteArray) (w : World) (hs : t.size ≤ 1048576) :
    Calls Tryd.prog 153 #[.string t] w fun e w' => e = .returned (.string (textS t)) ∧ Below w.heap.size w w' := by
  by_cases h1 : 8000 < t.size
  · have HS := hide (show textS t = ⟨#[]⟩ by simp [textS, h1])
    go_enter Tryd.func153, Tryd.ntmps153
    go_wp2
    go_ret
    exact ⟨by rw [unhide HS]; rfl, Below.refl _ _⟩
  · have HS := hide (show textS t = numS (t.size : Int) ++ t by simp [textS, h1])
    have hn := numS_size (t.size : Int)
    go_enter Tryd.func153, Tryd.ntmps153
    go_wp2_with fail
    refine (implPutNum_any _ _ (by omega) (by omega)).mono ?_
    rintro e w1 ⟨rfl, hb1⟩
    go_wp2_with fail
    refine (joinTexts_any _ _ _ (by omega) (by omega)).mono ?_
    rintro e w2 ⟨rfl, hb2⟩
    go_wp2
    go_ret
    exact ⟨by rw [unhide HS]; rfl, hb1.trans (hb2.mono hb1.size)⟩
end Go.Proofs.YtnffnjljjecphaaDoor
