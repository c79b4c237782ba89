/- readSky: the program's. -/
import Derived.Test.YtijpnnooenpjoagDoorReadB
namespace Go.Proofs.YtijpnnooenpjoagDoor
open Go.RowKit
set_option linter.unusedVariables false

def goodL (s : ByteArray) : Option (List St) := match readAll s with
  | none => none
  | some (L, q) => if q = s.size ∧ skyB L = true then some L else none
def skyRes (B : Nat) (r : Option (List St)) (e : Ending) (w' : World) : Prop := match r with
  | none => ∃ v why, e = .returned (.tuple #[v, faultA why])
  | some L => ∃ v, e = .returned (.tuple #[v, .nilIface]) ∧ w'.ownsRow B 60 4 v L.length (flatS L)
theorem flatS_snoc (L : List St) (x : St) : flatS (L ++ [x]) = flatS L ++ stC x := by
  unfold flatS
  rw [List.flatMap_append]
  simp [List.flatMap_cons]
theorem cells4_new (w : World) (s1 s2 s3 s4 : Int) (t : TypeId) : ∀ (j : Nat) (u : Value), [Value.int .i64 s1, Value.int .i64 s2, Value.int .i64 s3, Value.int .i64 s4][j]? = some u → (w.alloc (.cells #[.int .i64 s1, .int .i64 s2, .int .i64 s3, .int .i64 s4] t)).cell? ((⟨w.heap.size, 0, none⟩ : Addr).add j) = some u := by
  intro j u hj
  match j, hj with
  | 0, hj => simp at hj; subst hj; simp [Addr.add]
  | 1, hj => simp at hj; subst hj; simp [Addr.add]
  | 2, hj => simp at hj; subst hj; simp [Addr.add]
  | 3, hj => simp at hj; subst hj; simp [Addr.add]
  | j + 4, hj => simp at hj
theorem ownKept' {w w' : World} {B : Nat} {t : TypeId} {v : Value} {n m : Nat} {xs : List Value} (h : w.ownsRow B t m v n xs) (hB : Below w.heap.size w w') : w'.ownsRow B t m v n xs :=
  h.kept (row := none) ⟨hB.os, hB.tape, hB.output, hB.size, fun k hk _ => hB.block k hk⟩ (by cases hv : v.ownBlock <;> simp)
theorem grownOwn' {B : Nat} {w w1 w2 : World} {v : Value} {t : TypeId} {n m : Nat} {xs : List Value} (h : Below B w w1) (ho : w1.ownsRow B t m v n xs) (hg : w1.grownBy w2 v.ownBlock) (hB : B ≤ w1.heap.size) : Below B w w2 :=
  h.trans ⟨hg.os, hg.tape, hg.output, hg.size, fun k hk => hg.block k (by omega) (fun e => by have := (ho.lt k e.symm).1; omega)⟩

set_option maxHeartbeats 4000000 in
set_option maxRecDepth 100000 in
theorem readSky_any (s : ByteArray) (w : World) (hs : s.size ≤ 8000) :
    Calls Tryd.prog 60 #[.string s] w fun e w' => skyRes w.heap.size (goodL s) e w' ∧ Below w.heap.size w w' := by
  have mE := methodError
  obtain ⟨i0, hi, hz0, hz1, hz2⟩ := info_parts info_star
  go_enter Tryd.func60, Tryd.ntmps60
  go_wp2_with fail
  refine (readNum_any s 0 _ hs (by omega)).mono ?_
  rintro e w1 ⟨rfl, hw⟩
  rw [hw]
  clear hw w1
  cases h0 : scanN s 0 with
  | none =>
    obtain ⟨c, hc⟩ := num_none h0
    rw [hc]
    have HO : Hid (goodL s = none) := hide (by unfold goodL readAll; simp only [h0])
    clear hc h0
    go_wp2_with fail
    refine (faultText_any c _).mono ?_
    rintro e wz ⟨⟨t, rfl⟩, hx⟩
    go_wp2_with fail
    go_ret2
    exact ⟨by rw [unhide HO]; exact ⟨_, t, rfl⟩, hx⟩
  | some x0 =>
    obtain ⟨n, p⟩ := x0
    rw [num_some h0]
    have l0 := scanN_le h0
    by_cases hn0 : n < 0
    · have HO : Hid (goodL s = none) := hide (by unfold goodL readAll; simp only [h0]; rw [if_pos (.inl hn0)])
      clear h0
      go_wp2_with fail
      go_ret2
      exact ⟨by rw [unhide HO]; exact ⟨_, _, rfl⟩, Below.refl _ _⟩
    by_cases hn1 : 12 < n
    · have HO : Hid (goodL s = none) := hide (by unfold goodL readAll; simp only [h0]; rw [if_pos (.inr hn1)])
      have hn0' : decide (n < 0) = false := by simpa using hn0
      clear h0
      go_wp2_with fail
      go_ret2
      exact ⟨by rw [unhide HO]; exact ⟨_, _, rfl⟩, Below.refl _ _⟩
    obtain ⟨c, rfl⟩ : ∃ c : Nat, n = (c : Int) := ⟨n.toNat, by omega⟩
    have HR : Hid (readAll s = readTo s p c) := hide (by unfold readAll; simp only [h0]; rw [if_neg (by omega)]; rfl)
    have hn0' : decide ((c : Int) < 0) = false := by simp
    clear h0
    go_wp2_with fail
    clear hn0' hn0 hn1
    have hc12 : c ≤ 12 := by omega
    go_loopw [5, 7, 32] (fun t v i wr => ∃ (k : Nat) (L : List St) (q : Nat), k ≤ c ∧ i = .int .i64 k ∧ t = .int .i64 (q : Int) ∧ Hid (readTo s p k = some (L, q)) ∧ Hid (wr.ownsRow w.heap.size 60 4 v L.length (flatS L)) ∧ Hid (Below w.heap.size w wr)) (fun _ _ i _ => c - (intOf i).toNat)
    case atStart => exact ⟨0, [], p, by omega, rfl, rfl, hide rfl, hide (World.ownsRow_nil _ _ _ _), hide (Below.refl _ _)⟩
    case round =>
      obtain ⟨k, L, q, hk, rfl, rfl, HT, HW, HB⟩ := hrel
      have hqs := (readTo_le (by omega) k (unhide HT)).1
      have hlb : L.length ≤ 12 := by have := (readTo_le (by omega) k (unhide HT)).2; omega
      by_cases hkn : k < c
      · have hkn2 : (k : Int) < (c : Int) := by omega
        go_wp2_with fail
        refine (readStar_any s q _ hs (by omega)).mono ?_
        rintro e w1 ⟨hres, hx⟩
        have B1 := hide (below_call (unhide HB) hx)
        have W1 := hide (ownKept' (unhide HW) hx)
        clear hx HB HW
        cases hr : read4 s q with
        | none =>
          rw [hr] at hres
          obtain ⟨why, rfl⟩ := hres
          have HO : Hid (goodL s = none) := hide (by
            have e : readTo s p (k + 1) = none := by unfold readTo; rw [unhide HT]; simp only [hr]
            unfold goodL
            rw [unhide HR, readTo_stop e hkn])
          clear hr
          unfold starA faultA
          go_wp2_with fail
          go_ret2
          exact ⟨by rw [unhide HO]; exact ⟨_, why, rfl⟩, (unhide B1).alloc (unhide B1).size _⟩
        | some y =>
          obtain ⟨⟨s1, s2, s3, s4⟩, q'⟩ := y
          rw [hr] at hres
          obtain rfl := hres
          have HT2 : Hid (readTo s p (k + 1) = some (L ++ [(s1, s2, s3, s4)], q')) := hide (by unfold readTo; rw [unhide HT]; simp only [hr])
          clear hr
          have B2 := hide ((unhide B1).alloc (unhide B1).size (.cells #[.int .i64 s1, .int .i64 s2, .int .i64 s3, .int .i64 s4] 60))
          have W2 := hide ((unhide W1).alloc (.cells #[.int .i64 s1, .int .i64 s2, .int .i64 s3, .int .i64 s4] 60))
          have N2 := hide (starAt_new w1 (s1, s2, s3, s4) 60)
          have hsz := (unhide B1).size
          unfold starA
          clear B1 W1
          have hown := unhide W2
          go_wp2_with (at_builtin; refine wpList_append_own _ rfl _ _ 32 rfl w.heap.size 60 i0 (.agg #[.int .i64 0, .int .i64 0, .int .i64 0, .int .i64 0]) 4 32 Tryd.underlying32 hi hz0 hz1 hz2 rfl (by decide) _ _ _ rfl (hown.alloc _) ⟨w1.heap.size + 1, 0, none⟩ 1 1 [.int .i64 s1, .int .i64 s2, .int .i64 s3, .int .i64 s4] rfl rfl ?c1 ?c2 ?c3 ?c4 ?c5 ?_)
          case c1 =>
            have h := cells4_new (w1.alloc (.cells #[.int .i64 s1, .int .i64 s2, .int .i64 s3, .int .i64 s4] 60)) s1 s2 s3 s4 60
            simpa using h
          case c2 => intro u hu; simp at hu; rcases hu with rfl | rfl | rfl | rfl <;> rfl
          case c3 => unfold maxLen; omega
          case c4 => omega
          case c5 => simp; omega
          intro v' V4 hown' hgrow _
          have hz : w.heap.size ≤ ((w1.alloc (.cells #[.int .i64 s1, .int .i64 s2, .int .i64 s3, .int .i64 s4] 60)).alloc (.cells #[.int .i64 s1, .int .i64 s2, .int .i64 s3, .int .i64 s4] 60)).heap.size := by simp; omega
          have B4 := hide (grownOwn' ((unhide B2).alloc (unhide B2).size (.cells #[.int .i64 s1, .int .i64 s2, .int .i64 s3, .int .i64 s4] 60)) (hown.alloc (.cells #[.int .i64 s1, .int .i64 s2, .int .i64 s3, .int .i64 s4] 60)) hgrow hz)
          have W4 : Hid (V4.ownsRow w.heap.size 60 4 v' (L ++ [(s1, s2, s3, s4)]).length (flatS (L ++ [(s1, s2, s3, s4)]))) := hide (by rw [flatS_snoc]; simpa [stC] using hown')
          clear hown' hown hgrow hz B2 W2 N2
          go_wp2_with fail
          go_roundw
          case rel => exact ⟨k + 1, _, q', by omega, by go_num, rfl, HT2, W4, B4⟩
          case measure => simp [intOf]; omega
      · have hkn' : k = c := by omega
        subst hkn'
        have HRL : Hid (readAll s = some (L, q)) := hide (by rw [unhide HR]; exact unhide HT)
        by_cases hq : q = s.size
        · have hq' : ((q : Int) == (s.size : Int)) = true := by simp [hq]
          obtain ⟨ar, cap, hv, hlc, hcm, hst⟩ := own_stars (unhide HW)
          have hm9 : maxLen ≤ 9223372036854775807 := by decide +kernel
          have HST := hide hst
          have cW := hide (fun W hW => whyNoSky_any L ar cap W (by omega) hlc (by omega) hW)
          have HW2 := HW
          rw [hv] at HW2 ⊢
          clear hst hv HW
          go_wp2_with fail
          refine (unhide cW _ (unhide HST)).mono ?_
          rintro e w2 ⟨rfl, hx⟩
          have B2 := hide (below_call (unhide HB) hx)
          have W2 := hide (ownKept' (unhide HW2) hx)
          clear hx HB HW2 HST cW
          cases hsk : skyB L
          · obtain ⟨why, hwhy⟩ := whySky_no hsk
            have HO : Hid (goodL s = none) := hide (by unfold goodL; rw [unhide HRL]; simp [hsk])
            rw [hwhy]
            go_wp2_with fail
            go_ret2
            exact ⟨by rw [unhide HO]; exact ⟨_, why, rfl⟩, unhide B2⟩
          · have HO : Hid (goodL s = some L) := hide (by unfold goodL; rw [unhide HRL]; simp [hsk, hq])
            rw [whySky_yes hsk]
            go_wp2_with fail
            go_ret2
            exact ⟨by rw [unhide HO]; exact ⟨_, rfl, unhide W2⟩, unhide B2⟩
        · have hq' : ((q : Int) == (s.size : Int)) = false := by simp; omega
          have HO : Hid (goodL s = none) := hide (by unfold goodL; rw [unhide HRL]; simp [hq])
          go_wp2_with fail
          go_ret2
          exact ⟨by rw [unhide HO]; exact ⟨_, _, rfl⟩, unhide HB⟩
end Go.Proofs.YtijpnnooenpjoagDoor
