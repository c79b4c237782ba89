/- The source made of bytes; texts and limits drawn from it. -/
import Derived.Test.YtijpnnooenpjoaaDoorSrc
import Derived.Test.YtijpnnooenpjoaaDoorBytes
namespace Go.Proofs.YtijpnnooenpjoaaDoor
open Go.RowKit
set_option linter.unusedVariables false

theorem grown_then {a b c : World} {row r : Option Nat} (h : a.grownBy b row) (k : b.grownBy c r) (hr : ∀ i, r = some i → a.heap.size ≤ i) : a.grownBy c row :=
  ⟨k.os.trans h.os, k.tape.trans h.tape, k.output.trans h.output, Nat.le_trans h.size k.size, fun i hi hn => (k.block i (Nat.lt_of_lt_of_le hi h.size) (fun e => by have := hr i e.symm; omega)).trans (h.block i hi hn)⟩
theorem grown_alloc {a b : World} {row : Option Nat} (h : a.grownBy b row) (o : Obj) : a.grownBy (b.alloc o) row := grown_then h (World.grownBy_alloc b o none) (fun i e => by cases e)
theorem infoU8 : (Tryd.prog.info? 5).map (fun i => (i.zero, i.size, i.bytes)) = some (some (.int .u8 0), 1, 1) := by kernel_rfl
theorem own_form {w : World} {base size n : Nat} {e : TypeId} {v : Value} {xs : List Value} (h : w.ownsRow base e size v n xs) (hn : 0 < n) : ∃ g cap, v = .slice (some ⟨g, 0, none⟩) n cap := by
  rcases h.2 with ⟨_, h0⟩ | ⟨g, cap, _, hv, _⟩
  · omega
  · exact ⟨g, cap, hv⟩
theorem own_forms {w : World} {base size n : Nat} {e : TypeId} {v : Value} {xs : List Value} (h : w.ownsRow base e size v n xs) : (v = .slice none 0 0 ∧ n = 0) ∨ ∃ g cap, v = .slice (some ⟨g, 0, none⟩) n cap := by
  rcases h.2 with h0 | ⟨g, cap, _, hv, _⟩
  · exact .inl h0
  · exact .inr ⟨g, cap, hv⟩
theorem conv_own {w : World} {base n : Nat} {v : Value} {xs : List Int} (h : w.ownsRow base 5 1 v n (xs.map (Value.int .u8))) :
    (convert 22 9 v).run Tryd.prog w = .ok (.string (strOfNums xs)) w := by
  have hl : xs.length = n := by have := h.1; simpa using this
  rcases own_forms h with ⟨rfl, h0⟩ | ⟨g, cap, rfl⟩
  · obtain rfl : xs = [] := List.eq_nil_of_length_eq_zero (by omega)
    exact run_convert_bytes_nil w 22 5 Tryd.underlying22 Tryd.underlying5 0 0 9 Tryd.underlying9
  · refine run_convert_bytes_arg (P := Tryd.prog) _ 22 5 Tryd.underlying22 Tryd.underlying5 g 0 n cap xs hl ?_ 9 Tryd.underlying9
    intro i hi
    rw [Nat.zero_add, h.cellAt i (by omega), List.getElem?_map, List.getD, List.getElem?_eq_getElem (by omega)]
    rfl

set_option maxRecDepth 100000 in
set_option maxHeartbeats 1000000 in
theorem bytes_any (b : Nat) (n : Nat) (w : World) (hS : SrcAt b w) (hn : n ≤ 100000) :
    Calls Tryd.prog 45 #[.pointer (some ⟨b, 0, none⟩), .int .i64 (n : Int)] w fun e w' => ∃ t : ByteArray, e = .returned (.string t) ∧ t.size = n ∧ SrcAt b w' ∧ w.grownBy w' (some b) := by
  obtain ⟨i0, hi, hz0, hz1, hz2⟩ := info_parts infoU8
  have hlt := hS.lt
  have HS := hide hS
  clear hS
  go_enter Tryd.func45, Tryd.ntmps45
  go_wp2
  go_loopw [5, 6] (fun v i wr => ∃ (k : Nat) (xs : List Int), k ≤ n ∧ i = .int .i64 k ∧ xs.length = k ∧ wr.ownsRow w.heap.size 5 1 v k (xs.map (Value.int .u8)) ∧ SrcAt b wr ∧ w.grownBy wr (some b)) (fun _ i _ => n - (intOf i).toNat)
  case atStart => exact ⟨0, [], by omega, rfl, rfl, World.ownsRow_lit w #[] 0 (Nat.le_refl _) (by simp [maxLen]) rfl, (unhide HS).kept (World.grownBy_alloc w _ none) (fun _ e => by cases e), World.grownBy_alloc w _ (some b)⟩
  case round =>
    obtain ⟨k, xs, hk, rfl, hx, hown, hSr, hg⟩ := hrel
    have HX := hide hx
    have HSr := hide hSr
    clear hx hSr
    by_cases hkn : k < n
    · go_wp2_with fail
      refine (n_any b 256 _ (unhide HSr) (by omega)).mono ?_
      rintro e w1 ⟨z, rfl, z0, z1, z2, hS1, hg1⟩
      have hz256 : z < 256 := z1 (by omega)
      have hne : u5.ownBlock = none ∨ u5.ownBlock ≠ some b := by
        rcases h : u5.ownBlock with _ | g
        · exact .inl rfl
        · refine .inr (fun e => ?_)
          obtain rfl := Option.some.inj e
          have := (hown.lt _ h).1
          omega
      have hown1 := hown.kept hg1 hne
      have hg2 := grown_trans hg hg1
      have hsz := hg2.size
      have HS1 := hide hS1
      clear z1 z2 hS1 hown hg hg1 hne
      go_wp2_with (at_builtin; refine wpList_append_own _ rfl _ _ 22 rfl w.heap.size 5 i0 (.int .u8 0) 1 1 Tryd.underlying22 hi hz0 hz1 hz2 rfl (by decide) _ _ _ rfl (hown1.alloc _) ⟨w1.heap.size, 0, none⟩ 1 1 [.int .u8 z] rfl rfl ?c1 ?c2 ?c3 ?c4 ?c5 ?_)
      case c1 =>
        intro j x hj
        match j, hj with
        | 0, hj => simp at hj; subst hj; simp [Addr.add]
      case c2 => intro x hx; simp at hx; subst hx; rfl
      case c3 => unfold maxLen; omega
      case c4 => omega
      case c5 => simp; omega
      intro v' w2 hown' hgrow _
      have hrow : ∀ i, u5.ownBlock = some i → w.heap.size ≤ i := fun i e => (hown1.lt i e).1
      have hg3 : w.grownBy w2 (some b) := grown_then (grown_alloc hg2 _) hgrow hrow
      have HS2 := hide (((unhide HS1).kept (World.grownBy_alloc w1 _ none) (fun _ e => by cases e)).kept hgrow (fun i e => by have := hrow i e; omega))
      have hx2 : List.map (Value.int IntKind.u8) xs ++ [Value.int IntKind.u8 z] = (xs ++ [z]).map (Value.int .u8) := by simp
      rw [hx2] at hown'
      have HO := hide hown'
      clear hx2 hown' hgrow hown1 hg2 hrow
      go_wp2
      go_roundw
      case rel => exact ⟨k + 1, xs ++ [z], by omega, by go_num, by simp [unhide HX], unhide HO, unhide HS2, hg3⟩
      case measure => simp [intOf]; omega
    · have hcv := conv_own hown
      have HL := hide (strOfNums_size xs)
      generalize strOfNums xs = S at *
      clear hown hi hz0 hz1 hz2
      go_wp2
      go_ret
      exact ⟨S, rfl, by rw [unhide HL, unhide HX]; omega, unhide HSr, hg⟩

theorem edgeCell (w w1 : World) (b : Nat) (T : TypeId) (cs : Array Value) (hg : (w.alloc (.cells cs T)).grownBy w1 (some b)) (hb : b < w.heap.size) (k : Nat) (v : Value) (hv : cs[k]? = some v) :
    w1.cell? ⟨w.heap.size, k, none⟩ = some v := by
  refine hg.cell ?_ (by intro e; have := Option.some.inj e; simp at this; omega)
  simp [hv]

set_option maxHeartbeats 1000000 in
theorem edge_any (b : Nat) (w : World) (hS : SrcAt b w) :
    Calls Tryd.prog 82 #[.pointer (some ⟨b, 0, none⟩)] w fun e w' => ∃ v : Int, e = .returned (.int .i64 v) ∧ -9223372036854775808 ≤ v ∧ v ≤ 9223372036854775807 ∧ SrcAt b w' ∧ w.grownBy w' (some b) := by
  have hlt := hS.lt
  have HS := hide (hS.kept (World.grownBy_alloc w (.cells #[] 0) none) (fun _ e => by cases e))
  have HS0 := hide hS
  clear hS HS
  go_enter Tryd.func82, Tryd.ntmps82
  go_wp2_with fail
  refine (n_any b 14 _ ((unhide HS0).kept (World.grownBy_alloc w _ none) (fun _ e => by cases e)) (by omega)).mono ?_
  rintro e w1 ⟨z, rfl, z0, z1, z2, hS1, hg1⟩
  have hz14 : z < 14 := z1 (by omega)
  have HS1 := hide hS1
  obtain ⟨k, rfl⟩ : ∃ k : Nat, z = (k : Int) := ⟨z.toNat, by omega⟩
  have hc : ∃ v : Int, w1.cell? ⟨w.heap.size, k, none⟩ = some (.int .i64 v) ∧ -9223372036854775808 ≤ v ∧ v ≤ 9223372036854775807 := by
    have hk : k < 14 := by omega
    match k, hk with
    | 0, _ => exact ⟨_, edgeCell w w1 b _ _ hg1 hlt 0 _ rfl, by omega, by omega⟩
    | 1, _ => exact ⟨_, edgeCell w w1 b _ _ hg1 hlt 1 _ rfl, by omega, by omega⟩
    | 2, _ => exact ⟨_, edgeCell w w1 b _ _ hg1 hlt 2 _ rfl, by omega, by omega⟩
    | 3, _ => exact ⟨_, edgeCell w w1 b _ _ hg1 hlt 3 _ rfl, by omega, by omega⟩
    | 4, _ => exact ⟨_, edgeCell w w1 b _ _ hg1 hlt 4 _ rfl, by omega, by omega⟩
    | 5, _ => exact ⟨_, edgeCell w w1 b _ _ hg1 hlt 5 _ rfl, by omega, by omega⟩
    | 6, _ => exact ⟨_, edgeCell w w1 b _ _ hg1 hlt 6 _ rfl, by omega, by omega⟩
    | 7, _ => exact ⟨_, edgeCell w w1 b _ _ hg1 hlt 7 _ rfl, by omega, by omega⟩
    | 8, _ => exact ⟨_, edgeCell w w1 b _ _ hg1 hlt 8 _ rfl, by omega, by omega⟩
    | 9, _ => exact ⟨_, edgeCell w w1 b _ _ hg1 hlt 9 _ rfl, by omega, by omega⟩
    | 10, _ => exact ⟨_, edgeCell w w1 b _ _ hg1 hlt 10 _ rfl, by omega, by omega⟩
    | 11, _ => exact ⟨_, edgeCell w w1 b _ _ hg1 hlt 11 _ rfl, by omega, by omega⟩
    | 12, _ => exact ⟨_, edgeCell w w1 b _ _ hg1 hlt 12 _ rfl, by omega, by omega⟩
    | 13, _ => exact ⟨_, edgeCell w w1 b _ _ hg1 hlt 13 _ rfl, by omega, by omega⟩
  obtain ⟨v, hv, hv0, hv1⟩ := hc
  have hgw : w.grownBy w1 (some b) := grown_trans (World.grownBy_alloc w _ (some b)) hg1
  clear z1 z2 hS1 hg1
  go_wp2
  go_ret
  exact ⟨v, rfl, hv0, hv1, unhide HS1, hgw⟩
end Go.Proofs.YtijpnnooenpjoaaDoor
