/- The law on sealing, walked: it answers true. -/
import Derived.Test.YtcoibamfgcdbnaaUnsealImpl
import Derived.Test.YtcoibamfgcdbnaaSealMath
import Derived.Test.YtcoibamfgcdbnaaDraw1
import Derived.Deep.RegionWith
import Derived.Laws.IdiomStrings
namespace Go.Proofs.Ytcoibamfgcdbnaa
open Go.RowKit
set_option linter.unusedVariables false

theorem Row.below {w w' : World} {a : Option Addr} {len : Nat} (h : Row w a len w.heap.size) (hB : Below w.heap.size w w') : Row w' a len w'.heap.size := by
  rcases h.kept hB.block with h | ⟨bx, ox, ha, hb, hc⟩
  · exact .inl h
  · exact .inr ⟨bx, ox, ha, Nat.lt_of_lt_of_le hb hB.size, hc⟩

set_option maxHeartbeats 1000000 in
theorem fnSeal_big (a0 a1 : Option Addr) (len0 cap0 len1 cap1 : Nat) (w : World) (h0 : len0 ≤ 9223372036854775807) (h1 : len1 ≤ 9223372036854775807) (h : 1048576 < len0 ∨ 1048576 < len1) :
    Calls Try.prog 3 #[.slice a0 len0 cap0, .slice a1 len1 cap1] w fun e w' => e = .returned (.bool true) ∧ Below w.heap.size w w' := by
  have h' : 1048576 < len0 ∨ (len0 ≤ 1048576 ∧ 1048576 < len1) := by omega
  rcases h' with h | h
  all_goals
    go_enter Try.func3, Try.ntmps3
    go_wp2
    go_ret
    exact ⟨rfl, Below.refl _ _⟩

/-- '[]byte(s)', the world told by what is kept -/
theorem toBytes (s : ByteArray) (w : World) : ∃ (cap : Nat) (w4 : World), (convert 9 22 (.string s)).run Try.prog w = .ok (.slice (some ⟨w.heap.size, 0, none⟩) s.size cap) w4 ∧
    (∀ j (hj : j < s.size), w4.cell? ⟨w.heap.size, j, none⟩ = some (.int .u8 (s[j].toNat : Int))) ∧ (∀ j, j < s.size → w4.frozen? ⟨w.heap.size, j, none⟩ = false) ∧ Below w.heap.size w w4 ∧ w.heap.size < w4.heap.size := by
  have h := run_bytes_of_string (P := Try.prog) w 9 22 5 s Try.underlying9 Try.underlying22 Try.underlying5
  refine ⟨_, _, h, fun j hj => ?_, fun j hj => ?_, ((Below.refl _ w).drew).alloc (Nat.le_refl _) _, by simp⟩
  · have hr := bytesRow_at s (grownCap w s.size 0 5) j hj
    have hh := heap_alloc_new w.drew (.cells (bytesRow s (grownCap w s.size 0 5)) 5 ((bytesRow s (grownCap w s.size 0 5)).size, (bytesRow s (grownCap w s.size 0 5)).size + 1))
    have hh' : (w.drew.alloc (.cells (bytesRow s (grownCap w s.size 0 5)) 5 ((bytesRow s (grownCap w s.size 0 5)).size, (bytesRow s (grownCap w s.size 0 5)).size + 1))).heap[w.heap.size]? = _ := hh
    unfold World.cell?
    simp only [hh', hr]
    rfl
  · have hsz : s.size ≤ (bytesRow s (grownCap w s.size 0 5)).size := by simp [bytesRow]
    have hh := heap_alloc_new w.drew (.cells (bytesRow s (grownCap w s.size 0 5)) 5 ((bytesRow s (grownCap w s.size 0 5)).size, (bytesRow s (grownCap w s.size 0 5)).size + 1))
    have hh' : (w.drew.alloc (.cells (bytesRow s (grownCap w s.size 0 5)) 5 ((bytesRow s (grownCap w s.size 0 5)).size, (bytesRow s (grownCap w s.size 0 5)).size + 1))).heap[w.heap.size]? = _ := hh
    unfold World.frozen?
    simp only [hh']
    simp
    omega
theorem turnedConv (S : ByteArray) (B p cap : Nat) (w4 W : World) (v : Int) (d : UInt8) (hp : p < S.size) (hv : v = (d.toNat : Int))
    (HC : ∀ j (hj : j < S.size), w4.cell? ⟨B, j, none⟩ = some (.int .u8 (S[j].toNat : Int))) (hW : ∀ j, W.cell? ⟨B, j, none⟩ = (w4.setCell ⟨B, p, none⟩ (.int .u8 v)).cell? ⟨B, j, none⟩) :
    (convert 22 9 (.slice (some ⟨B, 0, none⟩) S.size cap)).run Try.prog W = .ok (.string ⟨(S.data.toList.set p d).toArray⟩) W := by
  have hl : (S.data.toList.set p d).length = S.size := by simp
  have h := run_convert_bytes_back (P := Try.prog) W 22 9 5 ⟨B, 0, none⟩ cap (S.data.toList.set p d) Try.underlying22 Try.underlying5 Try.underlying9 (fun j hj => by
    have hj' : j < S.size := by omega
    have ha : (⟨B, 0, none⟩ : Addr).add j = ⟨B, j, none⟩ := by simp [Addr.add]; omega
    rw [ha, hW j]
    by_cases e : j = p
    · subst e
      rw [World.cell?_setCell_same _ _ _ (HC j hj'), hv]
      simp
    · rw [World.cell?_setCell_other _ _ _ _ (fun h => e (by simpa using (congrArg Addr.off h).symm)), HC j hj']
      simp [Ne.symm e]
      rfl)
  rw [hl] at h
  exact h
theorem xorByte (x q : Int) (hx0 : 0 ≤ x) (hx : x < 256) (h0 : 0 ≤ q) (h1 : q < 255) : bits .xor .u8 x (IntKind.u8.wrap (IntKind.i64.wrap (1 + q))) = ((x.toNat ^^^ (1 + q.toNat) : Nat) : Int) := by
  have hw1 : IntKind.i64.wrap (1 + q) = 1 + q := by rw [IntKind.wrap_i64]; omega
  have hw2 : IntKind.u8.wrap (1 + q) = 1 + q := by rw [IntKind.wrap_u8]; omega
  have h := u8_xor x (1 + q) hx0 hx (by omega) (by omega)
  rw [hw1, hw2, h, show (1 + q).toNat = 1 + q.toNat by omega]
theorem xor_ne (x d : Nat) (h : d ≠ 0) : x ^^^ d ≠ x := by
  intro e
  apply h
  have := congrArg (x ^^^ ·) e
  simpa [← Nat.xor_assoc] using this
theorem Row.drew {w : World} {a : Option Addr} {len B : Nat} (h : Row w a len B) : Row w.drew a len B := h.kept (fun _ _ => rfl)

set_option maxRecDepth 100000 in
set_option maxHeartbeats 4000000 in
theorem fnSeal_any (a0 a1 : Option Addr) (len0 cap0 len1 cap1 : Nat) (w : World) (h0 : len0 ≤ 1048576) (h1 : len1 ≤ 1048576) (r0 : Row w a0 len0 w.heap.size) (r1 : Row w a1 len1 w.heap.size) :
    Calls Try.prog 3 #[.slice a0 len0 cap0, .slice a1 len1 cap1] w fun e w' => e = .returned (.bool true) ∧ Below w.heap.size w w' := by
  have R0 := hide r0
  have R1 := hide r1
  clear r0 r1
  go_enter Try.func3, Try.ntmps3
  go_wp2_with fail
  refine (drawSeal_any a0 len0 cap0 w h0 (unhide R0)).mono ?_
  rintro e w1 ⟨t, rfl, ht, hB1⟩
  go_wp2_with fail
  refine (implSeal_any t _ (by omega)).mono ?_
  rintro e w2 ⟨rfl, hb2⟩
  have hB2 := hB1.trans (hb2.mono hB1.size)
  clear hB1 hb2
  go_wp2_with fail
  refine (specSeal_any t _ (by omega)).mono ?_
  rintro e w3 ⟨rfl, hb3⟩
  have hB3 := hB2.trans (hb3.mono hB2.size)
  clear hB2 hb3
  have R13 := hide ((unhide R1).below hB3)
  rcases ht with ht | ht
  · have hss : (sealOf t).size = t.size + 4 := by rw [← size_list, seal_list (by omega), List.length_append, size_list, size_list, four_size]
    have hne : (sealOf t).toList.isEmpty = false := by
      rw [ByteArray.toList_eq]
      cases hq : (sealOf t).data.toList with
      | nil => have := size_list (sealOf t); rw [hq] at this; simp at this; omega
      | cons x l => rfl
    have hs4 : 4 ≤ (sealOf t).size := by omega
    have hs24 : (sealOf t).size ≤ 24 := by omega
    have HSS := hide hss
    clear hss
    generalize hSe : sealOf t = S at *
    have HSe := hide hSe
    clear hSe
    obtain ⟨cap, w4, hcv, hcell, hfz, hb4, hz4⟩ := toBytes S w3
    have hB4 := hB3.trans (hb4.mono hB3.size)
    have R14 := hide ((unhide R1).below hB4)
    have HC := hide hcell
    have HF := hide hfz
    have HB := hide hb4
    have hw3 : w.heap.size ≤ w3.heap.size := hB3.size
    clear hcell hfz hb4 hB3
    go_wp2_with fail
    refine (lwAt_any a1 len1 cap1 0 _ _ h1 (by omega) (by omega) (unhide R14)).mono ?_
    rintro e w5 ⟨k, rfl, k0, k1, k2, hw⟩
    obtain rfl := hw.symm
    have hk : k < (S.size : Int) := k1 (by omega)
    clear k1 k2 hw
    obtain ⟨p, rfl⟩ : ∃ p : Nat, k = (p : Int) := ⟨k.toNat, by omega⟩
    have hp : p < S.size := by omega
    have HTx := hide (show S.extract 0 (S.size - 4) = t by
      apply bytes_ext
      have hl := seal_list (show t.size ≤ 7996 by omega)
      rw [unhide HSe] at hl
      have hn := unhide HSS
      simp only [ByteArray.data_extract, Array.toList_extract, List.extract_eq_take_drop, List.drop_zero, Nat.sub_zero]
      rw [hl, List.take_left' (by rw [size_list]; omega)])
    have HU := hide (fun W : World => (by
      have h := implUnseal_ok S W (by omega) hs4 (by rw [unhide HTx, unhide HSe])
      rw [unhide HTx] at h
      exact h : Calls Try.prog 8 #[.string S] W fun e w' => e = .returned (.agg #[.string t, .int .i64 0, .int .i64 0]) ∧ Below W.heap.size W w'))
    have cp := unhide HC p hp
    have fp := unhide HF p hp
    go_wp2_with fail
    go_region_with (go_at_call 7; refine (lwAt_any a1 len1 cap1 1 255 _ h1 (by omega) (by omega) (by exact (unhide R14).drew)).mono ?_; rintro e w6 ⟨q, rfl, q0, q1, q2, rfl⟩)
    all_goals
      have hq : q < 255 := q1 (by omega)
      clear q1 q2
      have hxl : S[p].toNat ^^^ (1 + q.toNat) < 256 := Nat.xor_lt_two_pow (n := 8) (UInt8.toNat_lt _) (by omega)
      have HX := xorByte (S[p].toNat : Int) q (by omega) (by have := UInt8.toNat_lt S[p]; omega) q0 hq
      rw [HX]
      rw [Int.toNat_natCast]
      have HD := hide (show S.data.toList[p]? ≠ some (UInt8.ofNat (S[p].toNat ^^^ (1 + q.toNat))) by
        rw [Array.getElem?_toList]
        have : S.data[p]? = some S[p] := Array.getElem?_eq_getElem hp
        rw [this]
        intro e
        have e2 := congrArg UInt8.toNat (Option.some.inj e)
        simp at e2
        exact xor_ne _ _ (by omega) e2.symm)
      obtain ⟨x, hx⟩ : ∃ x : Nat, S[p].toNat ^^^ (1 + q.toNat) = x := ⟨_, rfl⟩
      rw [hx] at HD hxl ⊢
      have hBs := (hB4.setCell (p := ⟨w3.heap.size, p, none⟩) hw3 (Value.int .u8 (x : Int))).drew
      have hz5 : w3.heap.size < (w4.setCell ⟨w3.heap.size, p, none⟩ (Value.int .u8 (x : Int))).drew.heap.size := by simpa [World.setCell, World.drew] using hz4
      clear HX cp fp hcv hx
      generalize hw5 : (w4.setCell ⟨w3.heap.size, p, none⟩ (Value.int .u8 (x : Int))).drew = w5 at hBs hz5 ⊢
      have HW5 := hide hw5
      clear hw5
      go_wp2_with fail
      refine (unhide HU _).mono ?_
      rintro e w6 ⟨rfl, hb6⟩
      have hB6 := hBs.trans (hb6.mono hBs.size)
      have hcv6 := turnedConv S w3.heap.size p cap w4 w6 (x : Int) (UInt8.ofNat x) hp (by simp; omega) (unhide HC) (fun j => by rw [hb6.cell (p := ⟨w3.heap.size, j, none⟩) hz5]; rw [← unhide HW5]; rfl)
      have hS's : (⟨(S.data.toList.set p (UInt8.ofNat x)).toArray⟩ : ByteArray).size = S.size := by rw [← size_list]; simp
      have HBad := hide (seal_turned t ⟨(S.data.toList.set p (UInt8.ofNat x)).toArray⟩ p (UInt8.ofNat x) (by omega) (by rw [unhide HSe]; exact hp) (by rw [unhide HSe]; exact unhide HD) (by rw [unhide HSe]))
      generalize (⟨(S.data.toList.set p (UInt8.ofNat x)).toArray⟩ : ByteArray) = S' at *
      have hs8 : S'.size ≤ 8000 := by omega
      have hs4' : 4 ≤ S'.size := by omega
      clear hS's hBs hb6
      go_wp2_with fail
      refine (implUnseal_bad S' _ hs8 hs4' (unhide HBad)).mono ?_
      rintro e w7 ⟨rfl, hb7⟩
      have hB7 := hB6.trans (hb7.mono hB6.size)
      clear hB6 hb7 hcv6
      have hfd : ∀ W : World, (Instr.field 27 (.agg #[.string ⟨#[]⟩, .int .i64 0, .int .i64 5]) 2).run Try.prog W = .ok (.int .i64 5) W := fun _ => by kernel_rfl
      go_wp2_with fail
      refine (drawCrcMore_any a1 len1 cap1 _ h1 ((unhide R1).below hB7)).mono ?_
      rintro e w8 ⟨c, u, rfl, hu, hc0, hc1, hb8⟩
      have hB8 := hB7.trans (hb8.mono hB7.size)
      clear hB7 hb8
      have HCL := hide (crcOf_lt (c := 0) t (by omega))
      have HAp := hide (crcOf_append t u)
      have HT8 := hide (show ¬ 8000 < t.size by omega)
      have HA8 := hide (show ¬ 8000 < (t ++ u).size by simp; omega)
      have HTS := hide (show t.size ≤ 20 by omega)
      have HUS := hide hu
      generalize S[p].toNat = zz
      obtain ⟨su, hsu, hsl⟩ : ∃ su : Int, IntKind.i64.wrap ((t.size : Int) + (u.size : Int)) = su ∧ ¬ 8000 < su := ⟨_, rfl, by rw [IntKind.wrap_i64]; omega⟩
      have hsd : decide (8000 < su) = false := by simp; omega
      clear hfd hxl h0 h1 k0 q0 hk hs4 hs24 hs8 hs4' hq hw3 hz4 hz5 hne ht hu
      by_cases hno : c < 0 ∨ 4294967295 < c
      · have HNO := hide hno
        have HC0 := hide (And.intro hc0 hc1)
        clear hno hc0 hc1
        go_wp2_with fail
        clear hsu hsl hsd
        refine (implCrcMore_no c u _ (by have := unhide HUS; omega) (.inr (unhide HNO))).mono ?_
        rintro e w9 ⟨rfl, hw⟩
        obtain rfl := hw.symm
        clear hw
        go_wp2_with fail
        refine (specCrcMore_no c u _ (by have := unhide HUS; omega) (.inr (unhide HNO))).mono ?_
        rintro e w9 ⟨rfl, hw⟩
        obtain rfl := hw.symm
        clear hw
        go_wp2_with fail
        refine (implCrc_any t _ (by have := unhide HTS; omega)).mono ?_
        rintro e w9 ⟨rfl, hw⟩
        obtain rfl := hw.symm
        clear hw
        rw [if_neg (unhide HT8)]
        go_wp2_with fail
        refine (implCrcMore_any _ u _ (unhide HCL) (by have := unhide HUS; omega)).mono ?_
        rintro e w9 ⟨rfl, hw⟩
        obtain rfl := hw.symm
        clear hw
        rw [unhide HAp]
        have hcs : ¬ t.size + u.size > 9223372036854775807 := by have := unhide HTS; have := unhide HUS; omega
        go_wp2_with fail
        refine (implCrc_any (t ++ u) _ (by have := unhide HA8; omega)).mono ?_
        rintro e w9 ⟨rfl, hw⟩
        obtain rfl := hw.symm
        clear hw
        rw [if_neg (unhide HA8)]
        go_wp2
        go_ret
        exact ⟨rfl, hB8⟩
      · obtain ⟨m, rfl⟩ : ∃ m : Nat, c = (m : Int) := ⟨c.toNat, by omega⟩
        have HM := hide (show m < 4294967296 by omega)
        clear hno hc0 hc1
        go_wp2_with fail
        clear hsu hsl hsd
        refine (implCrcMore_any m u _ (unhide HM) (by have := unhide HUS; omega)).mono ?_
        rintro e w9 ⟨rfl, hw⟩
        obtain rfl := hw.symm
        clear hw
        go_wp2_with fail
        refine (specCrcMore_any m u _ (unhide HM) (by have := unhide HUS; omega)).mono ?_
        rintro e w9 ⟨rfl, hw⟩
        obtain rfl := hw.symm
        clear hw
        go_wp2_with fail
        refine (implCrc_any t _ (by have := unhide HTS; omega)).mono ?_
        rintro e w9 ⟨rfl, hw⟩
        obtain rfl := hw.symm
        clear hw
        rw [if_neg (unhide HT8)]
        go_wp2_with fail
        refine (implCrcMore_any _ u _ (unhide HCL) (by have := unhide HUS; omega)).mono ?_
        rintro e w9 ⟨rfl, hw⟩
        obtain rfl := hw.symm
        clear hw
        rw [unhide HAp]
        have hcs : ¬ t.size + u.size > 9223372036854775807 := by have := unhide HTS; have := unhide HUS; omega
        go_wp2_with fail
        refine (implCrc_any (t ++ u) _ (by have := unhide HA8; omega)).mono ?_
        rintro e w9 ⟨rfl, hw⟩
        obtain rfl := hw.symm
        clear hw
        rw [if_neg (unhide HA8)]
        go_wp2
        go_ret
        exact ⟨rfl, hB8⟩
  · have HE := hide (show sealOf t = ⟨#[]⟩ by simp [sealOf]; intro; omega)
    rw [unhide HE]
    go_wp2_with fail
    refine (drawCrcMore_any a1 len1 cap1 _ h1 (unhide R13)).mono ?_
    rintro e w8 ⟨c, u, rfl, hu, hc0, hc1, hb8⟩
    have hB8 := hB3.trans (hb8.mono hB3.size)
    clear hb8 hB3
    go_wp2
    go_ret
    exact ⟨rfl, hB8⟩
end Go.Proofs.Ytcoibamfgcdbnaa
