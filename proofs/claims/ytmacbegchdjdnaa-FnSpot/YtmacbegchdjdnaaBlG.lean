/- blobOf: the program's. -/
import Derived.Test.YtmacbegchdjdnaaBlF
namespace Go.Proofs.Ytmacbegchdjdnaa
open Go.RowKit Go.Sort
set_option linter.unusedVariables false

theorem edge_same (f : Fr) (p c r : Nat) (hc : c = p % f.wd) (hr : r = p / f.wd) (h1 : 1 ≤ f.wd) (h2 : 1 ≤ f.ht) : edgeI f.wd f.ht c r = edgeP f p := by
  unfold edgeI edgeP
  rw [← hc, ← hr, Bool.eq_iff_iff]
  simp only [Bool.or_eq_true, decide_eq_true_eq]
  omega

def blobAt (n : Nat) (b : Bl) : List Value := [.int .i64 n, .int .i64 b.su, .int .i64 b.sx, .int .i64 b.sy, .bool b.ed]
set_option maxHeartbeats 4000000 in
set_option maxRecDepth 100000 in
theorem blobOf_any (wd ht : Nat) (s : ByteArray) (lv : Int) (A : List Nat) (v : Value) (B : Nat) (w : World) (hw0 : 1 ≤ wd) (hw : wd ≤ 16) (hh0 : 1 ≤ ht) (hh : ht ≤ 12) (hs : s.size = wd * ht) (hA : A.length ≤ 192) (hin : ∀ j ∈ A, j < s.size) (hv : w.ownsRow B 84 2 v A.length (pixL wd A)) :
    Calls Try.prog 52 #[.agg #[.int .i64 wd, .int .i64 ht, .string s], v] w fun e w' => e = .returned (.agg (blobL (sumP (frOf wd ht s lv) A)).toArray) ∧ Below w.heap.size w w' := by
  obtain ⟨a1, cap1, hv1⟩ := own_slice hv
  subst hv1
  have HSZ := hide hs
  have HIN := hide hin
  have HV := hide hv
  have F0 := ((blk_new w [.int .i64 (wd : Int), .int .i64 (ht : Int), .string s] 24).alloc (.cells #[.int .i64 0, .int .i64 0, .int .i64 0, .int .i64 0, .bool false] 40)).alloc (.cells #[.int .i64 (A.length : Int), .int .i64 0, .int .i64 0, .int .i64 0, .bool false] 40)
  have R0 := (blk_new (w.alloc (.cells #[.int .i64 (wd : Int), .int .i64 (ht : Int), .string s] 24)) [.int .i64 0, .int .i64 0, .int .i64 0, .int .i64 0, .bool false] 40).alloc (.cells #[.int .i64 (A.length : Int), .int .i64 0, .int .i64 0, .int .i64 0, .bool false] 40)
  have Q0 := blk_new ((w.alloc (.cells #[.int .i64 (wd : Int), .int .i64 (ht : Int), .string s] 24)).alloc (.cells #[.int .i64 0, .int .i64 0, .int .i64 0, .int .i64 0, .bool false] 40)) [.int .i64 (A.length : Int), .int .i64 0, .int .i64 0, .int .i64 0, .bool false] 40
  have B0 := below3 w (.cells #[.int .i64 (wd : Int), .int .i64 (ht : Int), .string s] 24) (.cells #[.int .i64 0, .int .i64 0, .int .i64 0, .int .i64 0, .bool false] 40) (.cells #[.int .i64 (A.length : Int), .int .i64 0, .int .i64 0, .int .i64 0, .bool false] 40)
  have e1 : (w.alloc (.cells #[.int .i64 (wd : Int), .int .i64 (ht : Int), .string s] 24)).heap.size = w.heap.size + 1 := by simp
  have e2 : ((w.alloc (.cells #[.int .i64 (wd : Int), .int .i64 (ht : Int), .string s] 24)).alloc (.cells #[.int .i64 0, .int .i64 0, .int .i64 0, .int .i64 0, .bool false] 40)).heap.size = w.heap.size + 1 + 1 := by simp
  rw [e1] at R0
  rw [e2] at Q0
  have O0 := own_kept hv B0
  clear e1 e2 hs hin hv
  generalize hfe : frOf wd ht s lv = f
  have HF := hide hfe
  clear hfe
  go_enter Try.func52, Try.ntmps52
  go_upto_region 2 with fail
  generalize ((w.alloc (.cells #[.int .i64 (wd : Int), .int .i64 (ht : Int), .string s] 24)).alloc (.cells #[.int .i64 0, .int .i64 0, .int .i64 0, .int .i64 0, .bool false] 40)).alloc (.cells #[.int .i64 (A.length : Int), .int .i64 0, .int .i64 0, .int .i64 0, .bool false] 40) = W0 at F0 R0 Q0 B0 O0 ⊢
  clear O0
  have hF0 := hide F0
  have hR0 := hide R0
  have hQ0 : Hid (Blk W0 (w.heap.size + 1 + 1) (blobAt A.length (sumP f (A.take 0))) 40) := hide Q0
  have hB0 := hide B0
  clear F0 R0 Q0 B0
  have HFN : Hid (f.n = s.size) := hide (by rw [← unhide HF]; exact (unhide HSZ).symm)
  go_wp2_with fail
  go_loopw [14] (fun kk wr => ∃ k : Nat, k ≤ A.length ∧ kk = .int .i64 k ∧ Hid (Blk wr w.heap.size [.int .i64 (wd : Int), .int .i64 (ht : Int), .string s] 24) ∧ Hid (Blk wr (w.heap.size + 1) [.int .i64 0, .int .i64 0, .int .i64 0, .int .i64 0, .bool false] 40) ∧ Hid (Blk wr (w.heap.size + 1 + 1) (blobAt A.length (sumP f (A.take k))) 40) ∧ Hid (Below w.heap.size w wr)) (fun kk _ => A.length - (intOf kk).toNat)
  case atStart => exact ⟨0, Nat.zero_le _, rfl, hF0, hR0, hQ0, hB0⟩
  case round =>
    clear hF0 hR0 hQ0 hB0
    obtain ⟨k, hk, rfl, HFr, HR, HQ, HB⟩ := hrel
    by_cases hkn : k < A.length
    · have hpm : A.getD k 0 ∈ A := by rw [List.getD, List.getElem?_eq_getElem hkn]; exact List.getElem_mem hkn
      have hpl := unhide HIN _ hpm
      have HTK : Hid (A.take (k + 1) = A.take k ++ [A.getD k 0]) := hide (by
        rw [List.take_succ_eq_append_getElem hkn, List.getD, List.getElem?_eq_getElem hkn]; rfl)
      have hbd := sum_bound (f := f) (by rw [← unhide HF]; exact hw) (by rw [← unhide HF]; exact hh) (fun i => by rw [← unhide HF]; exact byteN_lt256 s i) (A.take k) (fun j hj => by rw [unhide HFN]; exact unhide HIN j (List.mem_of_mem_take hj))
      rw [List.length_take] at hbd
      have hfd := own_kept (unhide HV) (unhide HB)
      obtain ⟨e0, e1⟩ := pixL_at wd A k hkn
      obtain ⟨g7, hg7⟩ : ∃ g, a1 = some ⟨g, 0, none⟩ := by
        rcases hfd.2 with ⟨h1, h0⟩ | ⟨g, cap, cur, h1, _⟩
        · omega
        · injection h1 with h1 _ _
          exact ⟨g, h1⟩
      subst hg7
      have c0 : wr.cell? ⟨g7, k * 2, none⟩ = _ := (hfd.cellAt (k * 2) (by omega)).trans e0
      have c1 : wr.cell? ⟨g7, k * 2 + 1, none⟩ = _ := (hfd.cellAt (k * 2 + 1) (by omega)).trans e1
      clear hfd e0 e1 hpm
      generalize hpe : A.getD k 0 = p at *
      clear hpe
      generalize hbe : sumP f (A.take k) = b at *
      have HBe := hide hbe
      clear hbe
      obtain ⟨ar, su, sx, sy, ed⟩ := b
      simp only at hbd
      obtain ⟨_, hb2, hb3, hb4⟩ := hbd
      obtain ⟨c, hce⟩ : ∃ c, c = p % wd := ⟨_, rfl⟩
      obtain ⟨r, hre⟩ : ∃ r, r = p / wd := ⟨_, rfl⟩
      rw [← hce] at c0
      rw [← hre] at c1
      have hcl : c < wd := by rw [hce]; exact Nat.mod_lt _ (by omega)
      have hrl : r < ht := by rw [hre]; exact Nat.div_lt_of_lt_mul (by rw [← unhide HSZ]; exact hpl)
      have HPC : Hid (r * wd + c = p) := hide (by rw [hce, hre, Nat.mul_comm]; exact Nat.div_add_mod p wd)
      have HCe := hide hce
      have HRe := hide hre
      clear hce hre
      have hk2 : (k : Int) < (A.length : Int) := by omega
      have lbw : w.heap.size + 1 + 1 < wr.heap.size := (unhide HQ).lt
      have Z1 := below1 wr (.cells #[.int .i64 (c : Int), .int .i64 (r : Int)] 84)
      have P1 := blk_new wr [.int .i64 (c : Int), .int .i64 (r : Int)] 84
      have F1 := (unhide HFr).kept Z1
      have R1 := (unhide HR).kept Z1
      have Q1 := (unhide HQ).kept Z1
      have B1 := (unhide HB).trans (Z1.mono (by omega))
      clear Z1 HFr HR HQ HB
      go_upto_region 5 with fail
      generalize hpb : wr.heap.size = pb at *
      generalize wr.alloc (.cells #[.int .i64 (c : Int), .int .i64 (r : Int)] 84) = W1 at P1 F1 R1 Q1 B1 ⊢
      clear c0 c1
      have c0 := P1.cell 0 _ rfl
      have c1 := P1.cell 1 _ rfl
      have f0 := F1.cell 0 _ rfl
      have f1 := F1.cell 1 _ rfl
      have f2 := F1.cell 2 _ rfl
      go_wp2_with fail
      refine (light_any wd ht s c r _ hw hh (unhide HSZ) hcl hrl).mono ?_
      rintro e W2 ⟨rfl, hx2⟩
      rw [unhide HPC]
      have P2 := P1.kept hx2
      have F2 := F1.kept hx2
      have R2 := R1.kept hx2
      have Q2 := Q1.kept hx2
      have B2 := B1.trans (hx2.mono (Nat.le_of_lt F1.lt))
      clear hx2 P1 F1 R1 Q1 B1 c0 c1 f0 f1 f2
      have hnb := byteN_lt256 s p
      obtain ⟨n, hne⟩ : ∃ n, n = byteN s p := ⟨_, rfl⟩
      rw [← hne] at hnb ⊢
      have HNe := hide hne
      clear hne
      obtain ⟨m1, hm1⟩ : ∃ m1, m1 = n * c := ⟨_, rfl⟩
      obtain ⟨m2, hm2⟩ : ∃ m2, m2 = n * r := ⟨_, rfl⟩
      have hm1b : m1 ≤ 255 * 15 := by rw [hm1]; exact Nat.mul_le_mul (by omega) (by omega)
      have hm2b : m2 ≤ 255 * 11 := by rw [hm2]; exact Nat.mul_le_mul (by omega) (by omega)
      have hx1 : (n : Int) * (c : Int) = (m1 : Int) := by rw [hm1]; exact (Int.natCast_mul _ _).symm
      have hx2 : (n : Int) * (r : Int) = (m2 : Int) := by rw [hm2]; exact (Int.natCast_mul _ _).symm
      have HM1 := hide hm1
      have HM2 := hide hm2
      clear hm1 hm2
      have q1 := Q2.cell 1 _ rfl
      have q2 := Q2.cell 2 _ rfl
      have q3 := Q2.cell 3 _ rfl
      have e1 := Q2.free 1
      have e2 := Q2.free 2
      have e3 := Q2.free 3
      have p0 := P2.cell 0 _ rfl
      have p1 := P2.cell 1 _ rfl
      have npb : pb ≠ w.heap.size + 1 + 1 := by omega
      try simp only at q1 q2 q3
      go_upto_region 9 with fail
      have lo : w.heap.size ≤ w.heap.size + 1 + 1 := by omega
      have Q3 := ((Q2.set 1 (.int .i64 ((su : Int) + (n : Int)))).set 2 (.int .i64 ((sx : Int) + (m1 : Int)))).set 3 (.int .i64 ((sy : Int) + (m2 : Int)))
      have P3 := ((P2.other ⟨w.heap.size + 1 + 1, 1, none⟩ (.int .i64 ((su : Int) + (n : Int))) npb).other ⟨w.heap.size + 1 + 1, 2, none⟩ (.int .i64 ((sx : Int) + (m1 : Int))) npb).other ⟨w.heap.size + 1 + 1, 3, none⟩ (.int .i64 ((sy : Int) + (m2 : Int))) npb
      have nfb : w.heap.size ≠ w.heap.size + 1 + 1 := by omega
      have nrb : w.heap.size + 1 ≠ w.heap.size + 1 + 1 := by omega
      have F3 := ((F2.other ⟨w.heap.size + 1 + 1, 1, none⟩ (.int .i64 ((su : Int) + (n : Int))) nfb).other ⟨w.heap.size + 1 + 1, 2, none⟩ (.int .i64 ((sx : Int) + (m1 : Int))) nfb).other ⟨w.heap.size + 1 + 1, 3, none⟩ (.int .i64 ((sy : Int) + (m2 : Int))) nfb
      have R3 := ((R2.other ⟨w.heap.size + 1 + 1, 1, none⟩ (.int .i64 ((su : Int) + (n : Int))) nrb).other ⟨w.heap.size + 1 + 1, 2, none⟩ (.int .i64 ((sx : Int) + (m1 : Int))) nrb).other ⟨w.heap.size + 1 + 1, 3, none⟩ (.int .i64 ((sy : Int) + (m2 : Int))) nrb
      have B3 := ((B2.setCell (p := ⟨w.heap.size + 1 + 1, 1, none⟩) lo (.int .i64 ((su : Int) + (n : Int)))).setCell (p := ⟨w.heap.size + 1 + 1, 2, none⟩) lo (.int .i64 ((sx : Int) + (m1 : Int)))).setCell (p := ⟨w.heap.size + 1 + 1, 3, none⟩) lo (.int .i64 ((sy : Int) + (m2 : Int)))
      generalize (((W2.setCell ⟨w.heap.size + 1 + 1, 1, none⟩ (.int .i64 ((su : Int) + (n : Int)))).setCell ⟨w.heap.size + 1 + 1, 2, none⟩ (.int .i64 ((sx : Int) + (m1 : Int)))).setCell ⟨w.heap.size + 1 + 1, 3, none⟩ (.int .i64 ((sy : Int) + (m2 : Int)))) = W3 at Q3 P3 F3 R3 B3 ⊢
      clear Q2 P2 F2 R2 B2 q1 q2 q3 e1 e2 e3 p0 p1 hx1 hx2
      have HBB : Hid (blobAt A.length (sumP f (A.take (k + 1))) = [.int .i64 (A.length : Int), .int .i64 ((su : Int) + (n : Int)), .int .i64 ((sx : Int) + (m1 : Int)), .int .i64 ((sy : Int) + (m2 : Int)), .bool (ed || edgeP f p)]) := hide (by
        rw [unhide HTK, sumP_snoc, unhide HBe, unhide HM1, unhide HM2, unhide HNe, unhide HCe, unhide HRe, ← unhide HF]
        unfold blobAt addP frOf
        simp)
      have q4 := Q3.cell 4 _ rfl
      have e4 := Q3.free 4
      try simp only at q4
      cases ed
      · have c0 := P3.cell 0 _ rfl
        have c1 := P3.cell 1 _ rfl
        have f0 := F3.cell 0 _ rfl
        have f1 := F3.cell 1 _ rfl
        have f2 := F3.cell 2 _ rfl
        have HED : Hid (edgeI wd ht c r = edgeP f p) := hide (by
          have h := edge_same f p c r (by rw [← unhide HF]; exact unhide HCe) (by rw [← unhide HF]; exact unhide HRe) (by rw [← unhide HF]; exact hw0) (by rw [← unhide HF]; exact hh0)
          rw [← unhide HF] at h ⊢
          exact h)
        go_wp2_with fail
        refine (atEdge_any wd ht s c r _ (by omega) (by omega) (by omega) (by omega)).mono ?_
        rintro e W4 ⟨rfl, hx4⟩
        rw [unhide HED]
        have Q4 := Q3.kept hx4
        have F4 := F3.kept hx4
        have R4 := R3.kept hx4
        have B4 := B3.trans (hx4.mono (Nat.le_of_lt F3.lt))
        clear q4 e4 c0 c1 f0 f1 f2 hx4 Q3 F3 R3 B3 P3
        have e4 := Q4.free 4
        have q4 := Q4.cell 4 _ rfl
        try simp only at q4
        have HQ5 : Hid (Blk (W4.setCell ⟨w.heap.size + 1 + 1, 4, none⟩ (.bool (edgeP f p))) (w.heap.size + 1 + 1) (blobAt A.length (sumP f (A.take (k + 1)))) 40) := hide (by rw [unhide HBB]; exact Q4.set 4 (.bool (edgeP f p)))
        have HF5 := hide (F4.other ⟨w.heap.size + 1 + 1, 4, none⟩ (.bool (edgeP f p)) nfb)
        have HR5 := hide (R4.other ⟨w.heap.size + 1 + 1, 4, none⟩ (.bool (edgeP f p)) nrb)
        have HB5 := hide (B4.setCell (p := ⟨w.heap.size + 1 + 1, 4, none⟩) lo (.bool (edgeP f p)))
        clear Q4 F4 R4 B4
        go_wp2_with fail
        go_roundw
        case rel => exact ⟨k + 1, by omega, by go_num, HF5, HR5, HQ5, HB5⟩
        case measure => simp [intOf] <;> omega
      · have HQ5 : Hid (Blk (W3.setCell ⟨w.heap.size + 1 + 1, 4, none⟩ (.bool true)) (w.heap.size + 1 + 1) (blobAt A.length (sumP f (A.take (k + 1)))) 40) := hide (by rw [unhide HBB, Bool.true_or]; exact Q3.set 4 (.bool true))
        have HF5 := hide (F3.other ⟨w.heap.size + 1 + 1, 4, none⟩ (.bool true) nfb)
        have HR5 := hide (R3.other ⟨w.heap.size + 1 + 1, 4, none⟩ (.bool true) nrb)
        have HB5 := hide (B3.setCell (p := ⟨w.heap.size + 1 + 1, 4, none⟩) lo (.bool true))
        clear Q3 F3 R3 B3 P3
        go_wp2_with fail
        go_roundw
        case rel => exact ⟨k + 1, by omega, by go_num, HF5, HR5, HQ5, HB5⟩
        case measure => simp [intOf] <;> omega
    · have hke : A.length ≤ k := by omega
      have HTk : Hid (A.take k = A) := hide (List.take_of_length_le hke)
      rw [unhide HTk] at HQ
      have HAr : Hid ((sumP f A).ar = A.length) := hide (by
        have := (sum_bound (f := f) (by rw [← unhide HF]; exact hw) (by rw [← unhide HF]; exact hh) (fun i => by rw [← unhide HF]; exact byteN_lt256 s i) A (fun j hj => by rw [unhide HFN]; exact unhide HIN j hj)).1
        exact this)
      have hkk : ¬ (k : Int) < (A.length : Int) := by omega
      generalize hbe : sumP f A = b at *
      have HBq := hide hbe
      clear hbe
      obtain ⟨ar, su, sx, sy, ed⟩ := b
      have q0 := (unhide HQ).cell 0 _ rfl
      have q1 := (unhide HQ).cell 1 _ rfl
      have q2 := (unhide HQ).cell 2 _ rfl
      have q3 := (unhide HQ).cell 3 _ rfl
      have q4 := (unhide HQ).cell 4 _ rfl
      have r0 := (unhide HR).cell 0 _ rfl
      have r1 := (unhide HR).cell 1 _ rfl
      have r2 := (unhide HR).cell 2 _ rfl
      have r3 := (unhide HR).cell 3 _ rfl
      have r4 := (unhide HR).cell 4 _ rfl
      have g0 := (unhide HR).free 0
      have g1 := (unhide HR).free 1
      have g2 := (unhide HR).free 2
      have g3 := (unhide HR).free 3
      have g4 := (unhide HR).free 4
      try simp only at q0 q1 q2 q3 q4
      go_wp2_with fail
      have lo : w.heap.size ≤ w.heap.size + 1 := Nat.le_succ _
      refine bodyPost_ret (v := .agg #[.int .i64 (A.length : Int), .int .i64 su, .int .i64 sx, .int .i64 sy, .bool ed]) (by simp [results, Try.results52, go_sem, r0, r1, r2, r3, r4]) rfl ⟨?_, (((((unhide HB).setCell lo _).setCell lo _).setCell lo _).setCell lo _).setCell lo _⟩
      have h := unhide HAr
      try simp only at h
      unfold blobL
      rw [← h, unhide HBq]
end Go.Proofs.Ytmacbegchdjdnaa
