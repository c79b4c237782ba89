/- sightsOf: the program's. -/
import Derived.Test.YtjdehbpgdplolaaDoorNaA
import Derived.Test.YtjdehbpgdplolaaDoorL7A
import Derived.Test.YtjdehbpgdplolaaDoorTsA
import Derived.Deep.RegionHeld
import Derived.WalkMore
namespace Go.Proofs.YtjdehbpgdplolaaDoor
open Go.RowKit Go.Sort
set_option linter.unusedVariables false
set_option linter.unusedSimpArgs false

theorem step_append7 {P : Program} {ops : Array Oper} {o : Oper} {a : Act} {w : World} {K : Act → World → Prop} {Q : Exit → Act → World → Prop} {E : Prop} (hgd : o.guard = none) (s x : Operand) (t : TypeId)
    (ho : o.op = .call { callee := .builtin .append, args := #[s, x], argTypes := #[t, t] })
    (base : Nat) (e : TypeId) (i : TypeInfo) (z : Value) (size bytes : Nat) (ht : P.underlying t = some (.slice e)) (hi : P.info? e = some i) (hz : i.zero = some z)
    (hsize : i.size = size) (hby : i.bytes = bytes) (hzs : z.cells.size = size) (hsz : 0 < size)
    (v : Value) (n : Nat) (xs : List Value) (hs : a.eval s = v) (hown : w.ownsRow base e size v n xs)
    (ad : Addr) (m c : Nat) (news : List Value) (hx : a.eval x = .slice (some ad) m c) (hl : news.length = m * size) (hnews : ∀ j u, news[j]? = some u → w.cell? (ad.add j) = some u) (h1 : ∀ u ∈ news, u.oneCell' = true)
    (h63 : n + m ≤ maxLen) (hbytes : (n + m) * bytes ≤ 140737488355328) (hbase : base ≤ w.heap.size)
    (h : ∀ v' w', w'.ownsRow base e size v' (n + m) (xs ++ news) → w.grownBy w' v.ownBlock → K (a.put o.dst v') w') : if Region.wanted o (yielded ops a.tmps) = true then Oper.wp P o a w K Q else E := by
  have hw : Region.wanted o (yielded ops a.tmps) = true := by simp [Region.wanted, hgd]
  rw [if_pos hw]
  exact wp_append_own w s x t ho base e i z size bytes ht hi hz hsize hby hzs hsz v n xs hs hown ad m c news hx hl hnews h1 h63 hbytes hbase fun v' w' h2 h3 _ => h v' w' h2 h3
theorem cellKept {w w' : World} {a : Addr} {v : Value} (h : w.cell? a = some v) (hB : Below w.heap.size w w') : w'.cell? a = some v := (hB.cell (World.block_lt_of_cell? w a h)).trans h
theorem cellGrown {w w' : World} {a : Addr} {v : Value} {row : Option Nat} (h : w.cell? a = some v) (hg : w.grownBy w' row) (hne : some a.block ≠ row) : w'.cell? a = some v := (World.cell?_of_block (hg.block a.block (World.block_lt_of_cell? w a h) hne)).trans h
theorem info_sight : (Tryd.prog.info? 97).map (fun i => (i.zero, i.size, i.bytes)) = some (some (.agg #[.int .i64 0, .int .i64 0, .int .i64 0, .int .i64 0, .int .i64 0, .int .i64 0, .int .i64 0]), 7, 56) := by kernel_rfl
def flatSg (S : List Sg) : List Value := S.flatMap sgL
theorem flatSg_app (A B : List Sg) : flatSg (A ++ B) = flatSg A ++ flatSg B := by unfold flatSg; rw [List.flatMap_append]
theorem flatSg_cell {S : List Sg} {v : Value} (h : v ∈ flatSg S) : v.oneCell' = true := by
  unfold flatSg at h
  rw [List.mem_flatMap] at h
  obtain ⟨p, _, hp⟩ := h
  simp [sgL] at hp
  rcases hp with rfl | rfl | rfl | rfl | rfl | rfl | rfl <;> rfl
theorem flatSg_at : ∀ (S : List Sg) (k : Nat) (b : Sg), S[k]? = some b → ∀ j u, (sgL b)[j]? = some u → (flatSg S)[k * 7 + j]? = some u := by
  intro S
  induction S with
  | nil => intro k b h; simp at h
  | cons x S ih =>
    intro k b h j u hu
    have e : flatSg (x :: S) = sgL x ++ flatSg S := by unfold flatSg; simp
    have hj : j < 7 := (List.getElem?_eq_some_iff.1 hu).1
    rw [e]
    cases k with
    | zero =>
      simp at h
      subst h
      rw [List.getElem?_append_left (by show _ < 7; omega)]
      simpa using hu
    | succ k =>
      rw [List.getElem?_append_right (by show 7 ≤ _; omega)]
      rw [show (k + 1) * 7 + j - (sgL x).length = k * 7 + j by show _ - 7 = _; omega]
      exact ih k b (by simpa using h) j u hu
/-- an own row of sights, as it is read -/
theorem sights_own {w : World} {B : Nat} {a : Option Addr} {c : Nat} {A : List Sg} (h : w.ownsRow B 97 7 (.slice a A.length c) A.length (flatSg A)) : Sights w a A A.length := by
  rcases h.2 with ⟨h1, h0⟩ | ⟨g, cap, cur, hv, hb, hg, hnc, hcm, hcs, htake⟩
  · exact .inl h0
  · injection hv with e1 e2 e3
    refine .inr ⟨g, 0, e1, (Array.getElem?_eq_some_iff.1 hg).1, fun k hk => ?_⟩
    have hk' : A[k]? = some (sgA A k) := by unfold sgA; rw [List.getD_eq_getElem?_getD, List.getElem?_eq_getElem hk]; rfl
    have cl : ∀ j u, (sgL (sgA A k))[j]? = some u → w.cell? ⟨g, 0 + k * 7 + j, none⟩ = some u := by
      intro j u hu
      have hj : j < 7 := (List.getElem?_eq_some_iff.1 hu).1
      have e := flatSg_at A k _ hk' j u hu
      rw [cell_of_row w g _ cur _ _ hg]
      rw [← htake, List.getElem?_take, if_pos (by omega)] at e
      rw [Nat.zero_add]
      simpa using e
    exact ⟨cl 0 _ rfl, cl 1 _ rfl, cl 2 _ rfl, cl 3 _ rfl, cl 4 _ rfl, cl 5 _ rfl, cl 6 _ rfl⟩
theorem own_cap {w : World} {B : Nat} {a : Option Addr} {c n m : Nat} {t : TypeId} {xs : List Value} (h : w.ownsRow B t m (.slice a n c) n xs) (hm : 0 < m) : n ≤ c := by
  rcases h.2 with ⟨h1, h0⟩ | ⟨g, cap, cur, hv, hb, hg, hnc, hcm, hcs, htake⟩
  · injection h1 with _ e2 e3
    omega
  · injection hv with e1 e2 e3
    omega
end Go.Proofs.YtjdehbpgdplolaaDoor
