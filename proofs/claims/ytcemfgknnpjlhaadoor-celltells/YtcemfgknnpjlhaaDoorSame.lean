/- Lists that are the same are told so. -/
import Derived.Test.YtcemfgknnpjlhaaDoorRight
namespace Go.Proofs.YtcemfgknnpjlhaaDoor
open Go.RowKit Go.Ws

theorem eq25 (a b : Val) (w : World) : (Op.equalIn 10000 25 (vv a) (vv b)).run Tryd.prog w = .ok (sameV a b) w := by
  simp only [go_sem, sameV]
  by_cases h1 : a.k = b.k <;> by_cases h2 : a.n = b.n <;> by_cases h3 : a.t.toList = b.t.toList <;> simp [h1, h2, h3, go_sem]
theorem neq25 (a : Val) (w : World) : (binOp .neq 25 (.agg #[.int .i64 a.k, .int .i64 a.n, .string a.t]) (.agg #[.int .i64 a.k, .int .i64 a.n, .string a.t])).run Tryd.prog w = .ok (.bool false) w := by
  have := eq25 a a w
  rw [sameV_iff.2 rfl] at this
  rw [run_neq_struct, this]; rfl
theorem neq43 (a : Cel) (w : World) : (binOp .neq 43 (.agg #[.int .i64 a.l.k, .int .i64 a.l.n, .string a.l.t, .int .i64 a.r.k, .int .i64 a.r.n, .string a.r.t]) (.agg #[.int .i64 a.l.k, .int .i64 a.l.n, .string a.l.t, .int .i64 a.r.k, .int .i64 a.r.n, .string a.r.t])).run Tryd.prog w = .ok (.bool false) w := by
  rw [run_neq_struct]
  simp [go_sem]

set_option maxHeartbeats 400000 in
theorem sameVals_yes (l : List Val) (av bv : Value) (w : World) (hx : Sl encV 3 w av l) (hy : Sl encV 3 w bv l) :
    Calls Tryd.prog 19 #[av, bv] w fun e w' => e = .returned (.bool true) ∧ Below w.heap.size w w' := by
  obtain ⟨aa, ac, rfl, hll, q1⟩ := id hx
  obtain ⟨ba, bc, rfl, _, q2⟩ := id hy
  clear q1 q2
  have HX := hide hx
  have HY := hide hy
  clear hx hy
  unfold maxLen at hll
  go_enter Tryd.func19, Tryd.ntmps19
  go_wp2
  go_loopw [13] (fun i wr => ∃ k : Nat, k ≤ l.length ∧ i = .int .i64 k ∧ ∃ n, wr = w.drewN n) (fun i _ => l.length - (intOf i).toNat)
  case atStart => exact ⟨0, Nat.zero_le _, rfl, 0, rfl⟩
  case round =>
    obtain ⟨k, hk, rfl, nn, rfl⟩ := hrel
    by_cases hlt : k < l.length
    · obtain ⟨b1, o1, c1, he1, _, a0, a1, a2⟩ := vals_of_sl HX.out hlt
      obtain ⟨b2, o2, c2, he2, _, d0, d1, d2⟩ := vals_of_sl HY.out hlt
      obtain ⟨rfl, rfl⟩ : aa = some ⟨b1, o1, none⟩ ∧ ac = c1 := by simpa using he1
      obtain ⟨rfl, rfl⟩ : ba = some ⟨b2, o2, none⟩ ∧ bc = c2 := by simpa using he2
      clear he1 he2
      have hne := neq25 l[k]
      go_wp2
      go_region
      go_wp2
      go_roundw
      case rel => exact ⟨k + 1, by omega, by go_num, nn + 1, rfl⟩
      case measure => simp [intOf]; omega
    · go_wp2
      go_ret
      exact ⟨rfl, below_drewN (Below.refl _ _) _⟩

set_option maxHeartbeats 400000 in
theorem sameCels_yes (l : List Cel) (av bv : Value) (w : World) (hx : Sl encC 6 w av l) (hy : Sl encC 6 w bv l) :
    Calls Tryd.prog 20 #[av, bv] w fun e w' => e = .returned (.bool true) ∧ Below w.heap.size w w' := by
  obtain ⟨aa, ac, rfl, hll, q1⟩ := id hx
  obtain ⟨ba, bc, rfl, _, q2⟩ := id hy
  clear q1 q2
  have HX := hide hx
  have HY := hide hy
  clear hx hy
  unfold maxLen at hll
  go_enter Tryd.func20, Tryd.ntmps20
  go_wp2
  go_loopw [13] (fun i wr => ∃ k : Nat, k ≤ l.length ∧ i = .int .i64 k ∧ ∃ n, wr = w.drewN n) (fun i _ => l.length - (intOf i).toNat)
  case atStart => exact ⟨0, Nat.zero_le _, rfl, 0, rfl⟩
  case round =>
    obtain ⟨k, hk, rfl, nn, rfl⟩ := hrel
    by_cases hlt : k < l.length
    · obtain ⟨b1, o1, c1, he1, _, a0, a1, a2, a3, a4, a5⟩ := cels_of_sl HX.out hlt
      obtain ⟨b2, o2, c2, he2, _, d0, d1, d2, d3, d4, d5⟩ := cels_of_sl HY.out hlt
      obtain ⟨rfl, rfl⟩ : aa = some ⟨b1, o1, none⟩ ∧ ac = c1 := by simpa using he1
      obtain ⟨rfl, rfl⟩ : ba = some ⟨b2, o2, none⟩ ∧ bc = c2 := by simpa using he2
      clear he1 he2
      have hne := neq43 l[k]
      go_wp2
      go_region
      go_wp2
      go_roundw
      case rel => exact ⟨k + 1, by omega, by go_num, nn + 1, rfl⟩
      case measure => simp [intOf]; omega
    · go_wp2
      go_ret
      exact ⟨rfl, below_drewN (Below.refl _ _) _⟩
end Go.Proofs.YtcemfgknnpjlhaaDoor
