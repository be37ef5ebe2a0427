/- Statements. -/
import Derived.Test.YtbplfhjpajkcoabDoorStmtB
import Derived.Test.YtbplfhjpajkcoabDoorStmtC
import Derived.Test.YtbplfhjpajkcoabDoorStmtD
namespace Go.Proofs.YtbplfhjpajkcoabDoor
open Go.RowKit

theorem stmt_one (T : ByteArray) (mb rb p : Nat) (w : World) (deep : Int) (hd0 : 0 ≤ deep) (hd1 : deep ≤ 100) (h : Ry T mb rb p w) (one : Bs → R Ex) (hless : Less one) (nest : Bs → R (List St))
    (hone : ∀ p w, Ry T mb rb p w → Calls Tryd.prog 55 #[.pointer (some ⟨rb, 0, none⟩), .int .i64 (deep + 1)] w (EPost T mb rb w (one (T.data.toList.drop p))))
    (hnest : (∃ a x b, one a = .ok x b) → ∀ p w, Ry T mb rb p w → Calls Tryd.prog 34 #[.pointer (some ⟨rb, 0, none⟩), .int .i64 (deep + 1)] w (LPost encS 5 StOk T mb rb w (nest (T.data.toList.drop p)))) :
    Calls Tryd.prog 51 #[.pointer (some ⟨rb, 0, none⟩), .int .i64 deep] w (SPost T mb rb w (stmtP (times one) nest (T.data.toList.drop p))) := by
  cases hb : bracketP 40 (T.data.toList.drop p) with
  | bad z => exact stmt_S1 T mb rb p w deep h hb (by simp [stmtP, hb, R.go])
  | ok u l =>
    cases hw : wordP l with
    | bad z => exact stmt_S2 T mb rb p w deep h hb hw (by simp [stmtP, hb, hw, R.go])
    | ok v l2 =>
      by_cases hs : (formOf v).s = 0
      · exact stmt_S3 T mb rb p w deep h hb hw hs (by simp [stmtP, hb, hw, R.go, hs])
      · have i0 : ((formOf v).s == 0) = false := by simpa using hs
        have e1 : stmtP (times one) nest (T.data.toList.drop p) = (optName (formOf v).s l2).go fun t l => (times one (formOf v).n l).go fun a l => (restP nest (formOf v).s l).go fun xy l => .ok (.mk (formOf v).s t a xy.1 xy.2) l := by
          simp [stmtP, hb, hw, R.go, hs, partsP]
        by_cases h1 : (formOf v).s = 1
        · have i1 : ((formOf v).s == 1) = true := by simpa using h1
          have e2 : optName (formOf v).s l2 = nameP l2 := by simp [optName, h1]
          cases hnm : nameP l2 with
          | bad z => exact stmt_S4a T mb rb p w deep h hb hw i0 i1 hnm (by rw [e1, e2, hnm]; rfl)
          | ok tt l0 => exact stmt_main_a T mb rb p w deep hd0 hd1 h hb hw i0 i1 hnm one hless nest hone hnest (by rw [e1, e2, hnm]; rfl)
        · have i1 : ((formOf v).s == 1) = false := by simpa using h1
          by_cases h2 : (formOf v).s = 2
          · have i2 : ((formOf v).s == 2) = true := by simpa using h2
            have e2 : optName (formOf v).s l2 = nameP l2 := by simp [optName, h2]
            cases hnm : nameP l2 with
            | bad z => exact stmt_S4b T mb rb p w deep h hb hw i0 i1 i2 hnm (by rw [e1, e2, hnm]; rfl)
            | ok tt l0 => exact stmt_main_b T mb rb p w deep hd0 hd1 h hb hw i0 i1 i2 hnm one hless nest hone hnest (by rw [e1, e2, hnm]; rfl)
          · have i2 : ((formOf v).s == 2) = false := by simpa using h2
            have e2 : optName (formOf v).s l2 = .ok [] l2 := by simp [optName, h1, h2]
            exact stmt_main_c T mb rb p w deep hd0 hd1 h hb hw i0 i1 i2 one hless nest hone hnest (by rw [e1, e2]; rfl)
theorem exprK0 (M : Nums) (N : Nat) (a : Bs) (x : Ex) (b : Bs) : exprK M N 0 a ≠ .ok x b := by
  intro h
  unfold exprK at h
  split at h
  · cases h
  · split at h <;> cases h
/-- Statements. -/
theorem stmt_any (T : ByteArray) (mb rb N : Nat) (hN : T.size < N) : ∀ (k : Nat) (d : Int) (p : Nat) (w : World), d = 10 - (k : Int) → k ≤ 10 → Ry T mb rb p w →
    Calls Tryd.prog 51 #[.pointer (some ⟨rb, 0, none⟩), .int .i64 d] w (SPost T mb rb w (stmtK MM N k (T.data.toList.drop p)))
  | 0, d, p, w, hd, hk, h => by
    unfold stmtK
    exact stmt_one T mb rb p w d (by omega) (by omega) h (exprK MM N 0) (expr_less MM N 0) _ (fun p w h => expr_any T mb rb N hN 0 (d + 1) p w (by omega) (by omega) h) (fun ⟨a, x, b, e⟩ => absurd e (exprK0 MM N a x b))
  | k + 1, d, p, w, hd, hk, h => by
    unfold stmtK
    exact stmt_one T mb rb p w d (by omega) (by omega) h (exprK MM N (k + 1)) (expr_less MM N (k + 1)) _ (fun p w h => expr_any T mb rb N hN (k + 1) (d + 1) p w (by omega) (by omega) h)
      (fun _ p w h => stmts_any T mb rb p N w (d + 1) h hN (stmtK MM N k) (stmt_less MM N k) (fun p w h => stmt_any T mb rb N hN k (d + 1) p w (by omega) (by omega) h))
end Go.Proofs.YtbplfhjpajkcoabDoor
