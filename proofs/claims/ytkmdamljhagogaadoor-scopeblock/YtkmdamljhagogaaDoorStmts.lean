/- Statements up to a bracket. -/
import Derived.Test.YtkmdamljhagogaaDoorClosS
import Derived.Test.YtkmdamljhagogaaDoorExpr0
namespace Go.Proofs.YtkmdamljhagogaaDoor
open Go.RowKit

/-- A list of statements, as it is answered. -/
def LPost (rb : Nat) (w : World) (res : Rd (List St)) (e : Ending) (w' : World) : Prop :=
  ∃ s : Slc, e = .returned (.slice s.a s.n s.c) ∧ Fr (at_ rb) w w' ∧ Pr rb res.l res.z w' ∧ s.n = res.v.length ∧ ∃ rs, Sl encS 5 w' s.v rs ∧ (∀ b, s.v.ownBlock = some b → w.heap.size ≤ b ∧ b < w'.heap.size) ∧ Each (StOk w' (fun k => w.heap.size ≤ k ∧ k < w'.heap.size)) rs res.v
set_option maxHeartbeats 400000 in
set_option maxRecDepth 20000 in
theorem stmts_any (w0 : World) (rb : Nat) (d : Int) (one : Reader St) (N : Nat) (hN : 1502 ≤ N) (hless : Less one) (hsmall : Small one) (hd0 : 0 ≤ d) (hd : d ≤ 100)
    (hone : ∀ l w, Pw w0 rb l 0 w → Calls Tryd.prog 38 #[.pointer (some ⟨rb, 0, none⟩), .int .i64 d] w (XPost sv StOk rb w (one l 0)))
    (l : Bs) (z : Int) (w : World) (h : Pw w0 rb l z w) :
    Calls Tryd.prog 23 #[.pointer (some ⟨rb, 0, none⟩), .int .i64 d] w (LPost rb w (until_ one N l z)) := by
  have hrb := h.pr.lt
  have hge := h.ge
  have hF3 : Fr nothing w (((w.alloc (.cells #[.pointer (some ⟨rb, 0, none⟩)] 47)).alloc (.cells #[.int .i64 d] 3)).alloc (.cells #[.slice none 0 0] 41)) := (((Fr.refl _ w).alloc _).alloc _).alloc _
  have hm := made3 (Fr.refl nothing (((w.alloc (.cells #[.pointer (some ⟨rb, 0, none⟩)] 47)).alloc (.cells #[.int .i64 d] 3)).alloc (.cells #[.slice none 0 0] 41))) id id id
  have hP3 := h.fr hF3 id (fun k e => e.elim)
  generalize hw1 : (((w.alloc (.cells #[.pointer (some ⟨rb, 0, none⟩)] 47)).alloc (.cells #[.int .i64 d] 3)).alloc (.cells #[.slice none 0 0] 41)) = w1 at hF3 hm hP3
  obtain ⟨m1, m2, m3, m4, m5⟩ := hm
  have hJ0 : JL w0 rb 88 5 encS StOk w1 (w.heap.size + 1 + 1) 0 [] l z w1 :=
    { pw := hP3, fr := Fr.refl _ _, fz := fun _ => rfl, old := fun _ _ => rfl, le := fun _ => by have := hP3.len; simpa using this, row := ⟨nilS, m3 0, Row.nil _ (Nat.le_refl _)⟩ }
  have hw01 := hP3.bel.size
  have hww := h.bel.size
  have hrb1 := hP3.pr.lt
  have hne : w.heap.size ≠ rb ∧ w.heap.size ≠ w.heap.size + 1 + 1 ∧ w.heap.size + 1 ≠ rb ∧ w.heap.size + 1 ≠ w.heap.size + 1 + 1 ∧ w.heap.size + 1 + 1 ≠ rb := ⟨by omega, by omega, by omega, by omega, by omega⟩
  have hU := until_S rb _ _ _ one (JL w0 rb 88 5 encS StOk w1 (w.heap.size + 1 + 1) 0) hless hsmall (fun acc l z w h => ⟨h.pw.pr, h.pw.len⟩)
    (fun acc l l' z z' w' w'' h hp hl hz hf => h.move st_stays m5 hrb1 hne.2.2.2.2 hp hl hz hf)
    (fun acc l w' h => clS w0 rb w1 w.heap.size (w.heap.size + 1) (w.heap.size + 1 + 1) d one acc l w' hone hless hsmall hd0 hd (m1 0) (m2 0) m5 hrb1 hne ⟨by omega, hw01⟩ (m4 0) h)
    N [] l z w1 hJ0 (by omega) (fun _ => by have := hP3.len; omega)
  simp only [List.nil_append] at hU
  subst hw1
  have HU := hide hU
  have HF3 := hide hF3
  generalize until_ one N l z = q at *
  clear hU hJ0 hP3 h hone m1 m2 m3 m4 m5 hF3
  go_enter Tryd.func23, Tryd.ntmps23
  go_wp2_with (go_at_call 21; refine HU.out.mono ?_; rintro e w9 ⟨rfl, hj⟩; obtain ⟨⟨sa, sn, sc⟩, hc3, hrow⟩ := hj.row; obtain rfl : sn = q.v.length := (by obtain ⟨a, c, h⟩ := hrow.shape; cases h; rfl); have hb9 : w.heap.size + 1 + 1 < w9.heap.size := (by have := hj.fr.size; simp at this; omega); have HJ9 := hide hj; have HR := hide hrow; clear hj hrow)
  go_ret
  obtain ⟨rs, k1, k2, k3⟩ := HR.out.done st_stays encS_len (B := w.heap.size) (by simp; omega)
  refine ⟨⟨sa, q.v.length, sc⟩, rfl, HF3.out.mono (fun _ _ e => e.elim) |>.then HJ9.out.fr (fun j hj e => ?_), HJ9.out.pw.pr, rfl, rs, k1, k2, k3⟩
  rcases e with e | e
  · exact e
  · omega
end Go.Proofs.YtkmdamljhagogaaDoor
