/- Code and programs as the machine holds them. -/
import Derived.Test.YtgocmpooppejdaaRep0
import Derived.Laws.OwnMore
import Derived.Test.YtgocmpooppejdaaKSpec
set_option maxHeartbeats 0
set_option maxRecDepth 100000
namespace Go.Proofs.Ytgocmpooppejdaa
open Go Go.RowKit
def encI (r : In) : List Value := [.int .i64 r.op, .int .i64 r.a, .int .i64 r.b]
theorem encI_len (r : In) : (encI r).length = 3 := rfl
theorem sizeIn : (Try.prog.info? 44).map (fun i => (i.zero, i.size, i.bytes)) = some (some (.agg #[.int .i64 0, .int .i64 0, .int .i64 0]), 3, 24) := by kernel_rfl
theorem sizeCd : (Try.prog.info? 37).map (fun i => (i.zero, i.size, i.bytes)) = some (some (.agg #[.int .i64 0, .int .i64 0, .slice none 0 0]), 3, 40) := by kernel_rfl
theorem sl_elemI {w : World} {s : Slc} {rs : List In} (h : Sl encI 3 w s.v rs) {i : Nat} {r : In} (hi : rs[i]? = some r) : ∃ b off, s.a = some ⟨b, off, none⟩ ∧ b < w.heap.size ∧ w.cell? ⟨b, off + i * 3, none⟩ = some (.int .i64 r.op) ∧ w.cell? ⟨b, off + i * 3 + 1, none⟩ = some (.int .i64 r.a) ∧ w.cell? ⟨b, off + i * 3 + 2, none⟩ = some (.int .i64 r.b) := by
  obtain ⟨ao, cap, he, _, hc⟩ := h
  obtain ⟨b, off, rfl, hb, hcell⟩ := hc i r hi
  simp only [Value.slice.injEq] at he
  exact ⟨b, off, he.1, hb, hcell 0 _ rfl, hcell 1 _ rfl, hcell 2 _ rfl⟩
structure RawC where
  np : Int
  nv : Int
  s : Slc
def encC (r : RawC) : List Value := [.int .i64 r.np, .int .i64 r.nv, .slice r.s.a r.s.n r.s.c]
theorem encC_len (r : RawC) : (encC r).length = 3 := rfl
structure CdOk (w : World) (P : Nat → Prop) (r : RawC) (x : Cd) : Prop where
  np : r.np = (x.np : Nat)
  nv : r.nv = (x.nv : Nat)
  s : Sl encI 3 w r.s.v x.ins
  p : ∀ b, r.s.v.ownBlock = some b → P b
theorem cd_stays : Stays CdOk := fun _ _ _ _ _ _ _ h hf hs hm => ⟨h.np, h.nv, h.s.keep hf h.p hs, fun b hb => hm _ (h.p b hb)⟩
/-- A program as the machine holds it. -/
def PgOk (w : World) (sc sw : Slc) (P : Pg) : Prop := (∃ rs, Sl encC 3 w sc.v rs ∧ Each (CdOk w (fun k => k < w.heap.size)) rs P.cs) ∧ Sl encN 1 w sw.v P.ws ∧ (∀ b, sc.v.ownBlock = some b → b < w.heap.size) ∧ (∀ b, sw.v.ownBlock = some b → b < w.heap.size)
theorem sl_nil {α : Type} (enc : α → List Value) (sz : Nat) (w : World) : Sl enc sz w (.slice none 0 0) ([] : List α) := ⟨none, 0, rfl, by unfold maxLen; simp, fun i x h => by simp at h⟩
theorem pgOk_nil (w : World) : PgOk w nilS nilS ⟨[], []⟩ := ⟨⟨[], sl_nil _ _ _, rfl, fun i r x h => by simp at h⟩, sl_nil _ _ _, fun b h => (by cases h), fun b h => (by cases h)⟩
def MkP (w : World) (res : Pg × Int) (e : Ending) (w' : World) : Prop := ∃ sc sw : Slc, e = .returned (.tuple #[.agg #[.slice sc.a sc.n sc.c, .slice sw.a sw.n sw.c], .int .i64 res.2]) ∧ Fr nothing w w' ∧ PgOk w' sc sw res.1
theorem sl_elemC {w : World} {s : Slc} {rs : List RawC} (h : Sl encC 3 w s.v rs) {i : Nat} {r : RawC} (hi : rs[i]? = some r) : ∃ b off, s.a = some ⟨b, off, none⟩ ∧ b < w.heap.size ∧ w.cell? ⟨b, off + i * 3, none⟩ = some (.int .i64 r.np) ∧ w.cell? ⟨b, off + i * 3 + 1, none⟩ = some (.int .i64 r.nv) ∧ w.cell? ⟨b, off + i * 3 + 2, none⟩ = some (.slice r.s.a r.s.n r.s.c) := by
  obtain ⟨ao, cap, he, _, hc⟩ := h
  obtain ⟨b, off, rfl, hb, hcell⟩ := hc i r hi
  simp only [Value.slice.injEq] at he
  exact ⟨b, off, he.1, hb, hcell 0 _ rfl, hcell 1 _ rfl, hcell 2 _ rfl⟩
end Go.Proofs.Ytgocmpooppejdaa
