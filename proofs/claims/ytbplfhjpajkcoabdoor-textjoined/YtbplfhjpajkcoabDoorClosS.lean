/- Statements, gathered one by one. -/
import Derived.Test.YtbplfhjpajkcoabDoorNames2
namespace Go.Proofs.YtbplfhjpajkcoabDoor
open Go.RowKit

def SPost (T : ByteArray) (mb rb : Nat) (w : World) (res : R St) (e : Ending) (w' : World) : Prop :=
  ∃ r z, e = .returned (.tuple #[sv r, .int .i64 z]) ∧ Fr (fun k => k = rb) w w' ∧
    ((∃ x l p, res = .ok x l ∧ z = 0 ∧ At T p l ∧ Ry T mb rb p w' ∧ StOk w' (fun k => w.heap.size ≤ k ∧ k < w'.heap.size) r x) ∨ (res = .bad z ∧ z ≠ 0))
abbrev z43 : Array Value := #[.int .i64 0, .string ⟨#[]⟩, .slice none 0 0, .slice none 0 0, .slice none 0 0]
theorem size43 : (Tryd.prog.info? 43).map (fun i => (i.zero, i.size, i.bytes)) = some (some (.agg z43), 5, 96) := by kernel_rfl
theorem new5 (w : World) (a b c d f : Value) (t : TypeId) {g : Nat} (hg : g = w.heap.size) : ∀ j u, ([a, b, c, d, f] : List Value)[j]? = some u → (w.alloc (.cells #[a, b, c, d, f] t)).cell? ((⟨g, 0, none⟩ : Addr).add j) = some u := by
  subst hg
  exact World.news_of_block (cs := #[a, b, c, d, f]) (t := t) (fr := (0, 0)) (heap_new _ _)
theorem new_cells5 {w : World} {base E n cap g : Nat} {xs : List Value} {a b c d f : Value} (h : w.ownsRow base E 5 (.slice (some ⟨g, 0, none⟩) (n + 1) cap) (n + 1) (xs ++ [a, b, c, d, f])) (hx : xs.length = n * 5) :
    (w.cell? ⟨g, n * 5, none⟩ = some a ∧ w.cell? ⟨g, n * 5 + 1, none⟩ = some b ∧ w.cell? ⟨g, n * 5 + 2, none⟩ = some c ∧ w.cell? ⟨g, n * 5 + 3, none⟩ = some d ∧ w.cell? ⟨g, n * 5 + 4, none⟩ = some f) ∧ w.frozen? ⟨g, n * 5, none⟩ = false ∧ w.frozen? ⟨g, n * 5 + 1, none⟩ = false ∧ w.frozen? ⟨g, n * 5 + 2, none⟩ = false ∧ w.frozen? ⟨g, n * 5 + 3, none⟩ = false ∧ w.frozen? ⟨g, n * 5 + 4, none⟩ = false := by
  refine ⟨⟨?_, ?_, ?_, ?_, ?_⟩, h.frozenAt _, h.frozenAt _, h.frozenAt _, h.frozenAt _, h.frozenAt _⟩
  · rw [h.cellAt _ (by omega)]; exact behind (j := 0) hx rfl
  · rw [h.cellAt _ (by omega)]; exact behind (j := 1) hx rfl
  · rw [h.cellAt _ (by omega)]; exact behind (j := 2) hx rfl
  · rw [h.cellAt _ (by omega)]; exact behind (j := 3) hx rfl
  · rw [h.cellAt _ (by omega)]; exact behind (j := 4) hx rfl
theorem after5 {w2 w6 w9 : World} {A Z : Obj} {bx g n cp off H : Nat} {v : Value} {base E : Nat} {xs : List Value} {a b c d f u0 u1 u2 u3 u4 : Value} (hg6 : ((w2.alloc A).alloc Z).drew.grownBy w6 v.ownBlock) (hr6 : w6.ownsRow base E 5 (.slice (some ⟨g, 0, none⟩) (n + 1) cp) (n + 1) (xs ++ [a, b, c, d, f]))
    (hat : v.ownBlock = some g ∨ g = H) (hH : H = w2.heap.size + 2) (hx : xs.length = n * 5) (hne : g ≠ bx)
    (h9 : w9 = (((((w6.setCell ⟨g, n * 5, none⟩ u0).setCell ⟨g, n * 5 + 1, none⟩ u1).setCell ⟨g, n * 5 + 2, none⟩ u2).setCell ⟨g, n * 5 + 3, none⟩ u3).setCell ⟨g, n * 5 + 4, none⟩ u4).setCell ⟨bx, off, none⟩ (.slice (some ⟨g, 0, none⟩) (n + 1) cp) ∨
      w9 = (((((w6.setCell ⟨bx, off, none⟩ (.slice (some ⟨g, 0, none⟩) (n + 1) cp)).setCell ⟨g, n * 5, none⟩ u0).setCell ⟨g, n * 5 + 1, none⟩ u1).setCell ⟨g, n * 5 + 2, none⟩ u2).setCell ⟨g, n * 5 + 3, none⟩ u3).setCell ⟨g, n * 5 + 4, none⟩ u4) :
    After bx g n cp v base E 5 (xs ++ [u0, u1, u2, u3, u4]) w2 w9 := by
  have hat' : v.ownBlock = some g ∨ w2.heap.size ≤ g := by
    rcases hat with h | h
    · exact .inl h
    · exact .inr (by omega)
  have F6 : Fr (fun k => k = bx ∨ v.ownBlock = some k) w2 w6 := (((Fr.refl _ w2).alloc A).alloc Z).drew.grown hg6 (fun k hk => .inl (.inr hk))
  have hgS : (g = bx ∨ v.ownBlock = some g) ∨ w2.heap.size ≤ g := hat'.imp .inr id
  have hbx : ∀ (wa : World) (cs : List Value), wa.ownsRow base E 5 (.slice (some ⟨g, 0, none⟩) (n + 1) cp) (n + 1) cs → (wa.setCell ⟨bx, off, none⟩ (.slice (some ⟨g, 0, none⟩) (n + 1) cp)).ownsRow base E 5 (.slice (some ⟨g, 0, none⟩) (n + 1) cp) (n + 1) cs := fun wa cs h =>
    owns_fr h (Fr.setCell (Fr.refl (fun k => k = bx) wa) (p := ⟨bx, off, none⟩) (.inl rfl) _) (fun k hk e => by
      have : g = k := by simpa [Value.ownBlock] using hk
      omega)
  rcases h9 with rfl | rfl
  · refine ⟨Fr.setCell (p := ⟨bx, off, none⟩) (((((F6.setCell (p := ⟨g, n * 5, none⟩) hgS _).setCell (p := ⟨g, n * 5 + 1, none⟩) hgS _).setCell (p := ⟨g, n * 5 + 2, none⟩) hgS _).setCell (p := ⟨g, n * 5 + 3, none⟩) hgS _).setCell (p := ⟨g, n * 5 + 4, none⟩) hgS _) (.inl (.inl rfl)) _, ?_, hat'⟩
    exact hbx _ _ (owns_store5 hr6 hx)
  · refine ⟨((((((F6.setCell (p := ⟨bx, off, none⟩) (.inl (.inl rfl)) _).setCell (p := ⟨g, n * 5, none⟩) hgS _).setCell (p := ⟨g, n * 5 + 1, none⟩) hgS _).setCell (p := ⟨g, n * 5 + 2, none⟩) hgS _).setCell (p := ⟨g, n * 5 + 3, none⟩) hgS _).setCell (p := ⟨g, n * 5 + 4, none⟩) hgS _), ?_, hat'⟩
    exact owns_store5 (hbx _ _ hr6) hx
theorem far_put5 {w : World} {g n : Nat} {u0 u1 u2 u3 u4 : Value} {p : Addr} (h : g ≠ p.block) : (((((w.setCell ⟨g, n, none⟩ u0).setCell ⟨g, n + 1, none⟩ u1).setCell ⟨g, n + 2, none⟩ u2).setCell ⟨g, n + 3, none⟩ u3).setCell ⟨g, n + 4, none⟩ u4).cell? p = w.cell? p := by
  rw [World.cell?_setCell_far _ ⟨g, _, none⟩ _ _ h, World.cell?_setCell_far _ ⟨g, _, none⟩ _ _ h, World.cell?_setCell_far _ ⟨g, _, none⟩ _ _ h, World.cell?_setCell_far _ ⟨g, _, none⟩ _ _ h, World.cell?_setCell_far _ ⟨g, _, none⟩ _ _ h]
/-- The other cells of the slice's own variable. -/
theorem kept5 {w6 w9 : World} {bx g n cp off : Nat} {u0 u1 u2 u3 u4 vx : Value} (hne : g ≠ bx) (hx : w6.cell? ⟨bx, off, none⟩ = some vx)
    (h9 : w9 = (((((w6.setCell ⟨g, n * 5, none⟩ u0).setCell ⟨g, n * 5 + 1, none⟩ u1).setCell ⟨g, n * 5 + 2, none⟩ u2).setCell ⟨g, n * 5 + 3, none⟩ u3).setCell ⟨g, n * 5 + 4, none⟩ u4).setCell ⟨bx, off, none⟩ (.slice (some ⟨g, 0, none⟩) (n + 1) cp) ∨
      w9 = (((((w6.setCell ⟨bx, off, none⟩ (.slice (some ⟨g, 0, none⟩) (n + 1) cp)).setCell ⟨g, n * 5, none⟩ u0).setCell ⟨g, n * 5 + 1, none⟩ u1).setCell ⟨g, n * 5 + 2, none⟩ u2).setCell ⟨g, n * 5 + 3, none⟩ u3).setCell ⟨g, n * 5 + 4, none⟩ u4) :
    w9.cell? ⟨bx, off, none⟩ = some (.slice (some ⟨g, 0, none⟩) (n + 1) cp) ∧ (∀ j, j ≠ off → w9.cell? ⟨bx, j, none⟩ = w6.cell? ⟨bx, j, none⟩) ∧ (∀ j, w9.frozen? ⟨bx, j, none⟩ = w6.frozen? ⟨bx, j, none⟩) := by
  have hf : ∀ (w : World) (a p : Addr) (u : Value), (w.setCell a u).frozen? p = w.frozen? p := fun w a p u => World.frozen?_setCell ..
  rcases h9 with rfl | rfl
  · refine ⟨World.cell?_setCell_same _ _ _ (by rw [far_put5 (by exact hne)]; exact hx), fun j hj => ?_, fun j => by simp only [hf]⟩
    rw [World.cell?_setCell_other _ ⟨bx, off, none⟩ ⟨bx, j, none⟩ _ (fun e => hj (by cases e; rfl)), far_put5 (by exact hne)]
  · refine ⟨by rw [far_put5 (by exact hne)]; exact World.cell?_setCell_same _ _ _ hx, fun j hj => ?_, fun j => by simp only [hf]⟩
    rw [far_put5 (by exact hne), World.cell?_setCell_other _ ⟨bx, off, none⟩ ⟨bx, j, none⟩ _ (fun e => hj (by cases e; rfl))]
theorem clS_fin {T : ByteArray} {mb rb : Nat} {w1 : World} {bl : Nat} {one : Bs → R St} {acc : List St} {p : Nat} {w w2 w6 w9 : World} {z : Int} {r : RawS} {va : Option Addr} {vc g cp H : Nat} {A Z : Obj}
    (hless : Less one) (hbl : bl < w1.heap.size) (h1 : bl ≠ rb ∧ bl ≠ mb ∧ 2 ≤ bl) (hmb : mb < w1.heap.size) (hrb : rb < w1.heap.size) (hJ : JL 43 5 encS StOk T mb rb w1 bl acc p w)
    (hrow : Row 43 5 encS StOk w1.heap.size (.slice va acc.length vc) acc w) (hF2 : Fr (fun k => k = rb) w w2)
    (hres : (∃ x l p', one (T.data.toList.drop p) = .ok x l ∧ z = 0 ∧ At T p' l ∧ Ry T mb rb p' w2 ∧ StOk w2 (fun k => w.heap.size ≤ k ∧ k < w2.heap.size) r x) ∨ (one (T.data.toList.drop p) = .bad z ∧ z ≠ 0))
    (hg6 : ((w2.alloc A).alloc Z).drew.grownBy w6 (Value.slice va acc.length vc).ownBlock) {xs : List Value} (hr6 : w6.ownsRow w1.heap.size 43 5 (.slice (some ⟨g, 0, none⟩) (acc.length + 1) cp) (acc.length + 1) (xs ++ [.int .i64 0, .string ⟨#[]⟩, .slice none 0 0, .slice none 0 0, .slice none 0 0]))
    (hat : (Value.slice va acc.length vc).ownBlock = some g ∨ g = H) (hH : H = w2.heap.size + 2) (hxs : w2.ownsRow w1.heap.size 43 5 (.slice va acc.length vc) acc.length xs) (hne : ¬ g = bl) (hk6 : w6.cell? ⟨bl, 0, none⟩ = some (.slice va acc.length vc))
    (h9 : w9 = (((((w6.setCell ⟨g, acc.length * 5, none⟩ (.int .i64 r.k)).setCell ⟨g, acc.length * 5 + 1, none⟩ (.string (bs r.t))).setCell ⟨g, acc.length * 5 + 2, none⟩ (.slice r.a.a r.a.n r.a.c)).setCell ⟨g, acc.length * 5 + 3, none⟩ (.slice r.x.a r.x.n r.x.c)).setCell ⟨g, acc.length * 5 + 4, none⟩ (.slice r.y.a r.y.n r.y.c)).setCell ⟨bl, 0, none⟩ (.slice (some ⟨g, 0, none⟩) (acc.length + 1) cp) ∨
      w9 = (((((w6.setCell ⟨bl, 0, none⟩ (.slice (some ⟨g, 0, none⟩) (acc.length + 1) cp)).setCell ⟨g, acc.length * 5, none⟩ (.int .i64 r.k)).setCell ⟨g, acc.length * 5 + 1, none⟩ (.string (bs r.t))).setCell ⟨g, acc.length * 5 + 2, none⟩ (.slice r.a.a r.a.n r.a.c)).setCell ⟨g, acc.length * 5 + 3, none⟩ (.slice r.x.a r.x.n r.x.c)).setCell ⟨g, acc.length * 5 + 4, none⟩ (.slice r.y.a r.y.n r.y.c)) :
    KL rb w1 bl w9 ∧ ((∃ x l p', one (T.data.toList.drop p) = .ok x l ∧ z = 0 ∧ At T p' l ∧ JL 43 5 encS StOk T mb rb w1 bl (acc ++ [x]) p' w9) ∨ (one (T.data.toList.drop p) = .bad z ∧ z ≠ 0)) := by
  have hA := after5 hg6 hr6 hat hH hxs.1 hne h9
  obtain ⟨c3, co, cf⟩ := kept5 hne hk6 h9
  have hsz := hJ.fr.size
  have hsz2 := hF2.size
  have hownlt : ∀ k, (Value.slice va acc.length vc).ownBlock = some k → w1.heap.size ≤ k ∧ k < w2.heap.size := hxs.lt
  have hfr9 : Fr (fun k => k = rb ∨ k = bl) w1 w9 := (hJ.fr.trans (hF2.mono (fun k _ e => .inl e))).then hA.fr (fun j hj e => by
    rcases e with e | e
    · exact .inr e
    · have := (hownlt j e).1; omega)
  refine ⟨⟨hfr9, ⟨_, _, _⟩, c3⟩, ?_⟩
  rcases hres with ⟨x, l, p1, e1, e2, e3, e4, e5⟩ | hres
  · refine .inl ⟨x, l, p1, e1, e2, e3, ?_⟩
    have hp := e3.less' (hless _ _ _ e1)
    have hb : bl < w2.heap.size := by omega
    have hfar : some bl ≠ (Value.slice va acc.length vc).ownBlock := owns_far hxs hbl
    refine ⟨e4.frS hA.fr ?_ ?_ ?_ ?_, hfr9, ?_, ?_, _, c3, ?_⟩
    · rintro (e | e)
      · omega
      · have := (hownlt _ e).1; omega
    · rintro (e | e)
      · omega
      · have := (hownlt _ e).1; omega
    · rintro (e | e)
      · omega
      · have := (hownlt _ e).1; omega
    · rintro (e | e)
      · omega
      · have := (hownlt _ e).1; omega
    · exact (cf 0).trans ((hg6.frozen_far ⟨bl, 0, none⟩ (by show bl < ((w2.alloc A).alloc Z).heap.size; simp; omega) hfar).trans ((al2_oldf hb).trans ((hF2.frozen (p := ⟨bl, 0, none⟩) (by show bl < _; omega) h1.1).trans hJ.fz)))
    · have := hJ.le
      simp
      omega
    · refine hrow.push st_stays hF2 (fun k e => by omega) (Nat.le_refl _) e5 hA.fr (fun k e => ?_) (fun rs hrs => ?_) ?_
      · rcases e with e | e
        · exact .inl (by omega)
        · exact .inr e
      · have h2 : w2.ownsRow w1.heap.size 43 5 (.slice va acc.length vc) acc.length (rs.flatMap encS) := owns_fr hrs hF2 (fun k hk e => by have := (hrs.lt k hk).1; omega)
        have : rs.flatMap encS = xs := owns_same h2 hxs
        rw [this]
        exact hA.row
      · rcases hA.at_ with e | e
        · exact .inl e.symm
        · exact .inr ⟨g, rfl, e⟩
  · exact .inr hres
set_option maxHeartbeats 1000000 in
set_option maxRecDepth 20000 in
theorem clS (T : ByteArray) (mb rb : Nat) (w1 : World) (br bd bl : Nat) (deep : Int) (one : Bs → R St) (acc : List St) (p : Nat) (w : World)
    (hone : ∀ p w, Ry T mb rb p w → Calls Tryd.prog 51 #[.pointer (some ⟨rb, 0, none⟩), .int .i64 deep] w (SPost T mb rb w (one (T.data.toList.drop p))))
    (hless : Less one)
    (hcr : w1.cell? ⟨br, 0, none⟩ = some (.pointer (some ⟨rb, 0, none⟩))) (hcd : w1.cell? ⟨bd, 0, none⟩ = some (.int .i64 deep)) (hbl : bl < w1.heap.size)
    (h1 : br ≠ rb ∧ br ≠ bl ∧ bd ≠ rb ∧ bd ≠ bl ∧ bl ≠ rb ∧ bl ≠ mb ∧ 2 ≤ bl) (hmb : mb < w1.heap.size) (hrb : rb < w1.heap.size) (hJ : JL 43 5 encS StOk T mb rb w1 bl acc p w) :
    Calls Tryd.prog 50 #[.pointer (some ⟨br, 0, none⟩), .pointer (some ⟨bd, 0, none⟩), .pointer (some ⟨bl, 0, none⟩)] w (OPost T (KL rb w1 bl) (JL 43 5 encS StOk T mb rb w1 bl) acc (one (T.data.toList.drop p))) := by
  obtain ⟨v, hx3, hrow⟩ := hJ.row
  obtain ⟨va, vc, rfl⟩ := hrow.shape
  have hlbr := lt_of_cell hcr
  have hlbd := lt_of_cell hcd
  have a1 : w.cell? ⟨br, 0, none⟩ = some (.pointer (some ⟨rb, 0, none⟩)) := (hJ.fr.cell (p := ⟨br, 0, none⟩) hlbr (by show ¬ (br = rb ∨ br = bl); omega)).trans hcr
  have a2 : w.cell? ⟨bd, 0, none⟩ = some (.int .i64 deep) := (hJ.fr.cell (p := ⟨bd, 0, none⟩) hlbd (by show ¬ (bd = rb ∨ bd = bl); omega)).trans hcd
  have hsz1 := hJ.fr.size
  have l1 : br < w.heap.size := by have : br < w1.heap.size := hlbr; omega
  have l2 : bd < w.heap.size := by have : bd < w1.heap.size := hlbd; omega
  have l3 : bl < w.heap.size := by omega
  have HC := hide (hone p w hJ.ry)
  have HJ := hide hJ
  have HR := hide hrow
  have hacc : acc.length ≤ 1500 := by have := hJ.le; have := hJ.ry.le; have := hJ.ry.big; omega
  clear hJ hone hcr hcd hrow
  obtain ⟨j0, hj0, hy0, hy1, hy2⟩ := info_parts size43
  go_enter Tryd.func50, Tryd.ntmps50
  go_wp2_with (go_at_call 51; refine HC.out.mono ?_; rintro e w2 ⟨r, z, rfl, hF2, hres⟩; have b3 : w2.cell? ⟨bl, 0, none⟩ = some (.slice va acc.length vc) := (hF2.cell (p := ⟨bl, 0, none⟩) l3 (by show ¬ bl = rb; omega)).trans hx3; have bz : w2.frozen? ⟨bl, 0, none⟩ = false := (hF2.frozen (p := ⟨bl, 0, none⟩) l3 (by show ¬ bl = rb; omega)).trans HJ.out.fz; have m3 : bl < w2.heap.size := (Nat.lt_of_lt_of_le l3 hF2.size); have HF2 := hide hF2; have HRES := hide hres; clear hF2 hres)
  obtain ⟨rs, hown, hbase, heach⟩ := HR.out
  have hown2 : w2.ownsRow w1.heap.size 43 5 (.slice va acc.length vc) acc.length (rs.flatMap encS) := owns_fr hown HF2.out (fun k hk e => by have := (hown.lt k hk).1; omega)
  have hrl : (rs.flatMap encS).length = acc.length * 5 := hown.1
  have hw2 : w1.heap.size ≤ w2.heap.size := Nat.le_trans hsz1 HF2.out.size
  have OF := hide (owns_far hown2 (b := bl) hbl)
  have OL := hide (fun k => (hown2.lt k))
  clear heach hown hx3 a1 a2
  have i0 : (0 : Int) ≤ (acc.length : Int) := by omega
  have i1 : (acc.length : Int) < (acc.length : Int) + 1 := by omega
  have i2 : (acc.length : Int) < ((acc.length + 1 : Nat) : Int) := by omega
  have e0 := World.new_ne w2 ⟨bl, 0, none⟩ b3
  go_region_law
    ((refine step_append_lies _ rfl (.tmp 12) (.tmp 15) 38 rfl w1.heap.size 43 j0 _ 5 96 Tryd.underlying38 hj0 hy0 hy1 hy2 rfl (by decide) (.slice va acc.length vc) acc.length _ (by simp [Act.eval, Act.put]) (by exact (hown2.alloc _).alloc _) ⟨w2.heap.size + 1, 0, none⟩ 1 1 [.int .i64 0, .string ⟨#[]⟩, .slice none 0 0, .slice none 0 0, .slice none 0 0] (by simp [Act.eval, Act.put]) rfl (by exact new5 _ _ _ _ _ _ _ (by simp)) (by simp [Value.oneCell']) (by decide) (by unfold maxLen; omega) (by omega) (by simp; omega) _ rfl ?_; intro g cp w6 hr6 hg6 hat6 hlt6; have k3 : w6.cell? ⟨bl, 0, none⟩ = some (.slice va acc.length vc) := (hg6.cell_far ⟨bl, 0, none⟩ (by simp; omega) OF.out).trans ((al2_old m3).trans b3); have kz : w6.frozen? ⟨bl, 0, none⟩ = false := (hg6.frozen_far ⟨bl, 0, none⟩ (by simp; omega) OF.out).trans ((al2_oldf m3).trans bz); have kA : ∀ j, w6.cell? ⟨w2.heap.size, j, none⟩ = #[Value.int .i64 r.k, .string (bs r.t), .slice r.a.a r.a.n r.a.c, .slice r.x.a r.x.n r.x.c, .slice r.y.a r.y.n r.y.c][j]? := (fun j => (hg6.cell_far ⟨w2.heap.size, j, none⟩ (by simp; omega) (fun e => by have := (OL.out _ e.symm).2; simp at this)).trans ((World.cell?_alloc_past _ _ _ (by simp)).trans (World.cell?_alloc_new _ _ _ _))); have kA0 := kA 0; have kA1 := kA 1; have kA2 := kA 2; have kA3 := kA 3; have kA4 := kA 4; simp only [List.getElem?_toArray, List.getElem?_cons_zero, List.getElem?_cons_succ] at kA0 kA1 kA2 kA3 kA4; clear kA; have k6 : bl < w6.heap.size := (by have := hg6.size; simp at this; omega); obtain ⟨⟨q0, q1, q2, q3, q4⟩, y0, y1, y2, y3, y4⟩ := new_cells5 hr6 hrl; have gbx : ¬ g = bl := (by rcases hat6 with h | h; (intro e; subst e; exact OF.out h.symm); (simp at h; omega)); have gA : ¬ g = w2.heap.size := (by rcases hat6 with h | h; (have := (OL.out _ h).2; omega); (simp at h; omega)); have gbx' : ¬ bl = g := (fun e => gbx e.symm); have gA' : ¬ w2.heap.size = g := (fun e => gA e.symm); have HR6 := hide hr6; have HG6 := hide hg6; have HAT := hide hat6; clear hr6 hg6 hat6))
  all_goals go_wp2
  all_goals go_ret
  all_goals refine ⟨z, rfl, ?_⟩
  all_goals refine clS_fin hless hbl ⟨h1.2.2.2.2.1, h1.2.2.2.2.2.1, h1.2.2.2.2.2.2⟩ hmb hrb HJ.out HR.out HF2.out HRES.out HG6.out HR6.out HAT.out (by simp) hown2 gbx k3 ?_
  all_goals first
    | exact .inl (by with_reducible rfl)
    | exact .inr (by with_reducible rfl)
end Go.Proofs.YtbplfhjpajkcoabDoor
