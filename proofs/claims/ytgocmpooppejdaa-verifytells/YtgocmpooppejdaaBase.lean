/- Slices as the machine holds them, and what stays as it was. -/
import Derived.Test.YtgocmpooppejdaaProg
import Derived.Test.YtgocmpooppejdaaPure
import Derived.WalkKit
import Derived.WalkSpells
import Derived.WalkLawsBesides
import Derived.BigQuiet
import Derived.Deep.AppendLies
import Derived.Deep.RegionLaw
import Derived.Deep.RegionWith
import Derived.Maps.OwnSet
import Derived.Maps.OwnOps
import Derived.Deep.RegionHeld3
import Derived.Maps.Views
import Derived.StringKeys
namespace Go.Proofs.Ytgocmpooppejdaa
open Go.RowKit

def bs (l : Bs) : ByteArray := ⟨l.toArray⟩
theorem bs_list (l : Bs) : (bs l).data.toList = l := rfl
theorem bs_size (l : Bs) : (bs l).size = l.length := by simp [bs, ByteArray.size]
theorem hide {p : Prop} (h : p) : Hid p := h

/-- The slice v reads as the list l, an element being so many cells. -/
def Sl {α : Type} (enc : α → List Value) (sz : Nat) (w : World) (v : Value) (l : List α) : Prop :=
  ∃ ao cap, v = .slice ao l.length cap ∧ l.length ≤ maxLen ∧ ∀ i x, l[i]? = some x → ∃ b off, ao = some ⟨b, off, none⟩ ∧ b < w.heap.size ∧ ∀ j u, (enc x)[j]? = some u → w.cell? ⟨b, off + i * sz + j, none⟩ = some u

/-- Old blocks but those of S are as they were. -/
structure Fr (S : Nat → Prop) (w w' : World) : Prop where
  os : w'.os = w.os
  tape : w'.tape = w.tape
  output : w'.output = w.output
  size : w.heap.size ≤ w'.heap.size
  block : ∀ k, k < w.heap.size → ¬ S k → w'.heap[k]? = w.heap[k]?

theorem Fr.refl (S : Nat → Prop) (w : World) : Fr S w w := ⟨rfl, rfl, rfl, Nat.le_refl _, fun _ _ _ => rfl⟩
theorem Fr.trans {S : Nat → Prop} {a b c : World} (h : Fr S a b) (k : Fr S b c) : Fr S a c :=
  ⟨k.os.trans h.os, k.tape.trans h.tape, k.output.trans h.output, Nat.le_trans h.size k.size, fun j hj hs => (k.block j (Nat.lt_of_lt_of_le hj h.size) hs).trans (h.block j hj hs)⟩
theorem Fr.mono {S S' : Nat → Prop} {a b : World} (h : Fr S a b) (hs : ∀ k, k < a.heap.size → S k → S' k) : Fr S' a b :=
  ⟨h.os, h.tape, h.output, h.size, fun j hj hn => h.block j hj (fun x => hn (hs j hj x))⟩
theorem Fr.drew {S : Nat → Prop} {a b : World} (h : Fr S a b) : Fr S a b.drew := ⟨h.os, h.tape, h.output, h.size, h.block⟩
theorem Fr.drewN {S : Nat → Prop} {a b : World} (h : Fr S a b) (n : Nat) : Fr S a (b.drewN n) := ⟨h.os, h.tape, h.output, h.size, h.block⟩
theorem Fr.alloc {S : Nat → Prop} {a b : World} (h : Fr S a b) (o : Obj) : Fr S a (b.alloc o) :=
  h.trans ⟨rfl, rfl, rfl, by simp, fun k hk _ => Below.heap_alloc b o k hk⟩
theorem Fr.setCell {S : Nat → Prop} {a b : World} (h : Fr S a b) {p : Addr} (hp : S p.block ∨ a.heap.size ≤ p.block) (u : Value) : Fr S a (b.setCell p u) := by
  refine ⟨h.os, h.tape, h.output, ?_, fun k hk hs => ?_⟩
  · have := h.size; simpa [World.setCell] using this
  · rw [Below.heap_setCell b p u k (by rintro rfl; rcases hp with hp | hp; exact hs hp; omega)]
    exact h.block k hk hs
theorem Fr.grown {S : Nat → Prop} {a b c : World} {row : Option Nat} (h : Fr S a b) (hg : b.grownBy c row) (hr : ∀ k, row = some k → S k ∨ a.heap.size ≤ k) : Fr S a c :=
  ⟨hg.os.trans h.os, hg.tape.trans h.tape, hg.output.trans h.output, Nat.le_trans h.size hg.size, fun k hk hs => by
    rw [hg.block k (Nat.lt_of_lt_of_le hk h.size) (by
      intro e
      rcases hr k e.symm with h1 | h1
      · exact hs h1
      · omega)]
    exact h.block k hk hs⟩
theorem Fr.of_below {B : Nat} {a b : World} (h : Below B a b) (hB : a.heap.size ≤ B) (S : Nat → Prop) : Fr S a b :=
  ⟨h.os, h.tape, h.output, h.size, fun k hk _ => h.block k (Nat.lt_of_lt_of_le hk hB)⟩
theorem Fr.below {S : Nat → Prop} {a b : World} (h : Fr S a b) {B : Nat} (hB : B ≤ a.heap.size) (hs : ∀ k, k < B → ¬ S k) : Below B a b :=
  ⟨h.os, h.tape, h.output, h.size, fun k hk => h.block k (Nat.lt_of_lt_of_le hk hB) (hs k hk)⟩
theorem Fr.cell {S : Nat → Prop} {w w' : World} (h : Fr S w w') {p : Addr} (hp : p.block < w.heap.size) (hs : ¬ S p.block) : w'.cell? p = w.cell? p :=
  World.cell?_of_block (w := w) (h.block p.block hp hs)
theorem Fr.frozen {S : Nat → Prop} {w w' : World} (h : Fr S w w') {p : Addr} (hp : p.block < w.heap.size) (hs : ¬ S p.block) : w'.frozen? p = w.frozen? p :=
  World.frozen?_of_block (w := w) (h.block p.block hp hs)
abbrev nothing : Nat → Prop := fun _ => False

theorem lt_of_cell {w : World} {p : Addr} {v : Value} (h : w.cell? p = some v) : p.block < w.heap.size := by
  unfold World.cell? at h
  rcases Nat.lt_or_ge p.block w.heap.size with h1 | h1
  · exact h1
  · rw [Array.getElem?_eq_none h1] at h; simp at h

theorem Sl.fr {α : Type} {enc : α → List Value} {sz : Nat} {w w' : World} {v : Value} {l : List α} {S : Nat → Prop} (h : Sl enc sz w v l) (hf : Fr S w w')
    (hs : ∀ k, (∃ ao n c, v = .slice (some ao) n c ∧ ao.block = k) → ¬ S k) : Sl enc sz w' v l := by
  obtain ⟨ao, cap, rfl, hm, hc⟩ := h
  refine ⟨ao, cap, rfl, hm, fun i x hx => ?_⟩
  obtain ⟨b, off, rfl, hb, hcell⟩ := hc i x hx
  refine ⟨b, off, rfl, Nat.lt_of_lt_of_le hb hf.size, fun j u hu => ?_⟩
  rw [hf.cell (p := ⟨b, off + i * sz + j, none⟩) hb (hs b ⟨_, _, _, rfl, rfl⟩)]
  exact hcell j u hu
theorem Sl.below {α : Type} {enc : α → List Value} {sz : Nat} {w w' : World} {v : Value} {l : List α} {B : Nat} (h : Sl enc sz w v l) (hf : Below B w w') (hB : w.heap.size ≤ B) : Sl enc sz w' v l :=
  h.fr (Fr.of_below hf hB nothing) (fun _ _ => id)

/-- What the call built by append reads so. -/
theorem flat_length {α : Type} (enc : α → List Value) (sz : Nat) (he : ∀ x, (enc x).length = sz) : ∀ l : List α, (l.flatMap enc).length = l.length * sz
  | [] => by simp
  | x :: l => by simp [List.flatMap_cons, he, flat_length enc sz he l, Nat.add_mul, Nat.add_comm]
theorem flat_get {α : Type} (enc : α → List Value) (sz : Nat) (he : ∀ x, (enc x).length = sz) : ∀ (l : List α) (i : Nat) (x : α) (j : Nat) (u : Value), l[i]? = some x → (enc x)[j]? = some u → (l.flatMap enc)[i * sz + j]? = some u
  | [], i, x, j, u, h, _ => by simp at h
  | y :: l, 0, x, j, u, h, hu => by
    simp at h; subst h
    have hj : j < sz := by rw [← he y]; exact (List.getElem?_eq_some_iff.1 hu).1
    rw [List.flatMap_cons, Nat.zero_mul, Nat.zero_add, List.getElem?_append_left (by rw [he]; exact hj)]
    exact hu
  | y :: l, i + 1, x, j, u, h, hu => by
    rw [List.flatMap_cons, List.getElem?_append_right (by rw [he]; have : (i + 1) * sz = i * sz + sz := Nat.succ_mul i sz; omega), he]
    have h1 := flat_get enc sz he l i x j u (by simpa using h) hu
    rw [show (i + 1) * sz + j - sz = i * sz + j by have : (i + 1) * sz = i * sz + sz := Nat.succ_mul i sz; omega]
    exact h1
theorem sl_of_owns {α : Type} {enc : α → List Value} {sz : Nat} (he : ∀ x, (enc x).length = sz) {w : World} {base : Nat} {e : TypeId} {v : Value} {l : List α}
    (h : w.ownsRow base e sz v l.length (l.flatMap enc)) : Sl enc sz w v l := by
  rcases h.2 with ⟨rfl, h0⟩ | ⟨g, cap, cur, rfl, hb, hg, hn, hc, hs, ht⟩
  · have : l = [] := List.length_eq_zero_iff.1 h0
    subst this
    exact ⟨none, 0, rfl, by unfold maxLen; simp, fun i x hx => by simp at hx⟩
  · refine ⟨some ⟨g, 0, none⟩, cap, rfl, by omega, fun i x hx => ⟨g, 0, rfl, ?_, fun j u hu => ?_⟩⟩
    · rcases Nat.lt_or_ge g w.heap.size with h1 | h1
      · exact h1
      · rw [Array.getElem?_eq_none h1] at hg; cases hg
    · have hlt : i * sz + j < l.length * sz := by
        have h1 : i < l.length := (List.getElem?_eq_some_iff.1 hx).1
        have h2 : j < sz := by rw [← he x]; exact (List.getElem?_eq_some_iff.1 hu).1
        have h3 : (i + 1) * sz ≤ l.length * sz := Nat.mul_le_mul_right sz h1
        have h4 : (i + 1) * sz = i * sz + sz := Nat.succ_mul i sz
        omega
      rw [show 0 + i * sz + j = i * sz + j by omega, h.cellAt _ hlt]
      exact flat_get enc sz he l i x j u hx hu

theorem al2_old {w : World} {O1 O2 : Obj} {b j : Nat} (h : b < w.heap.size) : ((w.alloc O1).alloc O2).cell? ⟨b, j, none⟩ = w.cell? ⟨b, j, none⟩ := by
  rw [World.cell?_alloc_past _ _ _ (by simp; omega), World.cell?_alloc_past _ _ _ h]
theorem al2_oldf {w : World} {O1 O2 : Obj} {b j : Nat} (h : b < w.heap.size) : ((w.alloc O1).alloc O2).frozen? ⟨b, j, none⟩ = w.frozen? ⟨b, j, none⟩ := by
  rw [World.frozen?_alloc_past _ _ _ (by simp; omega), World.frozen?_alloc_past _ _ _ h]
theorem all_take {f : UInt8 → Bool} {v : Bs} {k : Nat} (h : (v.take k).all f = true) (hk : k < v.length) {c : UInt8} (hc : v[k] = c) (hf : f c = true) : (v.take (k + 1)).all f = true := by
  rw [List.take_succ_eq_append_getElem hk, List.all_append, h, hc]
  simp [hf]
theorem all_not {f : UInt8 → Bool} {v : Bs} {k : Nat} (hk : k < v.length) {c : UInt8} (hc : v[k] = c) (hf : f c = false) : v.all f = false := by
  rw [List.all_eq_false]
  exact ⟨c, hc ▸ List.getElem_mem hk, by simp [hf]⟩
theorem bs_inj {a b : Bs} (h : bs a = bs b) : a = b := by
  have := congrArg (fun x => x.data.toList) h
  exact this
theorem bs_eq (a b : Bs) : (bs a = bs b) = (a = b) := propext ⟨bs_inj, fun h => h ▸ rfl⟩
theorem bs_toList (a : Bs) : (bs a).toList = a := by rw [ByteArray.toList_eq]; rfl
theorem bs_ne {a b : Bs} (h : ¬ a = b) : ((bs a).toList == (bs b).toList) = false := by rw [bs_toList, bs_toList]; simpa using h
theorem bs_same (a : Bs) : ((bs a).toList == (bs a).toList) = true := by simp
end Go.Proofs.Ytgocmpooppejdaa
