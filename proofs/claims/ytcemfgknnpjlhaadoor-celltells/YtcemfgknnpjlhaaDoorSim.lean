/- Cells laid elsewhere are numbered anew alike. -/
import Derived.Test.YtcemfgknnpjlhaaDoorPure
namespace Go.Ws

def mv (p : Nat → Nat) (n : Nat) (v : Val) : Val := if inR n v then ⟨v.k, (p v.n.toNat : Nat), v.t⟩ else v

/-- It names one of S, or no cell here nor there. -/
def Fits (n m : Nat) (S : Nat → Prop) (v : Val) : Prop := (inR n v = true → S v.n.toNat) ∧ (inR n v = false → inR m v = false)

structure Sim (h g : List Cel) (p : Nat → Nat) (S : Nat → Prop) : Prop where
  lt : ∀ i, S i → i < h.length ∧ p i < g.length
  inj : ∀ i j, S i → S j → p i = p j → i = j
  cell : ∀ i, S i → cellAt g (p i) = ⟨mv p h.length (cellAt h i).l, mv p h.length (cellAt h i).r⟩
  fits : ∀ i, S i → Fits h.length g.length S (cellAt h i).l ∧ Fits h.length g.length S (cellAt h i).r

theorem mem_map_inj {p : Nat → Nat} {S : Nat → Prop} (inj : ∀ i j, S i → S j → p i = p j → i = j) {o : List Nat} (ho : ∀ i ∈ o, S i) {i : Nat} (hi : S i) : p i ∈ o.map p ↔ i ∈ o := by
  constructor
  · intro h
    obtain ⟨j, hj, e⟩ := List.mem_map.1 h
    rw [inj i j hi (ho j hj) e.symm]; exact hj
  · exact fun h => List.mem_map_of_mem h
theorem idxOf_map_inj {p : Nat → Nat} {S : Nat → Prop} (inj : ∀ i j, S i → S j → p i = p j → i = j) {i : Nat} (hi : S i) : ∀ (o : List Nat), (∀ j ∈ o, S j) → (o.map p).idxOf (p i) = o.idxOf i
  | [], _ => rfl
  | j :: o, ho => by
    have ih := idxOf_map_inj inj hi o (fun k hk => ho k (List.mem_cons_of_mem _ hk))
    rw [List.map_cons, List.idxOf_cons, List.idxOf_cons, ih]
    by_cases e : j = i
    · subst e; simp
    · have h1 : (p j == p i) = false := by
        rw [beq_eq_false_iff_ne]; exact fun h => e (inj j i (ho j (by simp)) hi h)
      have h2 : (j == i) = false := by rw [beq_eq_false_iff_ne]; exact e
      rw [h1, h2]

theorem Sim.inR_mv {h g : List Cel} {p : Nat → Nat} {S : Nat → Prop} (H : Sim h g p S) {v : Val} (hv : Fits h.length g.length S v) (hr : inR h.length v = true) : inR g.length (mv p h.length v) = true ∧ (mv p h.length v).n.toNat = p v.n.toNat := by
  obtain ⟨h0, h1, h2⟩ := inR_iff.1 hr
  have := (H.lt _ (hv.1 hr)).2
  unfold mv
  rw [if_pos hr]
  refine ⟨inR_iff.2 ⟨h0, by simp, by simp; omega⟩, by simp⟩

theorem Sim.meet {h g : List Cel} {p : Nat → Nat} {S : Nat → Prop} (H : Sim h g p S) {v : Val} (hv : Fits h.length g.length S v) {o : List Nat} (ho : ∀ i ∈ o, S i) : meet g.length (o.map p) (mv p h.length v) = (meet h.length o v).map p ∧ ∀ i ∈ meet h.length o v, S i := by
  cases hr : inR h.length v with
  | true =>
    obtain ⟨e1, e2⟩ := H.inR_mv hv hr
    have hs := hv.1 hr
    unfold Ws.meet
    rw [if_pos e1, if_pos hr, e2]
    by_cases hm : v.n.toNat ∈ o
    · rw [if_pos ((mem_map_inj H.inj ho hs).2 hm), if_pos hm]
      exact ⟨rfl, ho⟩
    · rw [if_neg (fun x => hm ((mem_map_inj H.inj ho hs).1 x)), if_neg hm]
      refine ⟨by simp, fun i hi => ?_⟩
      rcases List.mem_append.1 hi with h1 | h1
      · exact ho i h1
      · simp at h1; rw [h1]; exact hs
  | false =>
    have e : mv p h.length v = v := by simp [mv, hr]
    have e2 := hv.2 hr
    unfold Ws.meet
    rw [e]
    simp only [hr, e2]
    exact ⟨rfl, ho⟩
theorem Sim.meetC {h g : List Cel} {p : Nat → Nat} {S : Nat → Prop} (H : Sim h g p S) {i : Nat} (hi : S i) {o : List Nat} (ho : ∀ i ∈ o, S i) : meetC g (o.map p) (p i) = (meetC h o i).map p ∧ ∀ j ∈ meetC h o i, S j := by
  obtain ⟨f1, f2⟩ := H.fits i hi
  obtain ⟨a1, a2⟩ := H.meet f1 ho
  obtain ⟨b1, b2⟩ := H.meet f2 a2
  unfold Ws.meetC
  rw [H.cell i hi]
  exact ⟨by rw [a1, b1], b2⟩
theorem Sim.close {h g : List Cel} {p : Nat → Nat} {S : Nat → Prop} (H : Sim h g p S) : ∀ (f : Nat) (o : List Nat) (d : Nat), (∀ i ∈ o, S i) → close g f (o.map p) d = (close h f o d).map p ∧ ∀ i ∈ close h f o d, S i
  | 0, o, d, ho => ⟨rfl, ho⟩
  | f + 1, o, d, ho => by
    unfold Ws.close
    rw [List.getElem?_map]
    cases hd : o[d]? with
    | none => exact ⟨rfl, ho⟩
    | some i =>
      have hi := ho i (List.mem_of_getElem? hd)
      obtain ⟨a1, a2⟩ := H.meetC hi ho
      simp only [Option.map_some]
      rw [a1]
      exact Sim.close H f _ _ a2

theorem close_stable {h : List Cel} : ∀ (f : Nat) (o : List Nat) (d e : Nat), (close h f o d).length ≤ d + f → close h (f + e) o d = close h f o d
  | 0, o, d, e, hl => by
    have : o.length ≤ d := hl
    rw [close_end this, close_end this]
  | f + 1, o, d, e, hl => by
    rw [show f + 1 + e = (f + e) + 1 by omega]
    unfold close at hl ⊢
    cases hd : o[d]? with
    | none => rfl
    | some i =>
      rw [hd] at hl
      simp only at hl ⊢
      exact close_stable f _ _ e (by omega)
theorem close_two {h : List Cel} {f1 f2 : Nat} {o : List Nat} {d : Nat} (h1 : (close h f1 o d).length ≤ d + f1) (h2 : (close h f2 o d).length ≤ d + f2) : close h f1 o d = close h f2 o d := by
  rw [← close_stable f1 o d f2 h1, Nat.add_comm f1 f2, close_stable f2 o d f1 h2]

theorem Sim.okmap {h g : List Cel} {p : Nat → Nat} {S : Nat → Prop} (H : Sim h g p S) {o : List Nat} (ho : Ok h.length o) (hs : ∀ i ∈ o, S i) : Ok g.length (o.map p) := by
  refine ⟨?_, fun i hi => ?_⟩
  · have hd := ho.1
    clear ho
    induction o with
    | nil => simp
    | cons a o ih =>
      rw [List.nodup_cons] at hd
      rw [List.map_cons, List.nodup_cons]
      refine ⟨fun hm => hd.1 ((mem_map_inj H.inj (fun i hi => hs i (List.mem_cons_of_mem _ hi)) (hs a (by simp))).1 hm), ih (fun i hi => hs i (List.mem_cons_of_mem _ hi)) hd.2⟩
  · obtain ⟨j, hj, rfl⟩ := List.mem_map.1 hi
    exact (H.lt j (hs j hj)).2
theorem Sim.stepV {h g : List Cel} {p : Nat → Nat} {S : Nat → Prop} (H : Sim h g p S) {v : Val} (hv : Fits h.length g.length S v) {o : List Nat} (ho : Ok h.length o) (hs : ∀ i ∈ o, S i) : stepV g (o.map p) (mv p h.length v) = (stepV h o v).map p ∧ ∀ i ∈ stepV h o v, S i := by
  obtain ⟨a1, a2⟩ := H.meet hv hs
  obtain ⟨b1, b2⟩ := H.close (h.length - o.length) (Ws.meet h.length o v) o.length a2
  have ok1 : Ok h.length (Ws.meet h.length o v) := meet_ok ho v
  have okc : Ok h.length (Ws.close h (h.length - o.length) (Ws.meet h.length o v) o.length) := close_ok _ _ _ ok1
  have okg : Ok g.length ((Ws.meet h.length o v).map p) := H.okmap ok1 a2
  have hl := ho.le
  have hl2 := (H.okmap ho hs).le
  rw [List.length_map] at hl2
  refine ⟨?_, b2⟩
  unfold Ws.stepV
  rw [a1, ← b1, List.length_map]
  refine close_two ?_ ?_
  · have := (close_ok (h := g) (g.length - o.length) _ o.length okg).le
    omega
  · rw [b1, List.length_map]
    have := okc.le
    omega
theorem Sim.foldl {h g : List Cel} {p : Nat → Nat} {S : Nat → Prop} (H : Sim h g p S) : ∀ (l : List Val), (∀ v ∈ l, Fits h.length g.length S v) → ∀ (o : List Nat), Done h o → (∀ i ∈ o, S i) → (l.map (mv p h.length)).foldl (Ws.stepV g) (o.map p) = (l.foldl (Ws.stepV h) o).map p ∧ ∀ i ∈ l.foldl (Ws.stepV h) o, S i
  | [], _, _, _, hs => ⟨rfl, hs⟩
  | v :: l, hl, o, hd, hs => by
    obtain ⟨a1, a2⟩ := H.stepV (hl v (by simp)) hd.1 hs
    rw [List.map_cons, List.foldl_cons, List.foldl_cons, a1]
    exact Sim.foldl H l (fun x hx => hl x (List.mem_cons_of_mem _ hx)) _ (stepV_done hd v) a2
theorem Sim.ordL {h g : List Cel} {p : Nat → Nat} {S : Nat → Prop} (H : Sim h g p S) {l : List Val} (hl : ∀ v ∈ l, Fits h.length g.length S v) : ordL g (l.map (mv p h.length)) = (ordL h l).map p ∧ ∀ i ∈ ordL h l, S i :=
  H.foldl l hl [] (done_nil h) (by simp)
theorem Sim.ren {h g : List Cel} {p : Nat → Nat} {S : Nat → Prop} (H : Sim h g p S) {v : Val} (hv : Fits h.length g.length S v) {o : List Nat} (hs : ∀ i ∈ o, S i) : ren g.length (o.map p) (mv p h.length v) = ren h.length o v := by
  cases hr : inR h.length v with
  | true =>
    obtain ⟨e1, e2⟩ := H.inR_mv hv hr
    unfold Ws.ren
    rw [if_pos e1, if_pos hr, e2, idxOf_map_inj H.inj (hv.1 hr) o hs]
    unfold mv
    rw [if_pos hr]
  | false =>
    have e : mv p h.length v = v := by simp [mv, hr]
    unfold Ws.ren
    rw [e]
    simp [hr, hv.2 hr]
theorem Sim.canonV {h g : List Cel} {p : Nat → Nat} {S : Nat → Prop} (H : Sim h g p S) {l : List Val} (hl : ∀ v ∈ l, Fits h.length g.length S v) : canonV g (l.map (mv p h.length)) = canonV h l := by
  obtain ⟨a1, a2⟩ := H.ordL hl
  unfold Ws.canonV
  rw [a1, List.map_map]
  exact List.map_congr_left fun v hv => H.ren (hl v hv) a2
theorem Sim.canonC {h g : List Cel} {p : Nat → Nat} {S : Nat → Prop} (H : Sim h g p S) {l : List Val} (hl : ∀ v ∈ l, Fits h.length g.length S v) : canonC g (l.map (mv p h.length)) = canonC h l := by
  obtain ⟨a1, a2⟩ := H.ordL hl
  unfold Ws.canonC
  rw [a1, List.map_map]
  refine List.map_congr_left fun i hi => ?_
  obtain ⟨f1, f2⟩ := H.fits i (a2 i hi)
  show Ws.renC g _ (p i) = _
  unfold Ws.renC
  rw [H.cell i (a2 i hi), H.ren f1 a2, H.ren f2 a2]

/-! ### Cells laid in another order -/
/-- All that is named is there. -/
def RightV (n : Nat) (v : Val) : Prop := v.k = 2 → 0 ≤ v.n ∧ v.n < n
theorem fits_all {n m : Nat} {v : Val} (h : RightV n v) : Fits n m (fun i => i < n) v := by
  refine ⟨fun hr => ?_, fun hr => ?_⟩
  · obtain ⟨_, h1, h2⟩ := inR_iff.1 hr
    show v.n.toNat < n
    omega
  · cases hx : inR m v with
    | false => rfl
    | true =>
      obtain ⟨h0, _⟩ := inR_iff.1 hx
      have := h h0
      rw [inR_iff.2 ⟨h0, this⟩] at hr
      cases hr
theorem mod_inj {n b i j : Nat} (hi : i < n) (hj : j < n) (hb : b < n) (e : (i + b) % n = (j + b) % n) : i = j := by
  have h1 : (i + b) % n = if i + b < n then i + b else i + b - n := by
    split
    · exact Nat.mod_eq_of_lt ‹_›
    · rw [Nat.mod_eq_sub_mod (by omega), Nat.mod_eq_of_lt (by omega)]
  have h2 : (j + b) % n = if j + b < n then j + b else j + b - n := by
    split
    · exact Nat.mod_eq_of_lt ‹_›
    · rw [Nat.mod_eq_sub_mod (by omega), Nat.mod_eq_of_lt (by omega)]
  rw [h1, h2] at e
  split at e <;> split at e <;> omega
/-- g holds at (i + b) % n what h holds at i, moved. -/
theorem moved_sim {h g : List Cel} {b : Nat} (hb : b < h.length) (hg : g.length = h.length) (hcell : ∀ i, i < h.length → cellAt g ((i + b) % h.length) = ⟨mv (fun i => (i + b) % h.length) h.length (cellAt h i).l, mv (fun i => (i + b) % h.length) h.length (cellAt h i).r⟩)
    (hr : ∀ c ∈ h, RightV h.length c.l ∧ RightV h.length c.r) : Sim h g (fun i => (i + b) % h.length) (fun i => i < h.length) where
  lt := fun i hi => ⟨hi, by rw [hg]; exact Nat.mod_lt _ (by omega)⟩
  inj := fun i j hi hj e => mod_inj hi hj hb e
  cell := hcell
  fits := fun i hi => by
    have hm : cellAt h i ∈ h := by
      unfold cellAt
      rw [List.getD_eq_getElem?_getD, List.getElem?_eq_getElem hi]
      exact List.getElem_mem hi
    exact ⟨fits_all (hr _ hm).1, fits_all (hr _ hm).2⟩
end Go.Ws
