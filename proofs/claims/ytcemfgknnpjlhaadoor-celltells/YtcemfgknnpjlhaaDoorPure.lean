/- Plain mathematics of values, cells, and their numbering; nothing of the program. -/
import Derived.Lib.ItoaNum
namespace Go.Ws

/-- A value. -/
structure Val where
  k : Int
  n : Int
  t : ByteArray
/-- A cell. -/
structure Cel where
  l : Val
  r : Val

def zeroV : Val := ⟨0, 0, ⟨#[]⟩⟩
def zeroC : Cel := ⟨zeroV, zeroV⟩
def sameV (a b : Val) : Bool := a.k == b.k && a.n == b.n && a.t.toList == b.t.toList
def sameC (a b : Cel) : Bool := sameV a.l b.l && sameV a.r b.r
def cellAt (h : List Cel) (i : Nat) : Cel := h.getD i zeroC

theorem bytes_ext {a b : ByteArray} (h : a.toList = b.toList) : a = b := by
  rw [ByteArray.toList_eq, ByteArray.toList_eq] at h
  obtain ⟨⟨x⟩⟩ := a
  obtain ⟨⟨y⟩⟩ := b
  simp at h
  rw [h]
theorem sameV_iff {a b : Val} : sameV a b = true ↔ a = b := by
  obtain ⟨ak, an, at'⟩ := a
  obtain ⟨bk, bn, bt⟩ := b
  simp only [sameV, Bool.and_eq_true, beq_iff_eq, Val.mk.injEq, and_assoc]
  exact ⟨fun ⟨x, y, z⟩ => ⟨x, y, bytes_ext z⟩, fun ⟨x, y, z⟩ => ⟨x, y, by rw [z]⟩⟩
theorem sameC_iff {a b : Cel} : sameC a b = true ↔ a = b := by
  obtain ⟨al, ar⟩ := a
  obtain ⟨bl, br⟩ := b
  simp [sameC, sameV_iff]

/-- It names one of so many cells. -/
def inR (n : Nat) (v : Val) : Bool := v.k == 2 && (decide (0 ≤ v.n) && decide (v.n < n))
theorem inR_iff {n : Nat} {v : Val} : inR n v = true ↔ v.k = 2 ∧ 0 ≤ v.n ∧ v.n < n := by simp [inR]

def meet (n : Nat) (o : List Nat) (v : Val) : List Nat :=
  if inR n v then (if v.n.toNat ∈ o then o else o ++ [v.n.toNat]) else o
def ren (n : Nat) (o : List Nat) (v : Val) : Val :=
  if inR n v then ⟨v.k, (o.idxOf v.n.toNat : Nat), v.t⟩ else v
def renC (h : List Cel) (o : List Nat) (i : Nat) : Cel :=
  ⟨ren h.length o (cellAt h i).l, ren h.length o (cellAt h i).r⟩
def meetC (h : List Cel) (o : List Nat) (i : Nat) : List Nat :=
  meet h.length (meet h.length o (cellAt h i).l) (cellAt h i).r
def close (h : List Cel) : Nat → List Nat → Nat → List Nat
  | 0, o, _ => o
  | f + 1, o, d => match o[d]? with
    | none => o
    | some i => close h f (meetC h o i) (d + 1)
def stepV (h : List Cel) (o : List Nat) (v : Val) : List Nat :=
  close h (h.length - o.length) (meet h.length o v) o.length
def ordL (h : List Cel) (l : List Val) : List Nat := l.foldl (stepV h) []
def canonV (h : List Cel) (l : List Val) : List Val := l.map (ren h.length (ordL h l))
def canonC (h : List Cel) (l : List Val) : List Cel := (ordL h l).map (renC h (ordL h l))

/-- Numbers of cells, each once. -/
def Ok (n : Nat) (o : List Nat) : Prop := o.Nodup ∧ ∀ i ∈ o, i < n

theorem length_le_of_nodup : ∀ (n : Nat) (o : List Nat), o.Nodup → (∀ i ∈ o, i < n) → o.length ≤ n
  | 0, o, _, h => by
    cases o with
    | nil => simp
    | cons a o => exact absurd (h a (by simp)) (by omega)
  | n + 1, o, hd, h => by
    by_cases hm : n ∈ o
    · have h1 := length_le_of_nodup n (o.erase n) (hd.erase n) (fun i hi => by
        have h2 := h i (List.mem_of_mem_erase hi)
        have h3 : i ≠ n := by
          intro e; subst e
          exact (List.Nodup.mem_erase_iff hd).1 hi |>.1 rfl
        omega)
      rw [List.length_erase_of_mem hm] at h1
      omega
    · have := length_le_of_nodup n o hd (fun i hi => by
        have h2 := h i hi
        have h3 : i ≠ n := fun e => hm (e ▸ hi)
        omega)
      omega

theorem Ok.le {n : Nat} {o : List Nat} (h : Ok n o) : o.length ≤ n := length_le_of_nodup n o h.1 h.2
theorem ok_nil (n : Nat) : Ok n [] := ⟨by simp, by simp⟩

theorem meet_ok {n : Nat} {o : List Nat} (h : Ok n o) (v : Val) : Ok n (meet n o v) := by
  unfold meet
  split
  · rename_i hv
    split
    · exact h
    · rename_i hm
      refine ⟨?_, ?_⟩
      · rw [List.nodup_append]
        exact ⟨h.1, by simp, fun a ha b hb e => hm (by simp at hb; rw [← hb, ← e]; exact ha)⟩
      · intro i hi
        rcases List.mem_append.1 hi with h1 | h1
        · exact h.2 i h1
        · simp at h1
          obtain ⟨_, h2, h3⟩ := inR_iff.1 hv
          omega
  · exact h
theorem meet_pre (n : Nat) (o : List Nat) (v : Val) : o <+: meet n o v := by
  unfold meet
  split
  · split
    · exact List.prefix_refl _
    · exact List.prefix_append _ _
  · exact List.prefix_refl _
theorem meet_mem {n : Nat} {v : Val} (o : List Nat) (hv : inR n v) : v.n.toNat ∈ meet n o v := by
  unfold meet
  rw [if_pos hv]
  split
  · assumption
  · simp
theorem meetC_ok {h : List Cel} {o : List Nat} (ho : Ok h.length o) (i : Nat) : Ok h.length (meetC h o i) := meet_ok (meet_ok ho _) _
theorem meetC_pre (h : List Cel) (o : List Nat) (i : Nat) : o <+: meetC h o i := (meet_pre _ _ _).trans (meet_pre _ _ _)

theorem close_ok {h : List Cel} : ∀ (f : Nat) (o : List Nat) (d : Nat), Ok h.length o → Ok h.length (close h f o d)
  | 0, _, _, ho => ho
  | f + 1, o, d, ho => by
    unfold close
    split
    · exact ho
    · exact close_ok f _ _ (meetC_ok ho _)
theorem close_pre {h : List Cel} : ∀ (f : Nat) (o : List Nat) (d : Nat), o <+: close h f o d
  | 0, _, _ => List.prefix_refl _
  | f + 1, o, d => by
    unfold close
    split
    · exact List.prefix_refl _
    · exact (meetC_pre _ _ _).trans (close_pre f _ _)

/-- All that cell i names is among o. -/
def Has (h : List Cel) (o : List Nat) (i : Nat) : Prop :=
  (inR h.length (cellAt h i).l → (cellAt h i).l.n.toNat ∈ o) ∧ (inR h.length (cellAt h i).r → (cellAt h i).r.n.toNat ∈ o)
theorem Has.mono {h : List Cel} {o o' : List Nat} {i : Nat} (hh : Has h o i) (hp : o <+: o') : Has h o' i :=
  ⟨fun x => hp.subset (hh.1 x), fun x => hp.subset (hh.2 x)⟩
theorem meetC_has (h : List Cel) (o : List Nat) (i : Nat) : Has h (meetC h o i) i :=
  ⟨fun x => (meet_pre _ _ _).subset (meet_mem _ x), fun x => meet_mem _ x⟩

/-- The first d of o have all that they name among o. -/
def Upto (h : List Cel) (o : List Nat) (d : Nat) : Prop := ∀ j i, j < d → o[j]? = some i → Has h o i
theorem getElem?_prefix {o o' : List Nat} (hp : o <+: o') {j i : Nat} (h : o[j]? = some i) : o'[j]? = some i := by
  obtain ⟨s, rfl⟩ := hp
  rw [List.getElem?_append_left]
  · exact h
  · exact (List.getElem?_eq_some_iff.1 h).1
theorem upto_step {h : List Cel} {o : List Nat} {d i : Nat} (hu : Upto h o d) (hi : o[d]? = some i) : Upto h (meetC h o i) (d + 1) := by
  intro j x hj hx
  rcases Nat.lt_or_ge j d with h1 | h1
  · have hl : j < o.length := Nat.lt_trans h1 (List.getElem?_eq_some_iff.1 hi).1
    have h2 : o[j]? = some o[j] := List.getElem?_eq_getElem hl
    have h3 := getElem?_prefix (meetC_pre h o i) h2
    rw [h3] at hx
    obtain rfl := Option.some.inj hx
    exact (hu j _ h1 h2).mono (meetC_pre h o i)
  · obtain rfl : j = d := by omega
    have h3 := getElem?_prefix (meetC_pre h o i) hi
    rw [h3] at hx
    obtain rfl := Option.some.inj hx
    exact meetC_has h o i
theorem close_upto {h : List Cel} : ∀ (f : Nat) (o : List Nat) (d : Nat), Ok h.length o → d + f = h.length → Upto h o d → d ≤ o.length → Upto h (close h f o d) (close h f o d).length
  | 0, o, d, ho, hf, hu, _ => by
    have := ho.le
    unfold close
    intro j i hj
    exact hu j i (by omega)
  | f + 1, o, d, ho, hf, hu, hd => by
    unfold close
    split
    · rename_i he
      intro j i hj hi
      have := List.getElem?_eq_none_iff.1 he
      exact hu j i (by omega) hi
    · rename_i i hi
      refine close_upto f _ _ (meetC_ok ho _) (by omega) (upto_step hu hi) ?_
      have h1 := (meetC_pre h o i).length_le
      have h2 := (List.getElem?_eq_some_iff.1 hi).1
      omega

/-- What is come to: each once, and with all that it names. -/
def Done (h : List Cel) (o : List Nat) : Prop := Ok h.length o ∧ Upto h o o.length
theorem done_nil (h : List Cel) : Done h [] := ⟨ok_nil _, fun j i hj => absurd hj (by simp)⟩
theorem stepV_done {h : List Cel} {o : List Nat} (hd : Done h o) (v : Val) : Done h (stepV h o v) := by
  refine ⟨close_ok _ _ _ (meet_ok hd.1 v), ?_⟩
  have h1 := hd.1.le
  have hp := meet_pre h.length o v
  refine close_upto _ _ _ (meet_ok hd.1 v) (by omega) ?_ hp.length_le
  intro j i hj hi
  have h2 : o[j]? = some o[j] := List.getElem?_eq_getElem hj
  rw [getElem?_prefix hp h2] at hi
  obtain rfl := Option.some.inj hi
  exact (hd.2 j _ hj h2).mono hp
theorem stepV_pre (h : List Cel) (o : List Nat) (v : Val) : o <+: stepV h o v := (meet_pre _ _ _).trans (close_pre _ _ _)
theorem stepV_mem {h : List Cel} {v : Val} (o : List Nat) (hv : inR h.length v) : v.n.toNat ∈ stepV h o v :=
  (close_pre _ _ _).subset (meet_mem o hv)
theorem foldl_done {h : List Cel} : ∀ (l : List Val) (o : List Nat), Done h o → Done h (l.foldl (stepV h) o)
  | [], _, hd => hd
  | v :: l, _, hd => foldl_done l _ (stepV_done hd v)
theorem foldl_pre {h : List Cel} : ∀ (l : List Val) (o : List Nat), o <+: l.foldl (stepV h) o
  | [], _ => List.prefix_refl _
  | v :: l, o => (stepV_pre h o v).trans (foldl_pre l _)
theorem foldl_mem {h : List Cel} : ∀ (l : List Val) (o : List Nat) (v : Val), v ∈ l → inR h.length v → v.n.toNat ∈ l.foldl (stepV h) o
  | [], _, _, hv, _ => absurd hv (by simp)
  | x :: l, o, v, hv, hr => by
    rcases List.mem_cons.1 hv with rfl | h1
    · exact (foldl_pre l _).subset (stepV_mem o hr)
    · exact foldl_mem l _ v h1 hr
theorem ordL_done (h : List Cel) (l : List Val) : Done h (ordL h l) := foldl_done l [] (done_nil h)
theorem ordL_mem {h : List Cel} {l : List Val} {v : Val} (hv : v ∈ l) (hr : inR h.length v) : v.n.toNat ∈ ordL h l := foldl_mem l [] v hv hr
theorem ordL_snoc (h : List Cel) (l : List Val) (v : Val) : ordL h (l ++ [v]) = stepV h (ordL h l) v := by simp [ordL]
theorem ordL_has {h : List Cel} {l : List Val} {i : Nat} (hi : i ∈ ordL h l) : Has h (ordL h l) i := by
  obtain ⟨j, hj, rfl⟩ := List.getElem_of_mem hi
  exact (ordL_done h l).2 j _ hj (List.getElem?_eq_getElem hj)

theorem idxOf_prefix {o o' : List Nat} (hp : o <+: o') {i : Nat} (h : i ∈ o) : o'.idxOf i = o.idxOf i := by
  obtain ⟨s, rfl⟩ := hp
  rw [List.idxOf_append, if_pos h]
theorem ren_prefix {n : Nat} {o o' : List Nat} (hp : o <+: o') {v : Val} (h : inR n v → v.n.toNat ∈ o) : ren n o' v = ren n o v := by
  unfold ren
  split
  · rename_i hv
    rw [idxOf_prefix hp (h hv)]
  · rfl
theorem renC_prefix {h : List Cel} {o o' : List Nat} (hp : o <+: o') {i : Nat} (hh : Has h o i) : renC h o' i = renC h o i := by
  unfold renC
  rw [ren_prefix hp hh.1, ren_prefix hp hh.2]

/- The road of the loop: as much is left as there are cells ahead. -/
theorem close_end {h : List Cel} {f : Nat} {o : List Nat} {d : Nat} (hd : o.length ≤ d) : close h f o d = o := by
  cases f with
  | zero => rfl
  | succ f =>
    unfold close
    rw [List.getElem?_eq_none_iff.2 hd]
theorem close_go {h : List Cel} {o : List Nat} {d : Nat} (hn : o.length ≤ h.length) (hd : d < o.length) : close h (h.length - d) o d = close h (h.length - (d + 1)) (meetC h o (o.getD d 0)) (d + 1) := by
  obtain ⟨f, hf⟩ : ∃ f, h.length - d = f + 1 := ⟨h.length - d - 1, by omega⟩
  rw [hf, show h.length - (d + 1) = f by omega]
  conv => lhs; unfold close
  rw [List.getElem?_eq_getElem hd]
  simp [List.getD_eq_getElem?_getD, List.getElem?_eq_getElem hd]

end Go.Ws
