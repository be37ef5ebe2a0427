/- The document's Show: what it answers. -/
import Derived.Test.YtcemfgknnpjlhaaDoorShow
namespace Go.Proofs.YtcemfgknnpjlhaaDoor
open Go.RowKit Go.Ws

/-- What the document's Show answers, so deep. -/
def RefAll (cl : List Cel) (hv : Value) (d : Nat) : Prop :=
  ∀ (v : Val) (deep : Int) (w : World), deep.toNat = d → deep ≤ 5 → -9223372036854775808 ≤ deep → okV cl.length v = true → WfV v → Sl encC 6 w hv cl → Tab w →
    Calls Tryd.prog 18 #[hv, vv v, .int .i64 deep] w fun e w' => e = .returned (.string ⟨(showV cl d v).toArray⟩) ∧ Below w.heap.size w w'

theorem grow_below (w : World) (n : Nat) (os : Array Obj) {B : Nat} (hB : B ≤ w.heap.size) : Below B w (Sort.grow (w.drewN n) os) :=
  (grow_fr w n os).below hB (fun _ _ => id)

set_option maxHeartbeats 400000 in
theorem ref_int (hv : Value) (v : Val) (deep : Int) (w : World) (hk : v.k = 0) (h0 : -9223372036854775808 ≤ v.n) (h1 : v.n ≤ 9223372036854775807) (ht : Tab w) :
    Calls Tryd.prog 18 #[hv, vv v, .int .i64 deep] w fun e w' => e = .returned (.string ⟨(Lib.itoa v.n).toArray⟩) ∧ Below w.heap.size w w' := by
  obtain ⟨vk, vn, vt⟩ := v
  simp only at hk h0 h1 ⊢
  subst hk
  have HT := hide ht
  clear ht
  go_enter Tryd.func18, Tryd.ntmps18
  go_wp2_with (go_at_call 34; refine (Tryd.strconv_Itoa vn h0 h1 _ (Lib.tabIs_alloc HT.out _)).mono ?_; rintro e w2 ⟨rfl, q2, os2, he2⟩)
  go_ret
  refine ⟨rfl, ?_⟩
  exact ((Below.refl _ _).alloc (Nat.le_refl _) _).trans (grow_below _ _ _ (by simp))
set_option maxHeartbeats 400000 in
theorem ref_text (hv : Value) (v : Val) (deep : Int) (w : World) (hk : v.k = 1) :
    Calls Tryd.prog 18 #[hv, vv v, .int .i64 deep] w fun e w' => e = .returned (.string v.t) ∧ Below w.heap.size w w' := by
  obtain ⟨vk, vn, vt⟩ := v
  simp only at hk ⊢
  subst hk
  go_enter Tryd.func18, Tryd.ntmps18
  go_wp2
  go_ret
  exact ⟨rfl, (Below.refl _ _).alloc (Nat.le_refl _) _⟩
set_option maxHeartbeats 400000 in
theorem ref_dots (hv : Value) (v : Val) (deep : Int) (w : World) (hk : v.k = 2) (hd : deep ≤ 0) :
    Calls Tryd.prog 18 #[hv, vv v, .int .i64 deep] w fun e w' => e = .returned (.string ⟨#[46, 46]⟩) ∧ Below w.heap.size w w' := by
  obtain ⟨vk, vn, vt⟩ := v
  simp only at hk ⊢
  subst hk
  go_enter Tryd.func18, Tryd.ntmps18
  go_wp2
  go_ret
  exact ⟨rfl, (Below.refl _ _).alloc (Nat.le_refl _) _⟩

theorem cat5 (sl sr : List UInt8) : ((((⟨#[40]⟩ : ByteArray) ++ ⟨sl.toArray⟩) ++ ⟨#[32]⟩) ++ ⟨sr.toArray⟩) ++ ⟨#[41]⟩ = (⟨(40 :: (sl ++ 32 :: (sr ++ [41]))).toArray⟩ : ByteArray) := by
  apply ByteArray.ext
  simp
theorem tab_below {w w' : World} (h : Tab w) (hb : Below w.heap.size w w') : Tab w' := Lib.tabBelow_of_tabIs h w' hb

set_option maxHeartbeats 400000 in
theorem ref_node (cl : List Cel) (hv : Value) (d : Nat) (ih : RefAll cl hv d) (okc : ∀ c ∈ cl, okC cl.length c = true ∧ WfC c) (i : Nat) (t : ByteArray) (deep : Int) (w : World) (hd : deep.toNat = d + 1) (h5 : deep ≤ 5) (hi : i < cl.length) (hs : Sl encC 6 w hv cl) (ht : Tab w) :
    Calls Tryd.prog 18 #[hv, vv ⟨2, i, t⟩, .int .i64 deep] w fun e w' => e = .returned (.string ⟨(40 :: (showV cl d (cellAt cl i).l ++ 32 :: (showV cl d (cellAt cl i).r ++ [41]))).toArray⟩) ∧ Below w.heap.size w w' := by
  obtain ⟨b, off, cap, rfl, hb, c0, c1, c2, c3, c4, c5⟩ := cells_of_sl hs hi
  have hok := okc (cellAt cl i) (cellAt_mem hi)
  have okl : okV cl.length (cellAt cl i).l = true := by have := hok.1; unfold okC at this; simp at this; exact this.1
  have okr : okV cl.length (cellAt cl i).r = true := by have := hok.1; unfold okC at this; simp at this; exact this.2
  have hlen : cl.length ≤ maxLen := by obtain ⟨_, _, _, h, _⟩ := hs; exact h
  unfold maxLen at hlen
  have hp1 : (1 : Int) ≤ deep := by omega
  have hwr : IntKind.i64.wrap (deep - 1) = deep - 1 := wrapE (by omega) (by omega)
  have hLl := show_len okc d _ okl
  have hLr := show_len okc d _ okr
  have hpd : 64 * 2 ^ d ≤ 1024 := by
    have h2 : 2 ^ d ≤ 2 ^ 4 := Nat.pow_le_pow_right (by omega) (by omega)
    omega
  have HX := hide (And.intro hs (And.intro ht (And.intro okl (And.intro okr hok.2))))
  have IH := hide ih
  clear hs ht okl okr hok okc ih
  generalize hsl : showV cl d (cellAt cl i).l = sl at *
  generalize hsr : showV cl d (cellAt cl i).r = sr at *
  have HSl := hide hsl
  have HSr := hide hsr
  clear hsl hsr
  have n1 : ¬ 9223372036854775807 < 1 + sl.length := by omega
  have n2 : ¬ 9223372036854775807 < 1 + sl.length + 1 := by omega
  have n3 : ¬ 9223372036854775807 < 1 + sl.length + 1 + sr.length := by omega
  have n4 : ¬ 9223372036854775807 < 1 + sl.length + 1 + sr.length + 1 := by omega
  go_enter Tryd.func18, Tryd.ntmps18
  go_wp2
  have BW : Hid (Below w.heap.size w (((w.alloc (.cells #[.int .i64 2, .int .i64 i, .string t] 25)).alloc (.cells #[.int .i64 (cellAt cl i).l.k, .int .i64 (cellAt cl i).l.n, .string (cellAt cl i).l.t, .int .i64 (cellAt cl i).r.k, .int .i64 (cellAt cl i).r.n, .string (cellAt cl i).r.t] 43)).drew)) := (((Below.refl _ w).alloc (Nat.le_refl _) _).alloc (by simp) _).drew
  have CL := hide (IH.out (cellAt cl i).l (deep - 1) (((w.alloc (.cells #[.int .i64 2, .int .i64 i, .string t] 25)).alloc (.cells #[.int .i64 (cellAt cl i).l.k, .int .i64 (cellAt cl i).l.n, .string (cellAt cl i).l.t, .int .i64 (cellAt cl i).r.k, .int .i64 (cellAt cl i).r.n, .string (cellAt cl i).r.t] 43)).drew) (by omega) (by omega) (by omega) HX.out.2.2.1 HX.out.2.2.2.2.1 (HX.out.1.below BW.out (Nat.le_refl _)) (tab_below HX.out.2.1 BW.out))
  have CR : Hid (∀ w2, Below (w.heap.size + 2) (((w.alloc (.cells #[.int .i64 2, .int .i64 i, .string t] 25)).alloc (.cells #[.int .i64 (cellAt cl i).l.k, .int .i64 (cellAt cl i).l.n, .string (cellAt cl i).l.t, .int .i64 (cellAt cl i).r.k, .int .i64 (cellAt cl i).r.n, .string (cellAt cl i).r.t] 43)).drew) w2 → Calls Tryd.prog 18 #[.slice (some ⟨b, off, none⟩) cl.length cap, vv (cellAt cl i).r, .int .i64 (deep - 1)] w2 fun e w' => e = .returned (.string ⟨sr.toArray⟩) ∧ Below w2.heap.size w2 w') := fun w2 hb2 => by
    have hB := BW.out.trans (hb2.mono (Nat.le_add_right _ 2))
    have := IH.out (cellAt cl i).r (deep - 1) w2 (by omega) (by omega) (by omega) HX.out.2.2.2.1 HX.out.2.2.2.2.2 (HX.out.1.below hB (Nat.le_refl _)) (tab_below HX.out.2.1 hB)
    rw [HSr.out] at this
    exact this
  rw [HSl.out] at CL
  go_region_law (first
    | (refine step_call rfl 18 Tryd.f18 #[.tmp 38, .tmp 40, .tmp 42] #[22, 25, 3] rfl Tryd.func18 (by kernel_rfl) (by kernel_rfl) #[.slice (some ⟨b, off, none⟩) cl.length cap, vv (cellAt cl i).l, .int .i64 (deep - 1)] (by simp [Act.eval]) _ (by exact CL.out) ?_; rintro e w2 ⟨rfl, hb2⟩; have H2 := hide hb2; have y3 := (hb2.cell (p := ⟨w.heap.size + 1, 3, none⟩) (by simp)).trans (World.cell?_alloc2_new _ _ _ _); have y4 := (hb2.cell (p := ⟨w.heap.size + 1, 4, none⟩) (by simp)).trans (World.cell?_alloc2_new _ _ _ _); have y5 := (hb2.cell (p := ⟨w.heap.size + 1, 5, none⟩) (by simp)).trans (World.cell?_alloc2_new _ _ _ _); clear hb2; simp only [List.getElem?_toArray, List.getElem?_cons_zero, List.getElem?_cons_succ] at y3 y4 y5; refine ⟨_, rfl, ?_⟩)
    | (refine step_call rfl 18 Tryd.f18 #[.tmp 46, .tmp 48, .tmp 50] #[22, 25, 3] rfl Tryd.func18 (by kernel_rfl) (by kernel_rfl) #[.slice (some ⟨b, off, none⟩) cl.length cap, vv (cellAt cl i).r, .int .i64 (deep - 1)] (by simp [Act.eval, Act.put]) _ (by exact CR.out w2 (by simpa using H2.out)) ?_; rintro e w3 ⟨rfl, hb3⟩; have H3 := hide hb3; clear hb3; refine ⟨_, rfl, ?_⟩))
  all_goals go_wp2
  all_goals go_ret
  all_goals
    have hsz2 : w.heap.size + 2 ≤ w2.heap.size := by have := H2.out.size; simpa [World.drew] using this
    refine ⟨?_, (BW.out.trans (H2.out.mono (by simp; omega))).trans (H3.out.mono (by omega))⟩
    exact congrArg (fun s => Ending.returned (.string s)) (cat5 sl sr)

theorem ref_all (cl : List Cel) (hv : Value) (okc : ∀ c ∈ cl, okC cl.length c = true ∧ WfC c) : ∀ d, RefAll cl hv d := by
  intro d
  induction d with
  | zero =>
    intro v deep w hd h5 hlo hok hwf hs ht
    rcases ok_cases hok with ⟨h0, h1, h2, _⟩ | ⟨h0, h1, _⟩ | ⟨h0, _⟩
    · rw [show showV cl 0 v = Lib.itoa v.n by unfold showV; rw [if_pos h0]]
      exact ref_int hv v deep w h0 (by omega) (by omega) ht
    · rw [show showV cl 0 v = v.t.data.toList by unfold showV; rw [if_neg (by omega), if_pos h0]]
      exact ref_text hv v deep w h0
    · rw [show showV cl 0 v = [46, 46] by unfold showV; rw [if_neg (by omega), if_neg (by omega)]]
      exact ref_dots hv v deep w h0 (by omega)
  | succ d ih =>
    intro v deep w hd h5 hlo hok hwf hs ht
    rcases ok_cases hok with ⟨h0, h1, h2, _⟩ | ⟨h0, h1, _⟩ | ⟨h0, h1, h2, _⟩
    · rw [show showV cl (d + 1) v = Lib.itoa v.n by unfold showV; rw [if_pos h0]]
      exact ref_int hv v deep w h0 (by omega) (by omega) ht
    · rw [show showV cl (d + 1) v = v.t.data.toList by unfold showV; rw [if_neg (by omega), if_pos h0]]
      exact ref_text hv v deep w h0
    · have hr : inR cl.length v = true := inR_iff.2 ⟨h0, h1, h2⟩
      obtain ⟨i, hi⟩ := Int.eq_ofNat_of_zero_le h1
      rw [showV_node h0 hr, show v.n.toNat = i by omega]
      obtain ⟨vk, vn, vt⟩ := v
      simp only at h0 hi h2
      subst h0 hi
      exact ref_node cl hv d ih okc i vt deep w hd h5 (by omega) hs ht
end Go.Proofs.YtcemfgknnpjlhaaDoor
