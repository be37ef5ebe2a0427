/- Show: what it answers. -/
import Derived.Test.YtcemfgknnpjlhaaDoorPut
import Derived.Laws.EntriesVeiled
namespace Go.Proofs.YtcemfgknnpjlhaaDoor
open Go.RowKit Go.Ws

theorem ok_cases {n : Nat} {v : Val} (h : okV n v = true) : (v.k = 0 ∧ -1073741824 ≤ v.n ∧ v.n ≤ 1073741824 ∧ v.t.toList.isEmpty = true) ∨ (v.k = 1 ∧ v.t.size ≤ 60 ∧ v.n = 0) ∨ (v.k = 2 ∧ 0 ≤ v.n ∧ v.n < n ∧ v.t.toList.isEmpty = true) := by
  unfold okV wrongR at h
  by_cases h0 : v.k = 0
  · rw [if_pos h0] at h
    by_cases h1 : v.n < -1073741824 ∨ 1073741824 < v.n
    · rw [if_pos h1] at h; simp at h
    · rw [if_neg h1] at h
      by_cases h2 : v.t.toList.isEmpty = true
      · left; exact ⟨h0, by omega, by omega, h2⟩
      · rw [if_neg h2] at h; simp at h
  · rw [if_neg h0] at h
    by_cases h1 : v.k = 1
    · rw [if_pos h1] at h
      by_cases h2 : 60 < v.t.size
      · rw [if_pos h2] at h; simp at h
      · rw [if_neg h2] at h
        by_cases h3 : v.n ≠ 0
        · rw [if_pos h3] at h; simp at h
        · right; left; exact ⟨h1, by omega, by omega⟩
    · rw [if_neg h1] at h
      by_cases h2 : v.k = 2
      · rw [if_pos h2] at h
        by_cases h3 : v.n < 0 ∨ (n : Int) ≤ v.n
        · rw [if_pos h3] at h; simp at h
        · rw [if_neg h3] at h
          by_cases h4 : v.t.toList.isEmpty = true
          · right; right; exact ⟨h2, by omega, by omega, h4⟩
          · rw [if_neg h4] at h; simp at h
      · rw [if_neg h2] at h; simp at h

theorem showV_node {cl : List Cel} {d : Nat} {v : Val} (h0 : v.k = 2) (hr : inR cl.length v = true) : showV cl (d + 1) v = 40 :: (showV cl d (cellAt cl v.n.toNat).l ++ 32 :: (showV cl d (cellAt cl v.n.toNat).r ++ [41])) := by
  rw [showV, if_neg (by omega), if_neg (by omega), if_pos hr]

theorem show_len {cl : List Cel} (okc : ∀ c ∈ cl, okC cl.length c = true ∧ WfC c) : ∀ (d : Nat) (v : Val), okV cl.length v = true → (showV cl d v).length + 3 ≤ 64 * 2 ^ d
  | 0, v, hv => by
    unfold showV
    rcases ok_cases hv with ⟨h0, h1, h2, _⟩ | ⟨h0, h1, _⟩ | ⟨h0, _⟩
    · rw [if_pos h0]; have := Lib.itoa_length_le v.n (by omega) (by omega); omega
    · rw [if_neg (by omega), if_pos h0]
      have : v.t.data.toList.length = v.t.size := by rw [Array.length_toList]; rfl
      omega
    · rw [if_neg (by omega), if_neg (by omega)]; simp
  | d + 1, v, hv => by
    have hp := Nat.one_le_two_pow (n := d)
    unfold showV
    rw [Nat.pow_succ]
    rcases ok_cases hv with ⟨h0, h1, h2, _⟩ | ⟨h0, h1, _⟩ | ⟨h0, h1, h2, _⟩
    · rw [if_pos h0]; have := Lib.itoa_length_le v.n (by omega) (by omega); omega
    · rw [if_neg (by omega), if_pos h0]
      have : v.t.data.toList.length = v.t.size := by rw [Array.length_toList]; rfl
      omega
    · have hr : inR cl.length v = true := inR_iff.2 ⟨h0, h1, h2⟩
      have hi : v.n.toNat < cl.length := by omega
      have hok := (okc _ (cellAt_mem hi)).1
      unfold okC at hok
      simp only [Bool.and_eq_true] at hok
      have e1 := show_len okc d _ hok.1
      have e2 := show_len okc d _ hok.2
      rw [if_neg (by omega), if_neg (by omega), if_pos hr]
      simp only [List.length_cons, List.length_append, List.length_nil]
      omega

theorem puts_all (w0 : World) (cl : List Cel) (hv : Value) (hs : Sl encC 6 w0 hv cl) (ht : Tab w0) (okc : ∀ c ∈ cl, okC cl.length c = true ∧ WfC c) : ∀ d, PutsAll w0 cl hv d := by
    intro d
    induction d with
    | zero =>
      intro v deep acc ov w hd h5 hlo hok hwf hb hI
      obtain ⟨oa, oc, rfl⟩ := hI.shape
      rcases ok_cases hok with ⟨h0, h1, h2, _⟩ | ⟨h0, h1, _⟩ | ⟨h0, _⟩
      · rw [show showV cl 0 v = Lib.itoa v.n by unfold showV; rw [if_pos h0]]
        exact put_int w0 hv acc oa oc w v deep hI ht h0 (by omega) (by omega) (by omega)
      · rw [show showV cl 0 v = v.t.data.toList by unfold showV; rw [if_neg (by omega), if_pos h0]]
        exact put_text w0 hv acc oa oc w v deep hI h0 (by omega)
      · rw [show showV cl 0 v = [46, 46] by unfold showV; rw [if_neg (by omega), if_neg (by omega)]]
        exact put_dots w0 hv acc oa oc w v deep hI h0 (by omega) (by omega)
    | succ d ih =>
      intro v deep acc ov w hd h5 hlo hok hwf hb hI
      obtain ⟨oa, oc, rfl⟩ := hI.shape
      have hp := Nat.one_le_two_pow (n := d)
      have hb' := hb
      rw [Nat.pow_succ] at hb
      rcases ok_cases hok with ⟨h0, h1, h2, _⟩ | ⟨h0, h1, _⟩ | ⟨h0, h1, h2, _⟩
      · rw [show showV cl (d + 1) v = Lib.itoa v.n by unfold showV; rw [if_pos h0]]
        exact put_int w0 hv acc oa oc w v deep hI ht h0 (by omega) (by omega) (by omega)
      · rw [show showV cl (d + 1) v = v.t.data.toList by unfold showV; rw [if_neg (by omega), if_pos h0]]
        exact put_text w0 hv acc oa oc w v deep hI h0 (by omega)
      · have hr : inR cl.length v = true := inR_iff.2 ⟨h0, h1, h2⟩
        obtain ⟨i, hi⟩ := Int.eq_ofNat_of_zero_le h1
        rw [show showV cl (d + 1) v = 40 :: (showV cl d (cellAt cl i).l ++ 32 :: (showV cl d (cellAt cl i).r ++ [41])) by rw [showV_node h0 hr, show v.n.toNat = i by omega]]
        obtain ⟨vk, vn, vt⟩ := v
        simp only at h0 hi h2
        subst h0 hi
        obtain ⟨ha, hc, rfl, _, _⟩ := id hs
        exact put_node w0 cl ha hc d ih hs okc acc oa oc w i vt deep hd h5 (by omega) hb' (fun v hv _ => show_len okc d v hv) hI

def bytesOf (l : List UInt8) : Value := .string ⟨l.toArray⟩

theorem pow_small {deep : Int} (h : deep ≤ 5) : 64 * 2 ^ deep.toNat ≤ 1099511627776 := by
  have h1 : deep.toNat ≤ 5 := by omega
  have h2 : 2 ^ deep.toNat ≤ 2 ^ 5 := Nat.pow_le_pow_right (by omega) h1
  omega
theorem show_start (w : World) (hv : Value) (cs : Array Value) : SI w hv [] (.slice none 0 0) ((((w.alloc (.cells #[hv] 22)).alloc (.cells cs 25)).alloc (.cells #[.slice none 0 0] 56)).alloc (.cells #[.func (.func 33) #[] #[.pointer (some ⟨w.heap.size + 1 + 1, 0, none⟩), .pointer (some ⟨w.heap.size, 0, none⟩), .pointer (some ⟨w.heap.size + 1 + 1 + 1, 0, none⟩)]] 57)) := by
  refine { old := ((((Below.refl _ w).alloc (Nat.le_refl _) _).alloc (by simp) _).alloc (by simp; omega) _).alloc (by simp; omega) _, big := by simp, hbox := ?_, obox := ?_, ofz := ?_, pbox := ?_, row := World.ownsRow_nil _ _ _ _ }
  · rw [World.cell?_alloc_past _ _ _ (by simp; omega), World.cell?_alloc_past _ _ _ (by simp; omega), World.cell?_alloc_past _ _ _ (by simp), World.cell?_alloc_new]; rfl
  · rw [World.cell?_alloc_past _ _ _ (by simp), World.cell?_alloc_at _ _ _ _ (by simp)]; rfl
  · rw [World.frozen?_alloc_past _ _ _ (by simp), World.frozen?_alloc_at _ _ _ _ (by simp)]
  · rw [World.cell?_alloc_at _ _ _ _ (by simp)]; rfl

theorem bytes_back (l : List UInt8) : strOfNums (l.map fun b => (b.toNat : Int)) = ⟨l.toArray⟩ := by
  have : (l.map fun b => (b.toNat : Int)).map (fun n => UInt8.ofNat n.toNat) = l := by
    rw [List.map_map]
    conv => rhs; rw [← List.map_id l]
    refine List.map_congr_left fun b _ => ?_
    simp
  unfold strOfNums
  rw [this]
theorem conv_any {w : World} {base n : Nat} {oa : Option Addr} {oc : Nat} {acc : List UInt8} (hr : w.ownsRow base 5 1 (.slice oa n oc) acc.length (acc.map byteV)) : (convert 56 9 (.slice oa n oc)).run Tryd.prog w = .ok (bytesOf acc) w := by
  rcases hr.2 with ⟨he, h0⟩ | ⟨g, c, cur, he, hb, hg, hnc, hcm, hcs, htk⟩
  · injection he with h1 h2 h3
    subst h1 h2 h3
    have : acc = [] := List.length_eq_zero_iff.1 h0
    subst this
    rw [run_convert_bytes_nil w 56 5 Tryd.underlying56 Tryd.underlying5 _ _ 9 Tryd.underlying9]
    rfl
  · injection he with h1 h2 h3
    subst h1 h2 h3
    rw [run_convert_bytes_arg w 56 5 Tryd.underlying56 Tryd.underlying5 g 0 acc.length oc (acc.map fun b => (b.toNat : Int)) (by simp) (fun i hi => ?_) 9 Tryd.underlying9, bytes_back]
    · rfl
    · rw [Nat.zero_add, hr.cellAt i (by omega)]
      simp [List.getElem?_eq_getElem hi, byteV]

set_option maxHeartbeats 400000 in
theorem show_any (w : World) (cl : List Cel) (hv : Value) (v : Val) (deep : Int) (hs : Sl encC 6 w hv cl) (ht : Tab w) (okc : ∀ c ∈ cl, okC cl.length c = true ∧ WfC c) (hok : okV cl.length v = true) (hwf : WfV v) (hd : deep ≤ 5) (hlo : -9223372036854775808 ≤ deep) :
    Calls Tryd.prog 17 #[hv, vv v, .int .i64 deep] w fun e w' => e = .returned (bytesOf (showV cl deep.toNat v)) ∧ Below w.heap.size w w' := by
  have hall := hide (puts_all w cl hv hs ht okc deep.toNat)
  obtain ⟨ha, hc, rfl, _, q⟩ := id hs
  clear q
  have HX := hide (And.intro hs (And.intro ht (And.intro okc (And.intro hok hwf))))
  clear hs ht okc hok hwf
  go_enter Tryd.func17, Tryd.ntmps17
  go_wp2_with fail
  refine (hall.out v deep [] (.slice none 0 0) _ rfl hd hlo HX.out.2.2.2.1 HX.out.2.2.2.2 ?_ (show_start _ _ _)).mono ?_
  · simp; exact pow_small hd
  rintro e w1 ⟨rfl, ov, hI, hF⟩
  rw [List.nil_append] at hI
  obtain ⟨oa, oc, rfl⟩ := hI.shape
  have ob := hI.obox
  have hcv := conv_any hI.row
  have HI := hide hI
  clear hI hF
  go_wp2
  go_ret
  exact ⟨rfl, HI.out.old⟩
end Go.Proofs.YtcemfgknnpjlhaaDoor
