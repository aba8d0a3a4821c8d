/- gap: Put, Has, Len, Take of a heap that stands for numbers. -/
import Derived.Test.YtlgbendncgboiaaGap19
import Derived.Test.YtlgbendncgboiaaGap20
import Derived.Test.YtlgbendncgboiaaGapRunMath2
namespace Go.Proofs.Ytlgbendncgboiaa.Gp
open Go Go.RowKit Gm

set_option maxRecDepth 20000 in
theorem put_has (H : Nat) (v : Value) (l : List (Int × Int)) (n : Int) (W : World) (h : HpIs W H v l) (hn : n ≠ 18446744073709551615) (hi : decide (0 ≤ seek (p_in n) l 0) = true) : Calls Try.prog 8 #[.pointer (some ⟨H, 0, none⟩), .int .u64 n] W fun e w' => e = .returned (.int .i64 7) ∧ Below W.heap.size W w' := by
  have hb := heap_alloc_new W (.cells #[.int .u64 n] 30)
  have b1 := (Below.refl W.heap.size W).alloc (Nat.le_refl _) (.cells #[.int .u64 n] 30)
  obtain ⟨w0, hw0⟩ : ∃ X, X = W.alloc (.cells #[.int .u64 n] 30) := ⟨_, rfl⟩
  rw [← hw0] at hb b1
  have c0 := cell_of_row w0 W.heap.size 0 _ _ (0, 0) hb
  have HHas := Lib.hid (has_any H v l n w0 (h.below b1))
  rw [hi] at HHas
  have HB := Lib.hid b1
  clear h hi b1 hb
  go_enter Try.func8, Try.ntmps8
  go_upto_region 1 with fail
  rw [← hw0]
  clear hw0
  go_wp2_with fail
  refine HHas.out.mono ?_
  rintro _ w1 ⟨rfl, b2⟩
  have HB2 := Lib.hid b2
  clear b2
  go_wp2
  go_ret
  exact ⟨rfl, HB.out.trans (HB2.out.mono HB.out.size)⟩
theorem sum2_take (l : List (Int × Int)) (k : Nat) (h : k < l.length) : sum2 (l.take (k + 1)) = sum2 (l.take k) + l[k].2 := by
  unfold sum2
  rw [List.take_succ_eq_append_getElem h, List.map_append, List.sum_append]
  simp
theorem sum2_bd (l : List (Int × Int)) (hok : ∀ x ∈ l, 0 ≤ x.2) : ∀ k, 0 ≤ sum2 (l.take k) ∧ sum2 (l.take k) ≤ sum2 l := by
  have nn : ∀ (l : List (Int × Int)), (∀ x ∈ l, 0 ≤ x.2) → 0 ≤ sum2 l := by
    intro l
    induction l with
    | nil => intro _; exact Int.le_refl _
    | cons x l ih =>
      intro h
      have a := ih (fun y hy => h y (by simp [hy]))
      have b := h x (by simp)
      unfold sum2 at *
      simp
      omega
  intro k
  refine ⟨nn _ fun x hx => hok x (List.mem_of_mem_take hx), ?_⟩
  have h1 := nn (l.drop k) fun x hx => hok x (List.mem_of_mem_drop hx)
  have h2 : sum2 l = sum2 (l.take k) + sum2 (l.drop k) := by
    conv => lhs; rw [← List.take_append_drop k l]
    unfold sum2
    rw [List.map_append, List.sum_append]
  omega
set_option maxRecDepth 20000 in
theorem glen_row (H g cap : Nat) (l : List (Int × Int)) (W : World) (hb : W.heap[H]? = some (.cells #[.slice (some ⟨g, 0, none⟩) l.length cap] THp (0, 0))) (hr : RowIs W g l) (hl : l.length ≤ 100000) (hok : ∀ x ∈ l, 0 ≤ x.2) (hs : sum2 l ≤ 100000) : Calls Try.prog 16 #[.pointer (some ⟨H, 0, none⟩)] W fun e w' => e = .returned (.int .u64 (sum2 l)) ∧ Below W.heap.size W w' := by
  have c0 := cell_of_row W H 0 _ _ (0, 0) hb
  have HR := Lib.hid hr
  have HK := Lib.hid hok
  clear hr hok hb
  go_enter Try.func16, Try.ntmps16
  go_wp2
  go_loopw [3, 13] (fun s i wr => ∃ k : Nat, i = .int .i64 (k : Int) ∧ s = .int .u64 (sum2 (l.take k)) ∧ k ≤ l.length ∧ Hid (Below W.heap.size W wr)) (fun _ i _ => l.length - (intOf i).toNat)
  case atStart => exact ⟨0, rfl, rfl, Nat.zero_le _, Lib.hid (Below.refl _ _)⟩
  case round =>
    obtain ⟨k, rfl, rfl, hk, HB⟩ := hrel
    by_cases hlt : k < l.length
    · obtain ⟨x, hx⟩ : ∃ x, l[k]? = some x := ⟨_, List.getElem?_eq_getElem hlt⟩
      have hc := (HR.out.below HB.out).2 k x hx
      have hg : l[k] = x := by have := hx; rw [List.getElem?_eq_getElem hlt] at this; exact Option.some.inj this
      have hsn := sum2_take l k hlt
      rw [hg] at hsn
      have b1 := sum2_bd l HK.out k
      have b2 := sum2_bd l HK.out (k + 1)
      have b3 : 0 ≤ x.2 := by rw [← hg]; exact HK.out _ (List.getElem_mem hlt)
      rw [hsn] at b2
      have d0 : wr.cell? ⟨g, k * 2, none⟩ = some (.int .u64 x.1) := by have := hc.1; rwa [Nat.zero_add] at this
      have d1 : wr.cell? ⟨g, k * 2 + 1, none⟩ = some (.int .u64 x.2) := by have := hc.2; rwa [Nat.zero_add] at this
      have HSn := Lib.hid hsn
      obtain ⟨s, hse⟩ : ∃ s, s = sum2 (l.take k) := ⟨_, rfl⟩
      obtain ⟨t, hte⟩ : ∃ t, t = sum2 l := ⟨_, rfl⟩
      have HSe := Lib.hid hse
      rw [← hse, ← hte] at b1 b2
      rw [← hte] at hs
      rw [← hse]
      have hw : IntKind.u64.wrap (s + x.2) = s + x.2 := IntWalk.u64_in _ (by omega)
      clear hc hx hg hsn hse
      go_wp2
      exact ⟨⟨k + 1, by go_num, by rw [HSn.out, ← HSe.out], by omega, Lib.hid (HB.out.alloc HB.out.size _)⟩, by simp [intOf]; omega⟩
    · have e : l.take k = l := List.take_of_length_le (by omega)
      rw [e]
      go_wp2
      go_ret
      exact ⟨rfl, HB.out⟩
set_option maxRecDepth 20000 in
theorem len_nil' (H : Nat) (W : World) (h : W.heap[H]? = some (.cells #[.slice none 0 0] THp (0, 0))) : Calls Try.prog 16 #[.pointer (some ⟨H, 0, none⟩)] W fun e w' => e = .returned (.int .u64 0) ∧ w' = W := by
  have c0 := cell_of_row W H 0 _ _ (0, 0) h
  clear h
  go_enter Try.func16, Try.ntmps16
  go_wp2
  refine wp_loop_rounds 1 ?_
  rw [rounds_succ]
  go_wp2
  go_ret
  exact ⟨rfl, rfl⟩
theorem glen_any (H : Nat) (v : Value) (l : List (Int × Int)) (W : World) (h : HpIs W H v l) (hl : l.length ≤ 100000) (hok : ∀ x ∈ l, 0 ≤ x.2) (hs : sum2 l ≤ 100000) : Calls Try.prog 16 #[.pointer (some ⟨H, 0, none⟩)] W fun e w' => e = .returned (.int .u64 (sum2 l)) ∧ Below W.heap.size W w' := by
  rcases h.row with ⟨rfl, rfl⟩ | ⟨g, cap, rfl, -, hr⟩
  · refine (len_nil' H W h.box).mono ?_
    rintro e w' ⟨rfl, rfl⟩
    exact ⟨rfl, Below.refl _ _⟩
  · exact glen_row H g cap l W h.box hr hl hok hs
end Go.Proofs.Ytlgbendncgboiaa.Gp
