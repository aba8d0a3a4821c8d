/- 'TokenHangs' holds for every input, with no condition: what hangs on a token that is called off is called off, what it hangs on isn't. -/
import Derived.Test.YtoojifhaaglljaaToken
import Derived.OpenShut
namespace Go.Proofs.Ytoojifhaaglljaa.tokenHangs
open Go.RowKit Token

theorem first_zeros (n : Nat) : first (List.replicate n 0) = 0 := by
  induction n with
  | zero => rfl
  | succ n ih => rw [List.replicate_succ, first_zero, ih]
theorem first_behind (n : Nat) (c : Int) (m : Nat) : first (List.replicate n 0 ++ c :: List.replicate m 0) = c := by
  induction n with
  | zero =>
    by_cases h : c = 0
    · subst h; exact first_zeros (m + 1)
    · exact first_hit _ h
  | succ n ih => rw [List.replicate_succ, List.cons_append, first_zero, ih]

def ptr (x : Nat) : Value := .pointer (some ⟨x, 0, none⟩)

theorem call_first {w : World} {B g : Nat} {cs : List Int} (code : Int) (h : Tok w B (some ⟨g, 0, none⟩) (0 :: cs)) :
    Calls Try.prog 33 #[.pointer (some ⟨g, 0, none⟩), .int .i64 code] w fun e w' => e = .returned (.bool (code != 0)) ∧
      Tok w' B (some ⟨g, 0, none⟩) (code :: cs) ∧ Below g w w' ∧ w'.heap.size = w.heap.size ∧ ∀ k, k ≠ g → w'.heap[k]? = w.heap[k]? := by
  by_cases hc : code = 0
  · subst hc
    exact (call_no 0 h (.inr rfl)).mono fun e w' ⟨he, hw⟩ => by subst hw; exact ⟨he, h, Below.refl _ _, rfl, fun _ _ => rfl⟩
  · have h1 : (code != 0) = true := by simpa using hc
    rw [h1]
    exact call_yes code h hc

theorem call_again {w : World} {B g : Nat} {code : Int} {cs : List Int} (h : Tok w B (some ⟨g, 0, none⟩) (code :: cs)) :
    Calls Try.prog 33 #[.pointer (some ⟨g, 0, none⟩), .int .i64 22] w fun e w' => e = .returned (.bool (code == 0)) ∧ Below g w w' := by
  by_cases hc : code = 0
  · subst hc
    exact (call_yes 22 h (by decide)).mono fun e w' ⟨he, _, hb, _⟩ => ⟨he, hb⟩
  · have h1 : (code == 0) = false := by simpa using hc
    rw [h1]
    exact (call_no 22 h (.inl hc)).mono fun e w' ⟨he, hw⟩ => ⟨he, hw ▸ Below.refl _ _⟩

theorem off_zero {w : World} {B : Nat} {p : Option Addr} {n : Nat} (h : Tok w B p (List.replicate n 0)) :
    Calls Try.prog 34 #[.pointer p] w fun e w' => e = .returned (.bool false) ∧ w' = w := by
  have := off_any h
  rw [first_zeros] at this
  exact this
theorem reason_zero {w : World} {B : Nat} {p : Option Addr} {n : Nat} (h : Tok w B p (List.replicate n 0)) :
    Calls Try.prog 35 #[.pointer p] w fun e w' => e = .returned (.int .i64 0) ∧ w' = w := by
  have := reason_any h
  rw [first_zeros] at this
  exact this
theorem off_at {w : World} {B : Nat} {p : Option Addr} {n m : Nat} {c : Int} (h : Tok w B p (List.replicate n 0 ++ c :: List.replicate m 0)) :
    Calls Try.prog 34 #[.pointer p] w fun e w' => e = .returned (.bool (c != 0)) ∧ w' = w := by
  have := off_any h
  rw [first_behind] at this
  exact this
theorem reason_at {w : World} {B : Nat} {p : Option Addr} {n m : Nat} {c : Int} (h : Tok w B p (List.replicate n 0 ++ c :: List.replicate m 0)) :
    Calls Try.prog 35 #[.pointer p] w fun e w' => e = .returned (.int .i64 c) ∧ w' = w := by
  have := reason_any h
  rw [first_behind] at this
  exact this
theorem depth_at {w : World} {B : Nat} {p : Option Addr} {n m : Nat} {c : Int} (h : Tok w B p (List.replicate n 0 ++ c :: List.replicate m 0)) (hl : n + m ≤ 9223372036854775807) :
    Calls Try.prog 36 #[.pointer p] w fun e w' => e = .returned (.int .i64 ((m : Int) + (n : Int))) ∧ w' = w := by
  cases n with
  | zero =>
    have := depth_any (c := c) (cs := List.replicate m 0) h (by simp; omega)
    rw [List.length_replicate] at this
    simpa using this
  | succ n =>
    have := depth_any (c := 0) (cs := List.replicate n 0 ++ c :: List.replicate m 0) h (by simp; omega)
    have e : ((List.replicate n (0 : Int) ++ c :: List.replicate m 0).length : Int) = (m : Int) + ((n + 1 : Nat) : Int) := by simp; omega
    rw [e] at this
    exact this

theorem info52 : (Try.prog.info? 52).map (fun i => (i.zero, i.size, i.bytes)) = some (some (.pointer none), 1, 8) := by kernel_rfl

set_option maxHeartbeats 2000000 in
theorem walk0 (a b : Nat) (ha : a ≤ 255) (hb : b ≤ 255) (code : Int) (w : World) :
    Calls Try.prog 9 #[.int .u8 (a : Int), .int .u8 (b : Int), .int .i64 code] w fun e w' => e = .returned (.bool true) ∧ Below w.heap.size w w' := by
  obtain ⟨i0, hi, hz0, hz1, hz2⟩ := info_parts info52
  go_enter Try.func9, Try.ntmps9
  go_wp2_with fail
  refine (new_tok _).mono ?_
  rintro e w1 ⟨rfl, t1, b1, s1⟩
  have H1 := Lib.hid (And.intro t1 (And.intro b1 s1)); clear t1 b1 s1
  go_wp2_with fail
  go_loopw [7, 8, 9] (fun t v i wr => ∃ (k g : Nat) (A : List Nat), t = .pointer (some ⟨g, 0, none⟩) ∧ i = .int .i64 (k : Int) ∧ k ≤ a ∧ Tok wr (g + 1) (some ⟨g, 0, none⟩) (List.replicate (k + 1) 0) ∧
      wr.ownsRow w.heap.size 52 1 v k (A.map ptr) ∧ Hid (∀ x ∈ A, ∃ n, Tok wr g (some ⟨x, 0, none⟩) (List.replicate n 0)) ∧ Below w.heap.size w wr ∧ g < wr.heap.size ∧ w.heap.size ≤ g)
    (fun _ _ i _ => a - (intOf i).toNat)
  case atStart =>
    have h := H1.out
    exact ⟨0, w.heap.size, [], rfl, rfl, Nat.zero_le _, h.1, World.ownsRow_nil _ _ _ _, Lib.hid (by simp), h.2.1, by omega, Nat.le_refl _⟩
  case round =>
    obtain ⟨k, g, A, rfl, rfl, hk, ht, hown, hA, hbel, hg, hg0⟩ := hrel
    obtain ⟨P, c, rfl⟩ := own_form hown
    have hsz := hbel.size
    by_cases hlt : k < a
    · go_wp2_with (first
        | (at_builtin; refine wpList_append_own _ rfl _ _ 54 rfl w.heap.size 52 i0 (.pointer none) 1 8 Try.underlying54 hi hz0 hz1 hz2 rfl (by decide) _ _ _ rfl (hown.alloc _) ⟨wr.heap.size, 0, none⟩ 1 1 [ptr g] rfl rfl (cell_one_new _ _ _) (one_one rfl) (by unfold maxLen; omega) (by omega) (by simp; omega) ?_; intro v1 w2 hown1 hg1 _; have ht1 := (ht.alloc _).grown hg1 (hown.alloc _) (by decide); have hz : wr.heap.size + 1 ≤ w2.heap.size := by have := hg1.size; simpa using this)
        | (go_at_call 32; refine (child_tok (ht1.mono (by omega))).mono ?_; rintro e w3 ⟨rfl, t3, b3, s3, _⟩))
      refine ⟨⟨k + 1, w2.heap.size, A ++ [g], rfl, by go_num, by omega, t3, ?_, Lib.hid fun x hx => ?_, ?_, by omega, by omega⟩, by simp [intOf]; omega⟩
      · rw [List.map_append]
        exact own_below hown1 b3
      · rcases List.mem_append.1 hx with hx | hx
        · obtain ⟨n, hn⟩ := hA.out x hx
          exact ⟨n, (((hn.alloc _).grown hg1 (hown.alloc _) (by decide)).mono (by omega)).below b3⟩
        · rw [List.mem_singleton.1 hx]
          exact ⟨k + 1, (ht1.mono (by omega)).below b3⟩
      · exact (below_push hbel hsz hown hg1).trans (b3.mono (by omega))
    · obtain rfl : k = a := by omega
      have HT := Lib.hid ht
      clear ht
      go_wp2_with fail
      refine (call_first code HT.out).mono ?_
      rintro e w2 ⟨rfl, t2, b2, s2, o2⟩
      have hown2 : w2.ownsRow w.heap.size 52 1 (.slice P k c) k (A.map ptr) := by
        refine ⟨hown.1, ?_⟩
        rcases hown.2 with h2 | ⟨u, cap, cur, hv, hu, hh, r⟩
        · exact Or.inl h2
        · refine Or.inr ⟨u, cap, cur, hv, hu, (o2 u fun e => ?_).trans hh, r⟩
          subst e
          obtain ⟨g', q, hq, _, hb', _⟩ := HT.out
          injection hq with hq
          injection hq with hq
          subst hq
          rw [hh] at hb'
          injection hb' with hb'
          injection hb' with _ ht
          exact absurd ht (by decide)
      have hA2 : Hid (∀ x ∈ A, ∃ n, Tok w2 g (some ⟨x, 0, none⟩) (List.replicate n 0)) := Lib.hid fun x hx => by
        obtain ⟨n, hn⟩ := hA.out x hx
        exact ⟨n, hn.below b2⟩
      have hbel2 : Below w.heap.size w w2 := hbel.trans (b2.mono hg0)
      have hg2 : g < w2.heap.size := by omega
      clear hown hA hbel hg hsz b2 s2 o2 HT H1
      have T2 := Lib.hid t2; clear t2
      have hsz2 := hbel2.size
      go_wp2_with fail
      go_loopw [11, 12] (fun d i wr => ∃ (j h : Nat), d = .pointer (some ⟨h, 0, none⟩) ∧ i = .int .i64 (j : Int) ∧ j ≤ b ∧ Hid (Tok wr (h + 1) (some ⟨h, 0, none⟩) (List.replicate j 0 ++ code :: List.replicate k 0)) ∧
          Hid (Tok wr (g + 1) (some ⟨g, 0, none⟩) (code :: List.replicate k 0)) ∧ wr.ownsRow w.heap.size 52 1 (.slice P k c) k (A.map ptr) ∧
          Hid (∀ x ∈ A, ∃ n, Tok wr g (some ⟨x, 0, none⟩) (List.replicate n 0)) ∧ Below w.heap.size w wr ∧ h < wr.heap.size ∧ g < wr.heap.size)
        (fun _ i _ => b - (intOf i).toNat)
      case atStart => exact ⟨0, g, rfl, rfl, Nat.zero_le _, T2, T2, hown2, hA2, hbel2, hg2, hg2⟩
      case round =>
        clear hown2 hA2 hbel2 hg2 hsz2 T2
        obtain ⟨j, h, rfl, rfl, hj, hd, ht, hown, hA, hbel, hh, hg⟩ := hrel
        have hsz := hbel.size
        by_cases hlt : j < b
        · go_wp2_with (go_at_call 32; refine (child_tok (hd.out.mono (by omega))).mono ?_; rintro e w3 ⟨rfl, t3, b3, s3, _⟩)
          refine ⟨⟨j + 1, wr.heap.size, rfl, by go_num, by omega, Lib.hid t3, Lib.hid (ht.out.under (by omega) b3), own_below hown b3, Lib.hid fun x hx => ?_, hbel.trans (b3.mono hsz), by omega, by omega⟩, by simp [intOf]; omega⟩
          obtain ⟨n, hn⟩ := hA.out x hx
          exact ⟨n, hn.under (by omega) b3⟩
        · obtain rfl : j = b := by omega
          have hd' := hd.out
          have ht' := ht.out
          have hk0 : (0 : Int) ≤ (k : Int) := by omega
          go_wp2_with fail
          go_loop [13] (fun i => ∃ m : Nat, m ≤ k ∧ i = .int .i64 (m : Int)) (fun i => k - (intOf i).toNat)
          case atStart => exact ⟨0, Nat.zero_le _, rfl⟩
          case round =>
            obtain ⟨m, hm, rfl⟩ := hrel
            by_cases hlt2 : m < k
            · obtain ⟨u, rfl, _⟩ := own_at hown (by omega)
              have hl : m < A.length := by have := hown.1; simp at this; omega
              have hcell := hown.cellAt m (by omega)
              rw [List.getElem?_map, List.getElem?_eq_getElem hl] at hcell
              have hc1 : wr.cell? ⟨u, m, none⟩ = some (.pointer (some ⟨A[m], 0, none⟩)) := hcell
              obtain ⟨n, hn⟩ := hA.out A[m] (List.getElem_mem hl)
              clear hcell
              have hi0 : (0 : Int) ≤ (m : Int) := by omega
              have hi1 : (m : Int) < (k : Int) := by omega
              go_wp2_with (first
                | (go_at_call 34; ((with_reducible refine (off_zero hn).mono ?_); rintro e w' ⟨rfl, rfl⟩))
                | (go_at_call 35; ((with_reducible refine (reason_zero hn).mono ?_); rintro e w' ⟨rfl, rfl⟩)))
              exact ⟨⟨m + 1, by omega, by go_num⟩, by simp [intOf]; omega⟩
            · obtain rfl : m = k := by omega
              have nt : Tok wr wr.heap.size none (List.replicate 0 0) := rfl
              go_wp2_with fail
              refine (off_zero nt).mono ?_
              rintro e w' ⟨rfl, rfl⟩
              go_wp2_with fail
              refine (reason_zero nt).mono ?_
              rintro e w' ⟨rfl, rfl⟩
              go_wp2_with fail
              refine (depth_none _).mono ?_
              rintro e w' ⟨rfl, rfl⟩
              go_wp2_with fail
              refine (call_none code _).mono ?_
              rintro e w' ⟨rfl, rfl⟩
              go_wp2_with fail
              refine (child_tok nt).mono ?_
              rintro e w3 ⟨rfl, t3, b3, s3, _⟩
              have hd3 := hd'.under (by omega) b3
              have ht3 := ht'.under (by omega) b3
              have hb3 := hbel.trans (b3.mono hsz)
              have hh3 : h < w3.heap.size ∧ g < w3.heap.size := by omega
              clear hd' ht' hd ht hown hA hbel hh hg hsz b3 s3 nt
              go_wp2_with fail
              refine (off_zero (n := 1) t3).mono ?_
              rintro e w4 ⟨rfl, rfl⟩
              clear t3
              have hs4 := hb3.size
              go_wp2_with fail
              refine (child_tok (p := none) (cs := []) rfl).mono ?_
              rintro e w5 ⟨rfl, t5, b5, s5, _⟩
              have hd5 := hd3.under (by omega) b5
              have ht5 := ht3.under (by omega) b5
              have hb5 := hb3.trans (b5.mono hs4)
              have hh5 : h < w5.heap.size ∧ g < w5.heap.size := by omega
              clear hd3 ht3 hb3 hh3 hs4 b5 s5
              go_wp2_with fail
              refine (depth_any t5 (by simp)).mono ?_
              rintro e w6 ⟨rfl, rfl⟩
              clear t5
              have hs6 := hb5.size
              go_wp2_with fail
              refine (awake_any _).mono ?_
              rintro e w7 ⟨rfl, b7⟩
              have hd7 := hd5.under (by omega) b7
              have ht7 := ht5.under (by omega) b7
              have hb7 := hb5.trans (b7.mono hs6)
              clear hd5 ht5 hb5 hh5 hs6 b7
              have hsum : (m : Int) + (j : Int) ≤ 510 := by omega
              go_wp2_with (first
                | (go_at_call 34; ((with_reducible refine (off_at hd7).mono ?_); rintro e w' ⟨rfl, rfl⟩))
                | (go_at_call 35; ((with_reducible refine (reason_at hd7).mono ?_); rintro e w' ⟨rfl, rfl⟩))
                | (go_at_call 36; ((with_reducible refine (depth_at hd7 (by omega)).mono ?_); rintro e w' ⟨rfl, rfl⟩))
                | (go_at_call 33; ((with_reducible refine (call_no 0 ht7 (.inr rfl)).mono ?_); rintro e w' ⟨rfl, rfl⟩))
                | (go_at_call 33; ((with_reducible refine (call_again ht7).mono ?_); rintro e w' ⟨rfl, b9⟩)))
              go_ret
              have e : (!((code == 0) == (code != 0))) = true := by unfold bne; cases (code == 0) <;> rfl
              exact ⟨congrArg (fun b => Ending.returned (.bool b)) e, hb7.trans (b9.mono hg0)⟩

theorem walk (a : Int) (wa : (Lit.int .u8 a).wf = true) (b : Int) (wb : (Lit.int .u8 b).wf = true) (code : Int) (_wc : (Lit.int .i64 code).wf = true) (w : World) :
    Calls Try.prog 9 #[.int .u8 a, .int .u8 b, .int .i64 code] w fun e w' => e = .returned (.bool true) ∧ Below w.heap.size w w' := by
  have ha := bounds_u8 wa
  have hb := bounds_u8 wb
  obtain ⟨n, rfl⟩ := Int.eq_ofNat_of_zero_le ha.1
  obtain ⟨m, rfl⟩ := Int.eq_ofNat_of_zero_le hb.1
  exact walk0 n m (by omega) (by omega) code w
end Go.Proofs.Ytoojifhaaglljaa.tokenHangs
