/- Tokens: a chain of blocks in memory, and what each call makes of it. -/
import Derived.Test.YticcobciafbleaaCommon
import Derived.Deep.LoopGhost
namespace Go.Proofs.Yticcobciafbleaa.Token
open Go.RowKit

/-- At p hangs a chain of tokens whose own codes are these, the nearest first; each lies in a block below that of what hangs on it, the first below B. -/
def Tok (w : World) : Nat → Option Addr → List Int → Prop
  | _, p, [] => p = none
  | B, p, c :: cs => ∃ g q, p = some ⟨g, 0, none⟩ ∧ g < B ∧ w.heap[g]? = some (.cells #[.pointer q, .int .i64 c] 145 (0, 0)) ∧ Tok w g q cs

def first (l : List Int) : Int := (l.find? (· != 0)).getD 0
theorem first_zero (l : List Int) : first (0 :: l) = first l := by simp [first]
theorem first_hit {c : Int} (l : List Int) (h : c ≠ 0) : first (c :: l) = c := by simp [first, h]

section
variable {w w' : World} {B B' : Nat} {p : Option Addr} {cs : List Int}
theorem Tok.keep (h : Tok w B p cs) (hk : ∀ g x, g < B → w.heap[g]? = some (.cells x 145 (0, 0)) → w'.heap[g]? = some (.cells x 145 (0, 0))) : Tok w' B p cs := by
  induction cs generalizing B p with
  | nil => exact h
  | cons c cs ih =>
    obtain ⟨g, q, rfl, hg, hb, ht⟩ := h
    exact ⟨g, q, rfl, hg, hk _ _ hg hb, ih ht fun g' x hg' hx => hk g' x (by omega) hx⟩
theorem Tok.mono (h : Tok w B p cs) (hB : B ≤ B') : Tok w B' p cs := by
  cases cs with
  | nil => exact h
  | cons c cs => obtain ⟨g, q, rfl, hg, hb, ht⟩ := h; exact ⟨g, q, rfl, by omega, hb, ht⟩
theorem Tok.alloc (h : Tok w B p cs) (o : Obj) : Tok (w.alloc o) B p cs :=
  h.keep fun g x _ hx => by
    have hlt : g < w.heap.size := by
      rcases Nat.lt_or_ge g w.heap.size with h1 | h1
      · exact h1
      · rw [Array.getElem?_eq_none h1] at hx; cases hx
    rw [Below.heap_alloc w o g hlt]; exact hx
theorem Tok.below (h : Tok w B p cs) (hb : Below B w w') : Tok w' B p cs := h.keep fun g _ hg hx => (hb.block g hg).trans hx
theorem Tok.under (h : Tok w B p cs) (hB : B ≤ B') (hb : Below B' w w') : Tok w' B p cs := h.keep fun g _ hg hx => (hb.block g (by omega)).trans hx
theorem Tok.grown {e : TypeId} {base n : Nat} {v : Value} {xs : List Value} (h : Tok w B p cs) (hg : w.grownBy w' v.ownBlock) (hown : w.ownsRow base e 1 v n xs) (he : e ≠ 145) : Tok w' B p cs :=
  h.keep fun g x _ hx => by
    have hlt : g < w.heap.size := by
      rcases Nat.lt_or_ge g w.heap.size with h1 | h1
      · exact h1
      · rw [Array.getElem?_eq_none h1] at hx; cases hx
    refine (hg.block g hlt fun heq => ?_).trans hx
    rcases hown.2 with ⟨rfl, _⟩ | ⟨g', cap, cur, rfl, _, hh, _⟩
    · simp [Value.ownBlock] at heq
    · simp [Value.ownBlock] at heq
      subst heq
      rw [hx] at hh
      injection hh with hh
      injection hh with _ ht
      exact he ht.symm
end

theorem cell_blk {w : World} {g : Nat} {cs : Array Value} {t : TypeId} (h : w.heap[g]? = some (.cells cs t (0, 0))) (i : Nat) : w.cell? ⟨g, i, none⟩ = cs[i]? := cell_of_row w g i cs t (0, 0) h
theorem free_blk {w : World} {g : Nat} {cs : Array Value} {t : TypeId} (h : w.heap[g]? = some (.cells cs t (0, 0))) (i : Nat) : w.frozen? ⟨g, i, none⟩ = false := by simp [World.frozen?, h]

set_option maxHeartbeats 400000 in
theorem reason_any {w : World} {B : Nat} {p : Option Addr} {cs : List Int} (h : Tok w B p cs) :
    Calls Try.prog 27 #[.pointer p] w fun e w' => e = .returned (.int .i64 (first cs)) ∧ w' = w := by
  go_enter Try.func27, Try.ntmps27
  go_wp2
  go_step3
  go_wp2
  go_step3
  go_wp2
  go_loopg [3, 4] cs.length (fun k z x wr => z = .int .i64 0 ∧ wr = w ∧ ∃ (B' : Nat) (q : Option Addr) (l : List Int), x = .pointer q ∧ Hid (l.length = k) ∧ Tok w B' q l ∧ Hid (first cs = first l))
  case atStart => exact ⟨rfl, rfl, B, p, cs, rfl, Lib.hid rfl, h, Lib.hid rfl⟩
  case round =>
    obtain ⟨rfl, rfl, B', q, l, rfl, hl, ht, hf⟩ := hrel
    cases l with
    | nil =>
      obtain rfl : q = none := ht
      go_wp2
      rw [Exit.noGoto_ret]
      go_ret
      exact ⟨by rw [hf.out]; rfl, rfl⟩
    | cons c l =>
      obtain ⟨g, q', rfl, hg, hb, ht'⟩ := ht
      have c0 := cell_blk hb 0
      have c1 := cell_blk hb 1
      simp at c0 c1
      clear hb
      by_cases hc : c = 0
      · subst hc
        go_wp2
        go_roundg l.length
        case measure => have := hl.out; simp at this; omega
        case rel => exact ⟨rfl, rfl, g, q', l, rfl, Lib.hid rfl, ht', Lib.hid (hf.out.trans (first_zero l))⟩
      · have hc' : (c == 0) = false := by simpa using hc
        go_wp2
        rw [Exit.noGoto_ret]
        go_ret
        exact ⟨by rw [hf.out, first_hit l hc]; rfl, rfl⟩

set_option maxHeartbeats 400000 in
theorem off_any {w : World} {B : Nat} {p : Option Addr} {cs : List Int} (h : Tok w B p cs) :
    Calls Try.prog 28 #[.pointer p] w fun e w' => e = .returned (.bool (first cs != 0)) ∧ w' = w := by
  go_enter Try.func28, Try.ntmps28
  go_wp2_with (go_at_call 27; ((with_reducible refine (reason_any h).mono ?_); rintro e w' ⟨rfl, rfl⟩))
  go_ret
  exact ⟨rfl, rfl⟩

theorem depth_none (w : World) :
    Calls Try.prog 29 #[.pointer none] w fun e w' => e = .returned (.int .i64 0) ∧ w' = w := by
  go_enter Try.func29, Try.ntmps29
  go_wp2
  go_ret
  exact ⟨rfl, rfl⟩

set_option maxHeartbeats 400000 in
theorem depth_any {w : World} {B : Nat} {p : Option Addr} {c : Int} {cs : List Int} (h : Tok w B p (c :: cs)) (hlen : cs.length ≤ 9223372036854775807) :
    Calls Try.prog 29 #[.pointer p] w fun e w' => e = .returned (.int .i64 (cs.length : Int)) ∧ w' = w := by
  obtain ⟨g, q, rfl, hg, hb, ht⟩ := h
  have c0 := cell_blk hb 0
  simp at c0
  clear hb
  go_enter Try.func29, Try.ntmps29
  go_wp2
  go_loopg [3, 4] cs.length (fun k z x wr => wr = w ∧ ∃ (B' : Nat) (q : Option Addr) (l : List Int) (n : Nat), z = .int .i64 (n : Int) ∧ x = .pointer q ∧ Hid (l.length = k ∧ n + l.length = cs.length) ∧ Tok w B' q l)
  case atStart => exact ⟨rfl, g, q, cs, 0, rfl, rfl, Lib.hid ⟨rfl, by simp⟩, ht⟩
  case round =>
    obtain ⟨rfl, B', q, l, n, rfl, rfl, hl, ht'⟩ := hrel
    cases l with
    | nil =>
      obtain rfl : q = none := ht'
      go_wp2
      go_ret
      have := hl.out.2
      simp at this
      exact ⟨by rw [← this]; rfl, rfl⟩
    | cons c' l =>
      obtain ⟨g', q', rfl, hg', hb', ht'⟩ := ht'
      have c0' := cell_blk hb' 0
      simp at c0'
      clear hb'
      have hn : (n : Int) + 1 ≤ 9223372036854775807 := by have := hl.out.2; simp at this; omega
      go_wp2
      go_roundg l.length
      case measure => have := hl.out.1; simp at this; omega
      case rel => exact ⟨rfl, g', q', l, n + 1, by go_num, rfl, Lib.hid ⟨rfl, by have := hl.out.2; simp at this; omega⟩, ht'⟩

theorem new_tok (w : World) : Calls Try.prog 23 #[] w fun e w' => e = .returned (.pointer (some ⟨w.heap.size, 0, none⟩)) ∧
    Tok w' (w.heap.size + 1) (some ⟨w.heap.size, 0, none⟩) [0] ∧ Below w.heap.size w w' ∧ w'.heap.size = w.heap.size + 1 := by
  go_enter Try.func23, Try.ntmps23
  go_wp2
  go_ret
  exact ⟨rfl, ⟨_, none, rfl, by omega, heap_alloc_new w _, rfl⟩, (Below.refl _ _).alloc (Nat.le_refl _) _, by simp⟩

theorem child_tok {w : World} {p : Option Addr} {cs : List Int} (h : Tok w w.heap.size p cs) : Calls Try.prog 24 #[.pointer p] w fun e w' => e = .returned (.pointer (some ⟨w.heap.size, 0, none⟩)) ∧
    Tok w' (w.heap.size + 1) (some ⟨w.heap.size, 0, none⟩) (0 :: cs) ∧ Below w.heap.size w w' ∧ w'.heap.size = w.heap.size + 1 ∧ w'.heap[w.heap.size]? = some (.cells #[.pointer p, .int .i64 0] 145 (0, 0)) := by
  have h' := h.alloc (.cells #[.pointer p, .int .i64 0] 145)
  go_enter Try.func24, Try.ntmps24
  go_wp2
  go_ret
  exact ⟨rfl, ⟨_, p, rfl, by omega, heap_alloc_new w _, h'⟩, (Below.refl _ _).alloc (Nat.le_refl _) _, by simp, heap_alloc_new w _⟩

theorem call_none (code : Int) (w : World) : Calls Try.prog 25 #[.pointer none, .int .i64 code] w fun e w' => e = .returned (.bool false) ∧ w' = w := by
  go_enter Try.func25, Try.ntmps25
  go_wp2
  go_ret
  exact ⟨rfl, rfl⟩

theorem call_no {w : World} {B : Nat} {p : Option Addr} {c : Int} {cs : List Int} (code : Int) (h : Tok w B p (c :: cs)) (hc : c ≠ 0 ∨ code = 0) :
    Calls Try.prog 25 #[.pointer p, .int .i64 code] w fun e w' => e = .returned (.bool false) ∧ w' = w := by
  obtain ⟨g, q, rfl, hg, hb, ht⟩ := h
  have c1 := cell_blk hb 1
  simp at c1
  clear hb
  by_cases h0 : c = 0
  · obtain rfl : code = 0 := by exact hc.elim (fun h => absurd h0 h) id
    subst h0
    clear hc
    go_enter Try.func25, Try.ntmps25
    go_wp2
    go_ret
    exact ⟨rfl, rfl⟩
  · have h1 : (c != 0) = true := by simpa using h0
    clear hc
    go_enter Try.func25, Try.ntmps25
    go_wp2
    go_ret
    exact ⟨rfl, rfl⟩

theorem set_blk {w : World} {g : Nat} {a b u : Value} {t : TypeId} (h : w.heap[g]? = some (.cells #[a, b] t (0, 0))) : (w.setCell ⟨g, 1, none⟩ u).heap[g]? = some (.cells #[a, u] t (0, 0)) := by
  simp [World.setCell, Array.getElem?_modify, h]

theorem call_yes {w : World} {B g : Nat} {cs : List Int} (code : Int) (h : Tok w B (some ⟨g, 0, none⟩) (0 :: cs)) (hc : code ≠ 0) :
    Calls Try.prog 25 #[.pointer (some ⟨g, 0, none⟩), .int .i64 code] w fun e w' => e = .returned (.bool true) ∧
      Tok w' B (some ⟨g, 0, none⟩) (code :: cs) ∧ Below g w w' ∧ w'.heap.size = w.heap.size ∧ ∀ k, k ≠ g → w'.heap[k]? = w.heap[k]? := by
  obtain ⟨g', q, hgg, hg, hb, ht⟩ := h
  obtain rfl : g = g' := by injection hgg with h; injection h
  have c1 := cell_blk hb 1
  have f1 := free_blk hb 1
  simp at c1 f1
  have h0 : (code == 0) = false := by simpa using hc
  have hbel : Below g w (w.setCell ⟨g, 1, none⟩ (.int .i64 code)) := (Below.refl _ _).setCell (p := ⟨g, 1, none⟩) (Nat.le_refl _) _
  have hres : Tok (w.setCell ⟨g, 1, none⟩ (.int .i64 code)) B (some ⟨g, 0, none⟩) (code :: cs) := ⟨g, q, rfl, hg, set_blk hb, ht.below hbel⟩
  have hsz : (w.setCell ⟨g, 1, none⟩ (.int .i64 code)).heap.size = w.heap.size := by simp [World.setCell]
  have hoth : ∀ k, k ≠ g → (w.setCell ⟨g, 1, none⟩ (.int .i64 code)).heap[k]? = w.heap[k]? := fun k hk => Below.heap_setCell _ _ _ _ hk
  have H := Lib.hid (And.intro hres (And.intro hbel (And.intro hsz hoth)))
  clear hres hbel hsz hoth hb ht
  go_enter Try.func25, Try.ntmps25
  go_wp2
  go_ret
  exact ⟨rfl, H.out⟩

set_option maxHeartbeats 1000000 in
theorem awake_any (w : World) : Calls Try.prog 22 #[] w fun e w' => e = .returned (.bool true) ∧ Below w.heap.size w w' := by
  go_enter Try.func22, Try.ntmps22
  go_wp2_with fail
  refine (new_tok _).mono ?_
  rintro e w1 ⟨rfl, t1, b1, s1⟩
  have H1 := Lib.hid (And.intro b1 s1); clear b1 s1
  go_wp2_with fail
  refine (child_tok (t1.mono (by have := H1.out.2; omega))).mono ?_
  rintro e w2 ⟨rfl, t2, b2, s2, k2⟩
  have t1' := (t1.mono (show w.heap.size + 1 ≤ w1.heap.size by have := H1.out.2; omega)).below b2
  have H2 := Lib.hid (And.intro b2 (And.intro s2 k2)); clear b2 s2 k2 t1 t2
  go_wp2_with fail
  refine (call_yes 23 t1' (by decide)).mono ?_
  rintro e w3 ⟨rfl, t3, b3, s3, o3⟩
  have t4 : Tok w3 (w1.heap.size + 1) (some ⟨w1.heap.size, 0, none⟩) [0, 23] :=
    ⟨w1.heap.size, _, rfl, by omega, (o3 _ (by have := H1.out.2; omega)).trans H2.out.2.2, t3⟩
  have H3 := Lib.hid (And.intro b3 s3); clear b3 s3 o3 t3 t1'
  have n1 : first [0, 23] = 23 := by decide
  have n2 : (first [0, 23] != 0) = true := by decide
  go_wp2_with (first
    | (go_at_call 27; ((with_reducible refine (reason_any t4).mono ?_); rintro e w' ⟨rfl, rfl⟩))
    | (go_at_call 28; ((with_reducible refine (off_any t4).mono ?_); rintro e w' ⟨rfl, rfl⟩))
    | (go_at_call 29; ((with_reducible refine (depth_any t4 (by decide)).mono ?_); rintro e w' ⟨rfl, rfl⟩)))
  go_ret
  have e1 := H1.out; have e2 := H2.out; have e3 := H3.out
  exact ⟨rfl, (e1.1.trans (e2.1.mono (by omega))).trans e3.1⟩
end Go.Proofs.Yticcobciafbleaa.Token
