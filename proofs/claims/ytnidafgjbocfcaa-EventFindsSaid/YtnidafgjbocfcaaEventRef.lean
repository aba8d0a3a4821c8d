/- The page's Find, Only and Same; whether heights rise. -/
import Derived.Test.YtnidafgjbocfcaaEventOnly
import Derived.Deep.RegionHeld3
namespace Go.Proofs.Ytnidafgjbocfcaa.Ev
open Go Go.RowKit Go.Shelf

section
variable {wr W1 W2 : World} {b o g : Nat} {m : E8} {c f s : Int}
theorem KE.call (h : Below wr.heap.size wr W1 ∧ W1.cell? ⟨b, o, none⟩ = some (.int .i64 m.k) ∧ W1.cell? ⟨b, o + 2, none⟩ = some (.int .i64 m.c) ∧ W1.cell? ⟨b, o + 3, none⟩ = some (.int .i64 m.f) ∧ W1.cell? ⟨b, o + 4, none⟩ = some (.int .u64 m.s) ∧ W1.cell? ⟨b, o + 5, none⟩ = some (.int .u64 m.t) ∧ W1.cell? ⟨b, o + 6, none⟩ = some (.string m.d) ∧ W1.cell? ⟨g, 0, none⟩ = some (.int .i64 c) ∧ W1.cell? ⟨g, 1, none⟩ = some (.int .i64 f) ∧ W1.cell? ⟨g, 2, none⟩ = some (.int .u64 s)) (hb : b < wr.heap.size) (hg : g < wr.heap.size) (hc : Below W1.heap.size W1 W2) : Below wr.heap.size wr W2 ∧ W2.cell? ⟨b, o, none⟩ = some (.int .i64 m.k) ∧ W2.cell? ⟨b, o + 2, none⟩ = some (.int .i64 m.c) ∧ W2.cell? ⟨b, o + 3, none⟩ = some (.int .i64 m.f) ∧ W2.cell? ⟨b, o + 4, none⟩ = some (.int .u64 m.s) ∧ W2.cell? ⟨b, o + 5, none⟩ = some (.int .u64 m.t) ∧ W2.cell? ⟨b, o + 6, none⟩ = some (.string m.d) ∧ W2.cell? ⟨g, 0, none⟩ = some (.int .i64 c) ∧ W2.cell? ⟨g, 1, none⟩ = some (.int .i64 f) ∧ W2.cell? ⟨g, 2, none⟩ = some (.int .u64 s) := by
  obtain ⟨h0, h1, h2, h3, h4, h5, h6, h7, h8, h9⟩ := h
  have H : ∀ p v, p.block < wr.heap.size → W1.cell? p = some v → W2.cell? p = some v := fun p v hp hv => (hc.cell (Nat.lt_of_lt_of_le hp h0.size)).trans hv
  exact ⟨h0.trans (hc.mono h0.size), H _ _ hb h1, H _ _ hb h2, H _ _ hb h3, H _ _ hb h4, H _ _ hb h5, H _ _ hb h6, H _ _ hg h7, H _ _ hg h8, H _ _ hg h9⟩
theorem KE.drew (h : Below wr.heap.size wr W1 ∧ W1.cell? ⟨b, o, none⟩ = some (.int .i64 m.k) ∧ W1.cell? ⟨b, o + 2, none⟩ = some (.int .i64 m.c) ∧ W1.cell? ⟨b, o + 3, none⟩ = some (.int .i64 m.f) ∧ W1.cell? ⟨b, o + 4, none⟩ = some (.int .u64 m.s) ∧ W1.cell? ⟨b, o + 5, none⟩ = some (.int .u64 m.t) ∧ W1.cell? ⟨b, o + 6, none⟩ = some (.string m.d) ∧ W1.cell? ⟨g, 0, none⟩ = some (.int .i64 c) ∧ W1.cell? ⟨g, 1, none⟩ = some (.int .i64 f) ∧ W1.cell? ⟨g, 2, none⟩ = some (.int .u64 s)) : Below wr.heap.size wr W1.drew ∧ W1.drew.cell? ⟨b, o, none⟩ = some (.int .i64 m.k) ∧ W1.drew.cell? ⟨b, o + 2, none⟩ = some (.int .i64 m.c) ∧ W1.drew.cell? ⟨b, o + 3, none⟩ = some (.int .i64 m.f) ∧ W1.drew.cell? ⟨b, o + 4, none⟩ = some (.int .u64 m.s) ∧ W1.drew.cell? ⟨b, o + 5, none⟩ = some (.int .u64 m.t) ∧ W1.drew.cell? ⟨b, o + 6, none⟩ = some (.string m.d) ∧ W1.drew.cell? ⟨g, 0, none⟩ = some (.int .i64 c) ∧ W1.drew.cell? ⟨g, 1, none⟩ = some (.int .i64 f) ∧ W1.drew.cell? ⟨g, 2, none⟩ = some (.int .u64 s) := ⟨h.1.drew, h.2⟩
end

set_option maxRecDepth 100000 in
set_option maxHeartbeats 2000000 in
theorem ref_find_any (A : Option Addr) (len cap : Nat) (es : List E8) (kind c f s : Int) (w : World) (hr : Rd w A len es) (hlen : len ≤ 9223372036854775807) :
    Calls Try.prog 15 #[.slice A len cap, .int .i64 kind, .agg #[.int .i64 c, .int .i64 f, .int .u64 s]] w fun e w' => e = .returned (.int .i64 (place es kind c f s len 0)) ∧ Below w.heap.size w w' := by
  go_enter Try.func15, Try.ntmps15
  go_wp2
  go_loopw [7] (fun i wr => ∃ k : Nat, i = .int .i64 (k : Int) ∧ k ≤ len ∧ Hid (place es kind c f s len 0 = place es kind c f s (len - k) k) ∧ wr.heap[w.heap.size]? = some (.cells #[.int .i64 c, .int .i64 f, .int .u64 s] 30 (0, 0)) ∧ Below w.heap.size w wr)
    (fun i _ => len - (intOf i).toNat)
  case atStart => exact ⟨0, rfl, Nat.zero_le _, Lib.hid rfl, heap_alloc_new w _, (Below.refl _ _).alloc (Nat.le_refl _) _⟩
  case round =>
    obtain ⟨k, rfl, hk, hp, hbx, hb⟩ := hrel
    by_cases hlt : k < len
    · obtain ⟨b, off, rfl, hbl, hc⟩ := hr.at hb (by omega)
      have hck := hc k hlt
      clear hc
      have HM := Lib.hid (show ∃ m, es.getD k e0 = m from ⟨_, rfl⟩)
      obtain ⟨m, hm⟩ := HM.out
      rw [hm] at hck
      have hba : b < wr.heap.size := Nat.lt_of_lt_of_le hbl hb.size
      have hga : w.heap.size < wr.heap.size := lt_blk hbx
      obtain ⟨c0, c1, c2, c3, c4, c5, c6, c7⟩ := hck
      have k0 := cell_of_row wr _ 0 _ _ _ hbx
      have k1 := cell_of_row wr _ 1 _ _ _ hbx
      have k2 := cell_of_row wr _ 2 _ _ _ hbx
      simp at k0 k1 k2
      have hi0 : (0 : Int) ≤ (k : Int) := by omega
      have hi1 : (k : Int) < (len : Int) := by omega
      have HX := Lib.hid (And.intro hbx (And.intro hb hm))
      have HG := Lib.hid (show Hid (place es kind c f s len 0 = place es kind c f s (len - k) k) ∧ len - k = len - (k + 1) + 1 from ⟨hp, by omega⟩)
      clear hp hbx hb hm HM hr
      by_cases hs : (m.k == kind) = true
      · have heq : ∀ V, (binOp .eql 30 (.agg #[.int .i64 m.c, .int .i64 m.f, .int .u64 m.s]) (.agg #[.int .i64 c, .int .i64 f, .int .u64 s])).run Try.prog V = .ok (.bool (hit c f s m)) V := key_run m c f s
        have hS : Below wr.heap.size wr wr ∧ wr.cell? ⟨b, off + k * 8, none⟩ = some (.int .i64 m.k) ∧ wr.cell? ⟨b, off + k * 8 + 2, none⟩ = some (.int .i64 m.c) ∧ wr.cell? ⟨b, off + k * 8 + 3, none⟩ = some (.int .i64 m.f) ∧ wr.cell? ⟨b, off + k * 8 + 4, none⟩ = some (.int .u64 m.s) ∧ wr.cell? ⟨b, off + k * 8 + 5, none⟩ = some (.int .u64 m.t) ∧ wr.cell? ⟨b, off + k * 8 + 6, none⟩ = some (.string m.d) ∧ wr.cell? ⟨w.heap.size, 0, none⟩ = some (.int .i64 c) ∧ wr.cell? ⟨w.heap.size, 1, none⟩ = some (.int .i64 f) ∧ wr.cell? ⟨w.heap.size, 2, none⟩ = some (.int .u64 s) := ⟨Below.refl _ _, c0, c2, c3, c4, c5, c6, k0, k1, k2⟩
        go_wp2
        go_region_held3 (fun w' => Below wr.heap.size wr w' ∧ w'.cell? ⟨b, off + k * 8, none⟩ = some (.int .i64 m.k) ∧ w'.cell? ⟨b, off + k * 8 + 2, none⟩ = some (.int .i64 m.c) ∧ w'.cell? ⟨b, off + k * 8 + 3, none⟩ = some (.int .i64 m.f) ∧ w'.cell? ⟨b, off + k * 8 + 4, none⟩ = some (.int .u64 m.s) ∧ w'.cell? ⟨b, off + k * 8 + 5, none⟩ = some (.int .u64 m.t) ∧ w'.cell? ⟨b, off + k * 8 + 6, none⟩ = some (.string m.d) ∧ w'.cell? ⟨w.heap.size, 0, none⟩ = some (.int .i64 c) ∧ w'.cell? ⟨w.heap.size, 1, none⟩ = some (.int .i64 f) ∧ w'.cell? ⟨w.heap.size, 2, none⟩ = some (.int .u64 s))
          (first | assumption | exact KE.drew (by assumption) | exact KE.call (by assumption) hba hga hb1 | exact KE.call (KE.drew (by assumption)) hba hga hb1)
          (first
            | (go_at_call 52; ((with_reducible refine (ref_key_any _ _ _ _ _ _).mono ?_); rintro e w1 ⟨rfl, hb1⟩)))
        have HS := Lib.hid (show Below wr.heap.size wr w1 from by
          obtain ⟨hB, _⟩ : Below wr.heap.size wr w1 ∧ _ ∧ _ := by assumption
          exact hB)
        go_wp2
        · rename_i hh
          go_ret
          refine ⟨?_, HX.out.2.1.trans (HS.out.mono HX.out.2.1.size)⟩
          rw [HG.out.1.out, HG.out.2, place, HX.out.2.2, if_pos ⟨by simpa using hs, hh⟩]; rfl
        · rename_i hh
          refine ⟨⟨k + 1, by go_num, by omega, Lib.hid ?_, (HS.out.block _ (lt_blk HX.out.1)).trans HX.out.1, HX.out.2.1.trans (HS.out.mono HX.out.2.1.size)⟩, by simp [intOf]; omega⟩
          rw [HG.out.1.out, HG.out.2, place, HX.out.2.2, if_neg (fun h => by have h2 := h.2; simp [hh] at h2)]
      · have hs' : (m.k == kind) = false := by simpa using hs
        go_wp2
        go_quiet (fail)
        go_wp2
        refine ⟨⟨k + 1, by go_num, by omega, Lib.hid ?_, HX.out.1, below_drewN HX.out.2.1 _⟩, by simp [intOf]; omega⟩
        rw [HG.out.1.out, HG.out.2, place, HX.out.2.2, if_neg (fun h => hs (by simpa using h.1))]
    · have hk2 : k = len := by omega
      subst hk2
      go_wp2
      go_ret
      refine ⟨?_, hb⟩
      rw [hp.out, Nat.sub_self]
      rfl

theorem sel_yes {es : List E8} {kind ch fr : Int} {k : Nat} {m : E8} (hm : es.getD k e0 = m) (h0 : (m.k == kind) = true) (h1 : (m.c == ch) = true) (h2 : (m.f == fr) = true) : selp ch fr (comes es kind (k + 1)) = selp ch fr (comes es kind k) ++ [m] := by
  subst hm
  rw [comes_yes (by simpa using h0)]
  exact selp_yes (x := (k, es.getD k e0)) h1 h2
theorem sel_no {es : List E8} {kind ch fr : Int} {k : Nat} {m : E8} (hm : es.getD k e0 = m) (h : (m.k == kind) = false ∨ (m.c == ch) = false ∨ (m.f == fr) = false) : selp ch fr (comes es kind (k + 1)) = selp ch fr (comes es kind k) := by
  subst hm
  rcases h with h | h | h
  · rw [comes_no (by simpa using h)]
  · by_cases hk : (es.getD k e0).k = kind
    · rw [comes_yes hk]; exact selp_no1 (x := (k, es.getD k e0)) h
    · rw [comes_no hk]
  · by_cases hk : (es.getD k e0).k = kind
    · rw [comes_yes hk]; exact selp_no2 (x := (k, es.getD k e0)) h
    · rw [comes_no hk]

set_option maxRecDepth 100000 in
set_option maxHeartbeats 2000000 in
theorem ref_only_any (A : Option Addr) (len cap : Nat) (es : List E8) (kind ch fr : Int) (w : World) (hr : Rd w A len es) (hlen : len ≤ 1000000) :
    Calls Try.prog 18 #[.slice A len cap, .int .i64 kind, .int .i64 ch, .int .i64 fr] w fun e w' => (∃ u, e = .returned u ∧ w'.ownsRow w.heap.size 40 8 u (selp ch fr (comes es kind len)).length (evs (selp ch fr (comes es kind len)))) ∧ Below w.heap.size w w' := by
  obtain ⟨i0, hi, hz0, hz1, hz2⟩ := info_parts infoE
  go_enter Try.func18, Try.ntmps18
  go_wp2
  go_loopw [9, 10] (fun o i wr => ∃ k : Nat, i = .int .i64 (k : Int) ∧ k ≤ len ∧ wr.ownsRow w.heap.size 40 8 o (selp ch fr (comes es kind k)).length (evs (selp ch fr (comes es kind k))) ∧ Below w.heap.size w wr)
    (fun _ i _ => len - (intOf i).toNat)
  case atStart => exact ⟨0, rfl, Nat.zero_le _, World.ownsRow_nil _ _ _ _, Below.refl _ _⟩
  case round =>
    obtain ⟨k, rfl, hk, hown, hb⟩ := hrel
    by_cases hlt : k < len
    · obtain ⟨A1, c9, rfl⟩ := own_form8 hown
      obtain ⟨b, off, rfl, hbl, hc⟩ := hr.at hb (by omega)
      have hck := hc k hlt
      clear hc
      have HM := Lib.hid (show ∃ m, es.getD k e0 = m from ⟨_, rfl⟩)
      obtain ⟨m, hm⟩ := HM.out
      rw [hm] at hck
      obtain ⟨c0, c1, c2, c3, c4, c5, c6, c7⟩ := hck
      have hi0 : (0 : Int) ≤ (k : Int) := by omega
      have hi1 : (k : Int) < (len : Int) := by omega
      have hq1 := selp_len ch fr (comes es kind k)
      have hq2 := comes_len es kind k
      have HY := Lib.hid (sel_yes (kind := kind) (ch := ch) (fr := fr) hm)
      have HN := Lib.hid (sel_no (kind := kind) (ch := ch) (fr := fr) hm)
      have HH := Lib.hid (And.intro hown hb)
      clear hm HM hr
      by_cases hs : (m.k == kind) = true
      · by_cases h1 : (m.c == ch) = true
        · by_cases h2 : (m.f == fr) = true
          · go_wp2_with (at_builtin; refine wpList_append_own_at _ rfl _ _ 36 rfl w.heap.size 40 i0 _ 8 80 Try.underlying36 hi hz0 hz1 hz2 rfl (by decide) _ _ _ rfl (hown.alloc _) ⟨wr.heap.size, 0, none⟩ 1 1 m.cells.toList rfl rfl (cells8_new wr m _) (cells8_one m) (by unfold maxLen; omega) (by omega) (by have := hb.size; simp; omega) ?_)
            intro v1 w1 hown1 hg1 _ _
            have H1 := Lib.hid (And.intro hown1 hg1)
            clear hown1 hg1
            go_wp2
            refine ⟨⟨k + 1, by go_num, by omega, ?_, below_push HH.out.2 HH.out.2.size HH.out.1 H1.out.2⟩, by simp [intOf]; omega⟩
            rw [HY.out hs h1 h2, evs_snoc, List.length_append, List.length_singleton]
            exact H1.out.1
          · have h2' : (m.f == fr) = false := by simpa using h2
            clear h2
            go_wp2
            refine ⟨⟨k + 1, by go_num, by omega, ?_, HH.out.2⟩, by simp [intOf]; omega⟩
            rw [HN.out (.inr (.inr h2'))]
            exact HH.out.1
        · have h1' : (m.c == ch) = false := by simpa using h1
          clear h1
          go_wp2
          refine ⟨⟨k + 1, by go_num, by omega, ?_, HH.out.2⟩, by simp [intOf]; omega⟩
          rw [HN.out (.inr (.inl h1'))]
          exact HH.out.1
      · have hs' : (m.k == kind) = false := by simpa using hs
        clear hs
        go_wp2
        refine ⟨⟨k + 1, by go_num, by omega, ?_, HH.out.2⟩, by simp [intOf]; omega⟩
        rw [HN.out (.inl hs')]
        exact HH.out.1
    · obtain rfl : k = len := by omega
      go_wp2
      go_ret
      exact ⟨⟨_, rfl, hown⟩, hb⟩

theorem neq_run (m : E8) (W : World) : (binOp .neq 40 (.agg #[.int .i64 m.k, .int .u64 m.h, .int .i64 m.c, .int .i64 m.f, .int .u64 m.s, .int .u64 m.t, .string m.d, .string m.a]) (.agg #[.int .i64 m.k, .int .u64 m.h, .int .i64 m.c, .int .i64 m.f, .int .u64 m.s, .int .u64 m.t, .string m.d, .string m.a])).run Try.prog W = .ok (.bool false) W := by
  go_simp

set_option maxHeartbeats 1000000 in
theorem same_evs (A B : Option Addr) (n c d : Nat) (ms : List E8) (w : World) (hn : n ≤ 9223372036854775807) (ha : Rd w A n ms) (hb : Rd w B n ms) :
    Calls Try.prog 16 #[.slice A n c, .slice B n d] w fun e w' => e = .returned (.bool true) ∧ ∃ q, w' = w.drewN q := by
  go_enter Try.func16, Try.ntmps16
  go_wp2
  go_loopw [5] (fun i wr => ∃ k : Nat, i = .int .i64 (k : Int) ∧ k ≤ n ∧ ∃ q, wr = w.drewN q) (fun i _ => n - (intOf i).toNat)
  case atStart => exact ⟨0, rfl, Nat.zero_le _, 0, rfl⟩
  case round =>
    obtain ⟨k, rfl, hk, q, rfl⟩ := hrel
    by_cases hlt : k < n
    · obtain ⟨b, off, rfl, _, hc⟩ := ha.at (Below.refl _ w) (by omega)
      obtain ⟨b', off', rfl, _, hc'⟩ := hb.at (Below.refl _ w) (by omega)
      have hck := hc k hlt
      have hck' := hc' k hlt
      clear hc hc' ha hb
      generalize ms.getD k e0 = m at hck hck'
      obtain ⟨c0, c1, c2, c3, c4, c5, c6, c7⟩ := hck
      obtain ⟨d0, d1, d2, d3, d4, d5, d6, d7⟩ := hck'
      have hne := neq_run m
      have hi0 : (0 : Int) ≤ (k : Int) := by omega
      have hi1 : (k : Int) < (n : Int) := by omega
      go_wp2
      go_quiet (fail)
      go_wp2
      exact ⟨⟨k + 1, by go_num, by omega, _, rfl⟩, by simp [intOf]; omega⟩
    · obtain rfl : k = n := by omega
      go_wp2
      go_ret
      exact ⟨rfl, _, rfl⟩
end Go.Proofs.Ytnidafgjbocfcaa.Ev
