/- A batch of messages: Add. -/
import Derived.Test.YtjjomlideieofaaBatchAdd
namespace Go.Proofs.Ytjjomlideieofaa.Msg
open Go Go.RowKit

/-- What a message's box, the batch and all that stood are, a call later. -/
theorem put_frame {w w1 : World} {base g : Nat} {sz wt since : Int} {v : Value} {ms : List M7} {x : M7} (h : Bt w base g sz wt v since ms) (hb : Below (w.alloc (.cells #[.int .i64 x.k, .int .i64 x.c, .int .i64 x.f, .int .u64 x.s, .int .u64 x.t, .string x.d, .string x.a] TM)).heap.size (w.alloc (.cells #[.int .i64 x.k, .int .i64 x.c, .int .i64 x.f, .int .u64 x.s, .int .u64 x.t, .string x.d, .string x.a] TM)) w1) :
    Bt w1 base g sz wt v since ms ∧ Box w1 w.heap.size x ∧ Below w.heap.size w w1 := by
  have hb0 : Below w.heap.size w (w.alloc (.cells #[.int .i64 x.k, .int .i64 x.c, .int .i64 x.f, .int .u64 x.s, .int .u64 x.t, .string x.d, .string x.a] TM)) := (Below.refl _ _).alloc (Nat.le_refl _) _
  have h2 : Below w.heap.size w w1 := hb0.trans (hb.mono (by simp))
  exact ⟨(h.below hb0).below hb, Box.below (W := w.alloc (.cells #[.int .i64 x.k, .int .i64 x.c, .int .i64 x.f, .int .u64 x.s, .int .u64 x.t, .string x.d, .string x.a] TM)) (heap_alloc_new w _) hb, h2⟩

theorem addr_size (w : World) : w.heap.size ≤ w.heap.size := Nat.le_refl _

set_option maxHeartbeats 2000000 in
theorem add_bad {w : World} {base g : Nat} {sz wt since : Int} {v : Value} {ms : List M7} (h : Bt w base g sz wt v since ms) (x : M7) (now : Int) (hm : mright x = false) :
    Calls Try.prog 29 #[.pointer (some ⟨g, 0, none⟩), .agg #[.int .i64 x.k, .int .i64 x.c, .int .i64 x.f, .int .u64 x.s, .int .u64 x.t, .string x.d, .string x.a], .int .u64 now] w fun e w' => e = .returned (.int .i64 1) ∧ Below w.heap.size w w' := by
  have HR := Lib.hid (mright_any x)
  have HB := Lib.hid h
  unfold M7.cells at HR
  go_enter Try.func29, Try.ntmps29
  go_wp2_with fail
  refine (HR.out _).mono ?_
  rintro e w1 ⟨rfl, hb1⟩
  rw [hm]
  have H1 := Lib.hid (put_frame HB.out hb1)
  clear hb1
  go_wp2
  go_ret
  exact ⟨rfl, H1.out.2.2⟩

set_option maxHeartbeats 2000000 in
theorem add_dup {w : World} {base g : Nat} {sz wt since : Int} {v : Value} {ms : List M7} (h : Bt w base g sz wt v since ms) (x : M7) (now : Int) (hm : mright x = true) (hl : ms.length ≤ 1000000) (hp : place ms x ms.length 0 ≠ -1) :
    Calls Try.prog 29 #[.pointer (some ⟨g, 0, none⟩), .agg #[.int .i64 x.k, .int .i64 x.c, .int .i64 x.f, .int .u64 x.s, .int .u64 x.t, .string x.d, .string x.a], .int .u64 now] w fun e w' => e = .returned (.int .i64 7) ∧ Below w.heap.size w w' := by
  have hd := Lib.hid (show decide (place ms x ms.length 0 ≠ -1) = true from decide_eq_true hp)
  clear hp
  have HR := Lib.hid (mright_any x)
  have HB := Lib.hid h
  unfold M7.cells at HR
  go_enter Try.func29, Try.ntmps29
  go_wp2_with fail
  refine (HR.out _).mono ?_
  rintro e w1 ⟨rfl, hb1⟩
  rw [hm]
  have H1 := Lib.hid (put_frame HB.out hb1)
  clear hb1
  have hd1 : w.heap.size < w1.heap.size := lt_blk H1.out.2.1
  obtain ⟨b0, b1, b2, b3, b4, b5, b6⟩ := Box.cells H1.out.2.1
  go_wp2_with fail
  refine (has_any H1.out.1 x hl).mono ?_
  rintro e w2 ⟨rfl, hb2⟩
  rw [hd.out]
  have H2 := Lib.hid (And.intro (H1.out.1.below hb2) (And.intro (Box.below H1.out.2.1 hb2) (H1.out.2.2.trans (hb2.mono (Nat.le_of_lt hd1)))))
  clear b0 b1 b2 b3 b4 b5 b6 hd1 hb2
  go_wp2
  go_ret
  exact ⟨rfl, H2.out.2.2⟩

set_option maxHeartbeats 2000000 in
theorem add_full {w : World} {base g : Nat} {sz wt since : Int} {v : Value} {ms : List M7} (h : Bt w base g sz wt v since ms) (x : M7) (now : Int) (hm : mright x = true) (hl : ms.length ≤ 1000000) (hp : place ms x ms.length 0 = -1) (hs : sz ≤ (ms.length : Int)) :
    Calls Try.prog 29 #[.pointer (some ⟨g, 0, none⟩), .agg #[.int .i64 x.k, .int .i64 x.c, .int .i64 x.f, .int .u64 x.s, .int .u64 x.t, .string x.d, .string x.a], .int .u64 now] w fun e w' => e = .returned (.int .i64 6) ∧ Below w.heap.size w w' := by
  have hd := Lib.hid (show decide (place ms x ms.length 0 ≠ -1) = false from decide_eq_false (fun h => h hp))
  obtain ⟨A, c, rfl⟩ := own_formN h.2.2
  clear hp
  have HR := Lib.hid (mright_any x)
  have HB := Lib.hid h
  unfold M7.cells at HR
  go_enter Try.func29, Try.ntmps29
  go_wp2_with fail
  refine (HR.out _).mono ?_
  rintro e w1 ⟨rfl, hb1⟩
  rw [hm]
  have H1 := Lib.hid (put_frame HB.out hb1)
  clear hb1
  have hd1 : w.heap.size < w1.heap.size := lt_blk H1.out.2.1
  obtain ⟨b0, b1, b2, b3, b4, b5, b6⟩ := Box.cells H1.out.2.1
  go_wp2_with fail
  refine (has_any H1.out.1 x hl).mono ?_
  rintro e w2 ⟨rfl, hb2⟩
  rw [hd.out]
  have H2 := Lib.hid (And.intro (H1.out.1.below hb2) (And.intro (Box.below H1.out.2.1 hb2) (H1.out.2.2.trans (hb2.mono (Nat.le_of_lt hd1)))))
  clear b0 b1 b2 b3 b4 b5 b6 hd1 hb2
  obtain ⟨c0, c1, c2, c3⟩ := H2.out.1.cells
  have hds : decide (sz ≤ (ms.length : Int)) = true := decide_eq_true hs
  go_wp2
  go_quiet (fail)
  go_wp2
  go_ret
  exact ⟨rfl, below_drewN H2.out.2.2 _⟩
end Go.Proofs.Ytjjomlideieofaa.Msg
