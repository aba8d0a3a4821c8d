/- 'GapNobody': a heap that is none; one that is cleared. -/
import Derived.Test.YthamemaomedldadGap14
namespace Go.Proofs.Ythamemaomedldad.Gp
open Go Go.RowKit

set_option maxRecDepth 20000 in
set_option maxHeartbeats 4000000 in
theorem walk0 (n many : Int) (fc : Int) (hft : (fc = 0 ∧ n ≠ 18446744073709551615) ∨ (fc = 5 ∧ n = 18446744073709551615)) (W : World)
    (hput : ∀ (V : World) (H : Nat), HpO V.heap.size (V.alloc (.cells #[.slice none 0 0] THp)) H (.slice none 0 0) [] → Calls Try.prog 6 #[.pointer (some ⟨H, 0, none⟩), .int .u64 n] (V.alloc (.cells #[.slice none 0 0] THp)) fun e w' => e = .returned (.int .i64 fc) ∧ ∃ v', w'.heap[H]? = some (.cells #[v'] THp (0, 0)) ∧ Below V.heap.size (V.alloc (.cells #[.slice none 0 0] THp)) w') :
    Calls Try.prog 3 #[.int .u64 n, .int .u64 many] W fun e w' => e = .returned (.bool true) ∧ Below W.heap.size W w' := by
  have HPut := Lib.hid hput
  have HF := Lib.hid hft
  clear hput hft
  go_enter Try.func3, Try.ntmps3
  go_wp2_with fail
  refine (take_nil many _).mono ?_
  rintro _ w1 ⟨rfl, rfl⟩
  go_wp2_with fail
  refine (clear_nil _).mono ?_
  rintro _ w2 ⟨rfl, rfl⟩
  go_wp2_with fail
  refine (put_nil n _).mono ?_
  rintro _ w3 ⟨rfl, b3⟩
  go_wp2_with fail
  refine (has_nil n _).mono ?_
  rintro _ w4 ⟨rfl, b4⟩
  have X4 := Lib.hid (b3.trans (b4.mono b3.size))
  clear b3 b4
  go_wp2_with fail
  refine (len_nil _).mono ?_
  rintro _ w5 ⟨rfl, rfl⟩
  go_wp2_with fail
  refine (runs_nil _).mono ?_
  rintro _ w6 ⟨rfl, rfl⟩
  go_wp2_with fail
  refine (new_any _).mono ?_
  rintro _ w7 ⟨H, rfl, hH, hw7⟩
  have hP : HpO w6.heap.size (w6.alloc (.cells #[.slice none 0 0] THp)) H (.slice none 0 0) [] := ⟨by rw [hH]; exact heap_alloc_new w6 _, Nat.le_of_eq hH.symm, World.ownsRow_nil _ _ _ _, by decide⟩
  have HQ := Lib.hid (HPut.out w6 H hP)
  rw [← hw7] at HQ
  have b7 : Below w6.heap.size w6 w7 := by rw [hw7]; exact (Below.refl _ _).alloc (Nat.le_refl _) _
  have hHl : w6.heap.size ≤ H := Nat.le_of_eq hH.symm
  have X7 := Lib.hid (And.intro b7 hHl)
  clear hH hw7 hP b7 hHl HPut
  go_wp2_with fail
  refine HQ.out.mono ?_
  rintro _ w8 ⟨rfl, v8, hb8, b8⟩
  have X8 := Lib.hid (And.intro hb8 (X7.out.1.trans b8))
  clear hb8 b8 HQ
  go_wp2_with fail
  refine (clear_any H v8 w8 X8.out.1).mono ?_
  rintro _ w9 ⟨rfl, hw9⟩
  have hb9 : w9.heap[H]? = some (.cells #[.slice none 0 0] THp (0, 0)) := by rw [hw9]; exact setCell_at _ X8.out.1
  have b9 : Below w6.heap.size w6 w9 := by rw [hw9]; exact Below.setCell (p := ⟨H, 0, none⟩) X8.out.2 X7.out.2 _
  have X9 := Lib.hid (And.intro hb9 b9)
  clear hw9 hb9 b9 X8
  go_wp2_with fail
  refine (awake_any _).mono ?_
  rintro _ w10 ⟨rfl, b10⟩
  have hb10 := (b10.block _ (Array.getElem?_eq_some_iff.1 X9.out.1).1).trans X9.out.1
  have X10 := Lib.hid (And.intro hb10 (X9.out.2.trans (b10.mono X9.out.2.size)))
  clear hb10 b10 X9
  have HH := Lib.hid (has_any H (.slice none 0 0) [] n w10 ⟨X10.out.1, Or.inl ⟨rfl, rfl⟩⟩)
  rw [show decide ((0 : Int) ≤ seek (p_in n) [] 0) = false by rfl] at HH
  rcases HF.out with ⟨rfl, hn⟩ | ⟨rfl, hn⟩
  · skip
    go_wp2_with fail
    refine HH.out.mono ?_
    rintro _ w11 ⟨rfl, b11⟩
    have hb11 := (b11.block _ (Array.getElem?_eq_some_iff.1 X10.out.1).1).trans X10.out.1
    have X11 := Lib.hid (And.intro hb11 (X10.out.2.trans (b11.mono X10.out.2.size)))
    clear hb11 b11
    go_wp2_with fail
    refine (len_none H w11 X11.out.1).mono ?_
    rintro _ w12 ⟨rfl, rfl⟩
    go_wp2_with fail
    refine (runs_none H w12 X11.out.1).mono ?_
    rintro _ w13 ⟨rfl, rfl⟩
    go_wp2
    go_ret
    have hb : (n != 18446744073709551615) = true := by simpa using hn
    exact ⟨by show Ending.returned (Value.bool (n != 18446744073709551615)) = _; rw [hb], X4.out.trans (X11.out.2.mono X4.out.size)⟩
  · subst hn
    go_wp2_with fail
    refine HH.out.mono ?_
    rintro _ w11 ⟨rfl, b11⟩
    have hb11 := (b11.block _ (Array.getElem?_eq_some_iff.1 X10.out.1).1).trans X10.out.1
    have X11 := Lib.hid (And.intro hb11 (X10.out.2.trans (b11.mono X10.out.2.size)))
    clear hb11 b11
    go_wp2_with fail
    refine (len_none H w11 X11.out.1).mono ?_
    rintro _ w12 ⟨rfl, rfl⟩
    go_wp2_with fail
    refine (runs_none H w12 X11.out.1).mono ?_
    rintro _ w13 ⟨rfl, rfl⟩
    go_wp2
    go_ret
    exact ⟨rfl, X4.out.trans (X11.out.2.mono X4.out.size)⟩
theorem seek_nil (p : Int × Int → Bool) : seek p [] 0 = -1 := rfl
theorem walk (n : Int) (_ : (Lit.int .u64 n).wf = true) (many : Int) (_ : (Lit.int .u64 many).wf = true) (w : World) :
    Calls Try.prog 3 #[.int .u64 n, .int .u64 many] w fun e w' => e = .returned (.bool true) ∧ Below w.heap.size w w' := by
  by_cases hn : n = 18446744073709551615
  · refine walk0 n many 5 (Or.inr ⟨rfl, hn⟩) w fun V H hP => ?_
    rw [hn]
    refine (put_top H _).mono ?_
    rintro e w' ⟨rfl, b⟩
    exact ⟨rfl, _, (b.block _ hP.lt).trans hP.box, b.mono (by simp)⟩
  · refine walk0 n many 0 (Or.inl ⟨rfl, hn⟩) w fun V H hP => ?_
    refine (put_new V.heap.size H _ [] [(n, 1)] n _ hP (by simp) hn (seek_nil _) (seek_nil _) (seek_nil _) (fun V' hV hB => hpush0 V.heap.size H _ (n, 1) V' hV hB)).mono ?_
    rintro e w' ⟨rfl, v', hP', b, -⟩
    exact ⟨rfl, v', hP'.box, b⟩
end Go.Proofs.Ythamemaomedldad.Gp
