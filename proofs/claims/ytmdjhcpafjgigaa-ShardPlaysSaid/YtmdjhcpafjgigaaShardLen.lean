/- A shard's Len. -/
import Derived.Test.YtmdjhcpafjgigaaShardOps
namespace Go.Proofs.Ytmdjhcpafjgigaa.Mk
open Go Go.RowKit Go.MuLone

set_option maxRecDepth 20000 in
set_option maxHeartbeats 2000000 in
theorem slen_any (S B : Nat) (room : Int) (l : List Ms) (clock : Nat) (W : World) (h : ShIs W S B room l clock 0) :
    Calls Try.prog 12 #[.pointer (some ⟨S, 0, none⟩)] W fun e w' => e = .returned (.int .i64 (l.length : Int)) ∧ ShIs w' S B room l clock 0 ∧ Only2 S B W w' := by
  obtain ⟨c0, -, -, f0⟩ := h.cells
  go_enter_defers Try.func12, Try.ntmps12
  go_wp2_with fail
  refine (lock_free muLib ⟨S, 0, none⟩ _ c0 f0).mono ?_
  rintro _ w1 ⟨rfl, hw⟩
  have h1 : ShIs w1 S B room l clock 1 := by rw [hw]; exact h.lock 1
  have hO1 : Only2 S B W w1 := by rw [hw]; exact (Only2.refl S B W).setS 0 _
  have hl := fun ty => len_run B l clock ty w1 h1.map
  have H1 := Lib.hid (And.intro h1 hO1)
  obtain ⟨-, -, c3, -⟩ := h1.cells
  clear hw c0 f0 h h1 hO1
  go_wp2_with fail
  refine leaves_cons (f := 25) (args := #[.pointer (some ⟨S, 0, none⟩)]) (by simp) (by simp [go_sem]) ?_
  refine (unlock_deferred muLib ⟨S, 0, none⟩ .returning _ H1.out.1.cells.1 H1.out.1.cells.2.2.2).mono ?_
  rintro _ u' w9 ⟨rfl, rfl, hw9⟩
  exact ⟨.int .i64 (l.length : Int), by simp [results, Try.results12, go_sem], rfl, by rw [hw9]; exact H1.out.1.lock 0, by rw [hw9]; exact H1.out.2.setS 0 _⟩
end Go.Proofs.Ytmdjhcpafjgigaa.Mk
