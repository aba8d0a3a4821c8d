/- A sum equals itself: the comparison of two rows of bytes. -/
import Derived.Test.YtcanoegffffdfaaDoorShaSums
import Derived.Stop.BytesEq
import Derived.ChangeKeysEq
namespace Go.Proofs.YtcanoegffffdfaaDoor.Sha
open Go Go.RowKit

theorem eq_row {P : Program} (w : World) (d : Nat) (t e : TypeId) (n : Nat) (ht : P.underlying t = some (.array n e)) (he : P.underlying e = some (.int .u8)) (hsz : ∀ w, (sizeOf e).run P w = .ok 1 w)
    (xs : List Int) (hx : xs.length = n) :
    (Op.equalIn (d + 2) t (.agg (xs.map (Value.int .u8)).toArray) (.agg (xs.map (Value.int .u8)).toArray)).run P w = .ok true w := by
  rw [Op.equalIn]
  simp only [Sem.run_bind, run_underlying ht, Result.andThen_ok, hsz, Std.Legacy.Range.forIn_eq_forIn_range', Std.Legacy.Range.size, Nat.sub_zero, Nat.add_sub_cancel, Nat.div_one]
  have hl : ∀ i ∈ List.range' 0 n 1, i < n := fun i hi => by simpa using (List.mem_range'_1.1 hi).2
  generalize List.range' 0 n 1 = l at hl ⊢
  induction l with
  | nil => simp
  | cons i l ih =>
    have hi : i < n := hl i (by simp)
    have px : (part e (xs.map (Value.int .u8)).toArray (i * 1)).run P w = .ok (.int .u8 (xs.getD i 0)) w := by
      simp [part, isAgg, run_underlying he, List.getD, List.getElem?_eq_getElem (show i < xs.length by omega)]
    have pe : (Op.equalIn (d + 1) e (.int .u8 (xs.getD i 0)) (.int .u8 (xs.getD i 0))).run P w = .ok true w := by
      rw [run_equalIn_int w d e .u8 .u8 _ _ he]
      simp
    simp only [List.forIn_cons, Sem.run_bind, px, pe, Result.andThen_ok]
    simpa using ih (fun j hj => hl j (by simp [hj]))
theorem eq_scells (S : St) (W : World) : (Op.equalIn 10000 27 (.agg (scells S)) (.agg (scells S))).run Tryd.prog W = .ok true W :=
  eq_row W 9998 27 5 32 Tryd.underlying27 Tryd.underlying5 (fun w => by
    obtain ⟨i0, hi, _⟩ := info_parts infoB
    have h := run_sizeOf w hi
    rw [show Tryd.prog.cellsOf 5 = 1 by kernel_rfl] at h
    exact h) (sumL S) rfl
end Go.Proofs.YtcanoegffffdfaaDoor.Sha
