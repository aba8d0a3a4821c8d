/- 'FnvShards' holds for every input, with no condition: in which shard any key stands. -/
import Derived.Test.YtoojifhaaglljaaFnvKey
import Derived.OpenShut
import Derived.ProofKit
import Derived.Lib.SmallJoins
namespace Go.Proofs.Ytoojifhaaglljaa.fnvShards
open Go.RowKit Fnv

set_option maxRecDepth 20000 in
set_option maxHeartbeats 2000000 in
theorem walk_low (c f q n : Int) (h0 : 0 ≤ q) (h1 : q < 18446744073709551616) (hn : n < 1) (w : World) :
    Calls Try.prog 4 #[.agg #[.int .i64 c, .int .i64 f, .int .u64 q], .int .i64 n] w fun e w' => e = .returned (.bool true) ∧ Below w.heap.size w w' := by
  have k2 := add_run Try.prog
  have k3 := add_run3 Try.prog
  have hk : (keyH c f q != fold 14695981039346656037 ((kS (IntKind.u64.wrap c)).data.toList ++ ((kS (IntKind.u64.wrap f)).data.toList ++ (kS q).data.toList))) = false := by simp [keyH]
  have H1 := Lib.hid h1; clear h1
  go_enter Try.func4, Try.ntmps4
  go_wp2_with (go_at_call 19; ((with_reducible refine (shard_none _ _ _ _ hn _).mono ?_); rintro e w0 ⟨rfl, hb0⟩; have hx0 := Box3.call (Box3.new _ _ _ _ _) hb0))
  go_region_held3 (fun w' => w.heap.size < w'.heap.size ∧ Below w.heap.size w w' ∧ w'.cell? ⟨w.heap.size, 0, none⟩ = some (.int .i64 c) ∧ w'.cell? ⟨w.heap.size, 1, none⟩ = some (.int .i64 f) ∧ w'.cell? ⟨w.heap.size, 2, none⟩ = some (.int .u64 q))
    (first | assumption | exact Box3.drew (by assumption) | exact Box3.call (by assumption) hb1 | exact Box3.call (Box3.drew (by assumption)) hb1)
    (first
      | (go_at_call 20; ((with_reducible refine (key_any _ _ _ h0 H1.out _).mono ?_); rintro e w1 ⟨rfl, hb1⟩))
      | (go_at_call 17; ((with_reducible refine (ref_more_any _ _ _ (kS_all _ _ _)).mono ?_); rintro e w1 ⟨rfl, rfl⟩))
      | (go_at_call 21; ((with_reducible refine (ref_num_int _ (by first | exact u64_lo _ | exact h0) (by first | exact u64_hi _ | exact H1.out) _).mono ?_); rintro e w1 ⟨rfl, hb1⟩)))
  go_wp2_with (go_at_call 15; ((with_reducible refine (awake_any _).mono ?_); rintro e w1 ⟨rfl, rfl⟩))
  go_ret
  obtain ⟨_, hB, _⟩ : _ ∧ Below w.heap.size w w1 ∧ _ := by assumption
  exact ⟨rfl, hB⟩

set_option maxRecDepth 20000 in
set_option maxHeartbeats 2000000 in
theorem walk_high (c f q n : Int) (h0 : 0 ≤ q) (h1 : q < 18446744073709551616) (hn : 1 ≤ n) (hn1 : n ≤ 9223372036854775807) (w : World) :
    Calls Try.prog 4 #[.agg #[.int .i64 c, .int .i64 f, .int .u64 q], .int .i64 n] w fun e w' => e = .returned (.bool true) ∧ Below w.heap.size w w' := by
  have k2 := add_run Try.prog
  have k3 := add_run3 Try.prog
  have hk : (keyH c f q != fold 14695981039346656037 ((kS (IntKind.u64.wrap c)).data.toList ++ ((kS (IntKind.u64.wrap f)).data.toList ++ (kS q).data.toList))) = false := by simp [keyH]
  have hge : 0 ≤ keyH c f q % n := Int.emod_nonneg _ (by omega)
  have hlt : keyH c f q % n < n := Int.emod_lt_of_pos _ (by omega)
  have H1 := Lib.hid h1; clear h1
  go_enter Try.func4, Try.ntmps4
  go_wp2_with (go_at_call 19; ((with_reducible refine (shard_any _ _ _ _ h0 H1.out hn hn1 _).mono ?_); rintro e w0 ⟨rfl, hb0⟩; have hx0 := Box3.call (Box3.new _ _ _ _ _) hb0))
  go_region_held3 (fun w' => w.heap.size < w'.heap.size ∧ Below w.heap.size w w' ∧ w'.cell? ⟨w.heap.size, 0, none⟩ = some (.int .i64 c) ∧ w'.cell? ⟨w.heap.size, 1, none⟩ = some (.int .i64 f) ∧ w'.cell? ⟨w.heap.size, 2, none⟩ = some (.int .u64 q))
    (first | assumption | exact Box3.drew (by assumption) | exact Box3.call (by assumption) hb1 | exact Box3.call (Box3.drew (by assumption)) hb1)
    (first
      | (go_at_call 20; ((with_reducible refine (key_any _ _ _ h0 H1.out _).mono ?_); rintro e w1 ⟨rfl, hb1⟩))
      | (go_at_call 17; ((with_reducible refine (ref_more_any _ _ _ (kS_all _ _ _)).mono ?_); rintro e w1 ⟨rfl, rfl⟩))
      | (go_at_call 21; ((with_reducible refine (ref_num_int _ (by first | exact u64_lo _ | exact h0) (by first | exact u64_hi _ | exact H1.out) _).mono ?_); rintro e w1 ⟨rfl, hb1⟩)))
  obtain ⟨hz, hB, hc0, hc1, hc2⟩ : _ ∧ Below w.heap.size w w1 ∧ _ ∧ _ ∧ _ := by assumption
  go_wp2_with (first
    | (go_at_call 15; ((with_reducible refine (awake_any _).mono ?_); rintro e w2 ⟨rfl, rfl⟩))
    | (go_at_call 22; ((with_reducible refine (ref_shard_any _ _ _ _ h0 H1.out hn hn1 _).mono ?_); rintro e w3 ⟨rfl, hb3⟩)))
  go_ret
  exact ⟨rfl, hB.trans (hb3.mono (Nat.le_of_lt hz))⟩

section
open Go.Joins Go.ChangeShapes Go.WideShapes
set_option maxRecDepth 100000 in
theorem walk {H : Type} {enc : TypeId × Value → H} {spare : Nat → Bool} {held : Bool} {w : World} {base : Nat} {v : Value} {d : DataW H} {p : List MemPlace}
    (ok : Value.okWide Try.prog w .any base 29 v) (h : DataW.Trod enc Try.prog w 0 spare held 29 v d p) (n : Int) (wn : (Lit.int .i64 n).wf = true) :
    Calls Try.prog 4 #[v, .int .i64 n] w fun e w' => e = .returned (.bool true) ∧ Below w.heap.size w w' := by
  obtain ⟨c0, c1, c2, y0, y1, y2, m, rfl, rfl, rfl, hy0, hy1, hy2⟩ := open_agg3 Try.underlying29 (by kernel_rfl) (by kernel_rfl) ok h
  obtain ⟨a, e0, rfl, wa⟩ := DataW.trod_int Try.underlying3 hy0
  obtain ⟨b, e1, rfl, wb⟩ := DataW.trod_int Try.underlying3 hy1
  obtain ⟨q, e2, rfl, wq⟩ := DataW.trod_int Try.underlying23 hy2
  simp at e0 e1 e2
  subst e0 e1 e2
  have hq := bounds_u64 wq
  have hn := bounds_i64 wn
  by_cases h1 : n < 1
  · exact walk_low _ _ _ _ hq.1 (by omega) h1 w
  · exact walk_high _ _ _ _ hq.1 (by omega) (by omega) hn.2 w
end
end Go.Proofs.Ytoojifhaaglljaa.fnvShards
