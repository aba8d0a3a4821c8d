/- The page's shard: its block, its row; Find. -/
import Derived.Test.YtmdjhcpafjgigaaSnap
import Derived.Test.YtmdjhcpafjgigaaShardTell
import Derived.Test.YtmdjhcpafjgigaaEnSame
namespace Go.Proofs.Ytmdjhcpafjgigaa.Mk
open Go Go.RowKit Go.MuLone

abbrev TQ : Nat := 31
/-- the page's shard in block Q: its row is its own, behind Q -/
structure QI (V : World) (Q : Nat) (room : Int) (v : Value) (ls : List En) : Prop where
  box : V.heap[Q]? = some (.cells #[v, .int .i64 room] TQ (0, 0))
  row : V.ownsRow (Q + 1) TEn 5 v ls.length (ecs ls)
section
variable {V V' : World} {Q : Nat} {room : Int} {v : Value} {ls : List En}
theorem QI.lt (h : QI V Q room v ls) : Q < V.heap.size := (Array.getElem?_eq_some_iff.1 h.box).1
theorem QI.keep (h : QI V Q room v ls) (hb : ∀ k, Q ≤ k → k < V.heap.size → V'.heap[k]? = V.heap[k]?) : QI V' Q room v ls :=
  ⟨(hb Q (Nat.le_refl _) h.lt).trans h.box, own_keep5 h.row fun k h1 h2 => hb k (by omega) h2⟩
theorem QI.below (h : QI V Q room v ls) (hb : Below V.heap.size V V') : QI V' Q room v ls := h.keep fun k _ hk => hb.block k hk
theorem QI.alloc (h : QI V Q room v ls) (o : Obj) : QI (V.alloc o) Q room v ls := h.keep fun _ _ hk => Below.heap_alloc _ _ _ hk
theorem QI.drew (h : QI V Q room v ls) : QI V.drew Q room v ls := ⟨h.box, h.row⟩
theorem QI.drewN (h : QI V Q room v ls) (n : Nat) : QI (V.drewN n) Q room v ls := ⟨h.box, h.row⟩
theorem QI.form (h : QI V Q room v ls) : ∃ A c, v = .slice A ls.length c := by
  rcases h.row.2 with ⟨h1, h2⟩ | ⟨g, cap, cur, h1, _⟩
  · exact ⟨none, 0, by rw [h1, h2]⟩
  · exact ⟨_, _, h1⟩
theorem QI.rowE (h : QI V Q room v ls) : RowE (Q + 1) V v ls := rowE_of_own h.row
theorem QI.cell (h : QI V Q room v ls) : V.cell? ⟨Q, 0, none⟩ = some v ∧ V.cell? ⟨Q, 1, none⟩ = some (.int .i64 room) ∧ V.frozen? ⟨Q, 0, none⟩ = false :=
  ⟨cell_of_row V Q 0 _ _ (0, 0) h.box, cell_of_row V Q 1 _ _ (0, 0) h.box, by simp [World.frozen?, h.box]⟩
end
/-- where a key stands in the page's row -/
def qf (k : K3) (ls : List En) : Int := match ls.findIdx? (fun e => decide (e.k = k)) with
  | some i => (i : Int)
  | none => -1
theorem qf_some {k : K3} {ls : List En} {i : Nat} (hi : i < ls.length) (hk : ls[i].k = k) (hb : ∀ j, (h : j < i) → (ls[j]'(by omega)).k ≠ k) : qf k ls = (i : Int) := by
  have : ls.findIdx? (fun e => decide (e.k = k)) = some i := by
    rw [List.findIdx?_eq_some_iff_getElem]
    exact ⟨hi, by simpa using hk, fun j hj => by simpa using hb j hj⟩
  unfold qf; rw [this]
theorem qf_none {k : K3} {ls : List En} (hb : ∀ e ∈ ls, e.k ≠ k) : qf k ls = -1 := by
  have : ls.findIdx? (fun e => decide (e.k = k)) = none := by
    rw [List.findIdx?_eq_none_iff]
    intro e he; simpa using hb e he
  unfold qf; rw [this]
theorem qf_cases (k : K3) (ls : List En) : (qf k ls = -1 ∧ ∀ e ∈ ls, e.k ≠ k) ∨ ∃ (i : Nat) (h : i < ls.length), qf k ls = (i : Int) ∧ ls[i].k = k ∧ ∀ j, (h : j < i) → (ls[j]'(by omega)).k ≠ k := by
  unfold qf
  cases h : ls.findIdx? (fun e => decide (e.k = k)) with
  | none =>
    rw [List.findIdx?_eq_none_iff] at h
    exact Or.inl ⟨rfl, fun e he => by simpa using h e he⟩
  | some i =>
    rw [List.findIdx?_eq_some_iff_getElem] at h
    obtain ⟨hi, h1, h2⟩ := h
    exact Or.inr ⟨i, hi, rfl, by simpa using h1, fun j hj => by simpa using h2 j hj⟩
/-- a key that was laid into a box at the heap's end -/
structure KB (w V : World) (k : K3) : Prop where
  bel : Below w.heap.size w V
  c : V.cell? ⟨w.heap.size, 0, none⟩ = some (.int .i64 k.c)
  f : V.cell? ⟨w.heap.size, 1, none⟩ = some (.int .i64 k.f)
  s : V.cell? ⟨w.heap.size, 2, none⟩ = some (.int .u64 k.s)
theorem KB.new (w : World) (k : K3) : KB w (w.alloc (.cells #[.int .i64 k.c, .int .i64 k.f, .int .u64 k.s] 35)) k := by
  have h := heap_alloc_new w (.cells #[.int .i64 k.c, .int .i64 k.f, .int .u64 k.s] 35)
  exact ⟨(Below.refl _ _).alloc (Nat.le_refl _) _, cell_of_row _ _ 0 _ _ (0, 0) h, cell_of_row _ _ 1 _ _ (0, 0) h, cell_of_row _ _ 2 _ _ (0, 0) h⟩
theorem KB.drewN {w V : World} {k : K3} (h : KB w V k) (n : Nat) : KB w (V.drewN n) k := ⟨below_drewN h.bel n, h.c, h.f, h.s⟩
theorem KB.size {w V : World} {k : K3} (h : KB w V k) : w.heap.size < V.heap.size := World.block_lt_of_cell? _ _ h.c
theorem KB.below {w V V' : World} {k : K3} (h : KB w V k) (hb : Below V.heap.size V V') : KB w V' k := by
  have e : ∀ o, V'.cell? ⟨w.heap.size, o, none⟩ = V.cell? ⟨w.heap.size, o, none⟩ := fun o => hb.cell (p := ⟨w.heap.size, o, none⟩) h.size
  exact ⟨h.bel.trans (hb.mono (Nat.le_of_lt h.size)), (e _).trans h.c, (e _).trans h.f, (e _).trans h.s⟩
set_option maxRecDepth 20000 in
set_option maxHeartbeats 1000000 in
theorem find_any (Q : Nat) (room : Int) (v : Value) (ls : List En) (k : K3) (w : World) (h : QI w Q room v ls) (hn : ls.length ≤ 1000) :
    Calls Try.prog 14 #[.pointer (some ⟨Q, 0, none⟩), k.val] w fun e w' => e = .returned (.int .i64 (qf k ls)) ∧ Below w.heap.size w w' := by
  have HK := Lib.hid (KB.new w k)
  have HQ := Lib.hid (h.alloc (.cells #[.int .i64 k.c, .int .i64 k.f, .int .u64 k.s] 35))
  obtain ⟨A, c, rfl⟩ := h.form
  clear h
  obtain ⟨n, hnd⟩ : ∃ n, n = ls.length := ⟨_, rfl⟩
  have HN : Hid (n = ls.length) := hnd
  rw [← hnd] at hn HQ
  clear hnd
  obtain ⟨kc, kf, ks⟩ := k
  unfold K3.val
  dsimp only at HK HQ
  go_enter Try.func14, Try.ntmps14
  go_upto_region 2 with fail
  generalize w.alloc (.cells #[.int .i64 kc, .int .i64 kf, .int .u64 ks] 35) = W1 at HK HQ ⊢
  go_loopw [5] (fun i wr => ∃ j : Nat, i = .int .i64 (j : Int) ∧ j ≤ n ∧ Hid (∀ q, (h : q < j) → (h2 : q < ls.length) → (ls[q]'h2).k ≠ ⟨kc, kf, ks⟩) ∧ ∃ q, wr = W1.drewN q) (fun i _ => n - (intOf i).toNat)
  case atStart => exact ⟨0, rfl, Nat.zero_le _, fun q h => by omega, 0, rfl⟩
  case round =>
    obtain ⟨j, rfl, hj, HB, q, rfl⟩ := hrel
    have q0 := HQ.out.cell.1
    by_cases hlt : j < n
    · obtain ⟨g, c1, hv, _, _, he⟩ := HQ.out.rowE.at j (by have := HN.out; omega)
      injection hv with hv _ hv2
      subst hv hv2
      have HC : Hid (((ls[j]'(by have := HN.out; omega)).k = ⟨kc, kf, ks⟩ ∧ qf ⟨kc, kf, ks⟩ ls = (j : Int)) ∨ ((ls[j]'(by have := HN.out; omega)).k ≠ ⟨kc, kf, ks⟩ ∧ ∀ q, (h : q < j + 1) → (h2 : q < ls.length) → (ls[q]'h2).k ≠ ⟨kc, kf, ks⟩)) := by
        show _ ∨ _
        by_cases heq : (ls[j]'(by have := HN.out; omega)).k = ⟨kc, kf, ks⟩
        · exact Or.inl ⟨heq, qf_some (by have := HN.out; omega) heq fun q hq => HB.out q hq _⟩
        · refine Or.inr ⟨heq, fun q hq h2 => ?_⟩
          rcases Nat.lt_or_ge q j with h | h
          · exact HB.out q h h2
          · obtain rfl : q = j := by omega
            exact heq
      obtain ⟨-, k0, k1, k2⟩ := HK.out
      generalize ls[j]'(by have := HN.out; omega) = m at he HC
      obtain ⟨⟨mc, mf, ms⟩, st, ow⟩ := m
      obtain ⟨e0, e1, e2, -, -⟩ := he
      dsimp only at k0 k1 k2 e0 e1 e2 HC
      have hne := fun W => eql_key ⟨mc, mf, ms⟩ ⟨kc, kf, ks⟩ W
      unfold K3.val at hne
      have hi0 : (0 : Int) ≤ (j : Int) := by omega
      have hi1 : (j : Int) < (n : Int) := by omega
      rcases HC.out with ⟨heq, hqf⟩ | ⟨heq, hall⟩
      · have HF : Hid (qf ⟨kc, kf, ks⟩ ls = (j : Int)) := hqf
        simp only [heq, decide_true] at hne
        clear heq hqf HC
        go_wp2
        go_quiet (fail)
        go_wp2
        go_ret
        exact ⟨by rw [HF.out]; first | rfl | trivial, below_drewN (below_drewN HK.out.bel _) _⟩
      · have HA := Lib.hid hall
        simp only [heq, decide_false] at hne
        clear heq hall HC
        go_wp2
        go_quiet (fail)
        go_wp2
        go_roundw
        case rel => exact ⟨j + 1, by go_num, by omega, HA.out, _, rfl⟩
        case measure => simp [intOf]; omega
    · obtain rfl : j = n := by omega
      have HF : Hid (qf ⟨kc, kf, ks⟩ ls = -1) := qf_none fun e he => by
        obtain ⟨i, hi, rfl⟩ := List.getElem_of_mem he
        exact HB.out i (by have := HN.out; omega) hi
      go_wp2
      go_ret
      exact ⟨by rw [HF.out]; first | rfl | trivial, below_drewN HK.out.bel _⟩
end Go.Proofs.Ytmdjhcpafjgigaa.Mk
