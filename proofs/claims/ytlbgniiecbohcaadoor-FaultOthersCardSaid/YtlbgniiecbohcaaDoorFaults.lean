/- fault's own iterator over the faults that are wrapped in one another. -/
import Derived.Test.YtlbgniiecbohcaaDoorRound
namespace Go.Proofs.YtlbgniiecbohcaaDoor.Errs
open Go Go.RowKit Go.Shelf Go.Extern.Stop Go.Stop Go.Extern
attribute [local go_sem] Oper.semAt_some

theorem toFE (v : Value) (xT : TypeId) (w : World) : (Instr.typeAssert (.iface 22 v) xT 39 true).run Tryd.prog w = .ok (.tuple #[.pointer none, .bool false]) w := by kernel_rfl
theorem toFS (v : Value) (xT : TypeId) (w : World) : (Instr.typeAssert (.iface 59 v) xT 39 true).run Tryd.prog w = .ok (.tuple #[.pointer none, .bool false]) w := by kernel_rfl
theorem toFF (v : Value) (xT : TypeId) (w : World) : (Instr.typeAssert (.iface 39 v) xT 39 true).run Tryd.prog w = .ok (.tuple #[v, .bool true]) w := by kernel_rfl

/-- A fault: where it lies, and its place. -/
abbrev El (w : World) := { q : Nat × Int // q.1 < w.heap.size ∧ w.cell? ⟨q.1, 0, none⟩ = some (.int .i64 q.2) }

set_option maxRecDepth 100000 in
set_option maxHeartbeats 1000000 in
theorem faults_iter (n : Nat) (hn : 1 ≤ n) (w w' : World) (l : List Int) (b : Base) (v : Value) (Bn : Nat) (hch : Ch w l b v) (hl : l.length ≤ 1000)
    (hBn : w'.cell? ⟨Bn, 0, none⟩ = some v) (hlt : Bn < w'.heap.size) (J : List (El w) → World → Prop)
    (hJb : ∀ pre W, J pre W → Below w.heap.size w W ∧ (∃ q, W.cell? ⟨Bn, 0, none⟩ = some q) ∧ W.frozen? ⟨Bn, 0, none⟩ = false)
    (hJs : ∀ pre W u, J pre W → J pre (W.setCell ⟨Bn, 0, none⟩ u)) :
    Iter Fence.wide n Tryd.prog 34 #[.pointer (some ⟨Bn, 0, none⟩)] (fun x : El w => #[.pointer (some ⟨x.1.1, 0, none⟩)]) J (fun xs => xs.map (fun x => x.1.2) = l) l.length w' := by
  have t1 := toFE
  have t2 := toFS
  have t3 := toFF
  intro k W1 R hB1 hR hY h0 hr0
  have hc1 : W1.cell? ⟨Bn, 0, none⟩ = some v := (hB1.cell (p := ⟨Bn, 0, none⟩) hlt).trans hBn
  refine callsIn_of_wp Tryd.func34 rfl trivial ?_
  simp only [Tryd.ntmps34, List.size_toArray, List.length_cons, List.length_nil, Nat.reduceAdd, Nat.reduceSub, Array.replicate_succ, Array.replicate_zero, List.push_toArray, List.append_toArray, List.nil_append, List.cons_append]
  gi_wp2
  gi_loopw [3] (fun _ wr => ∃ (pre : List (El w)) (rest : List Int) (u : Value), Hid (pre.map (fun x => x.1.2) ++ rest = l) ∧ Hid (Ch w rest b u ∧ J pre wr ∧ R wr) ∧ wr.cell? ⟨Bn, 0, none⟩ = some u)
    (fun _ wr => match wr.cell? ⟨Bn, 0, none⟩ with | some u => depth w 1000 u | none => 0)
  case atStart => exact ⟨[], l, v, Lib.hid rfl, Lib.hid ⟨hch, h0, hr0⟩, hc1⟩
  case round =>
    obtain ⟨pre, rest, u, hp, hx, hc⟩ := hrel
    cases rest with
    | nil =>
      obtain rfl : u = b.val := hx.out.1
      cases b with
      | num c =>
        dsimp only [Base.val] at hc ⊢
        gi_wp2
        refine ⟨fun _ h => (by cases h), ?_⟩
        gi_wp2
        refine bodyPost_ret (results_none rfl _ _ _) rfl ?_
        exact ⟨⟨_, rfl⟩, pre, by have := hp.out; simpa using this, hx.out.2⟩
      | text c =>
        dsimp only [Base.val] at hc ⊢
        gi_wp2
        refine ⟨fun _ h => (by cases h), ?_⟩
        gi_wp2
        refine bodyPost_ret (results_none rfl _ _ _) rfl ?_
        exact ⟨⟨_, rfl⟩, pre, by have := hp.out; simpa using this, hx.out.2⟩
    | cons y rest =>
      obtain ⟨hxc, hJp, hRp⟩ := hx.out
      have hd := Lib.hid (depth_of 1000 hxc (by have := congrArg List.length hp.out; simp at this ⊢; omega))
      obtain ⟨p, u2, rfl, hpl, hp0, hp1, h2⟩ := hxc
      have hd2 := Lib.hid (depth_of 1000 h2 (by have := congrArg List.length hp.out; simp at this ⊢; omega))
      obtain ⟨fn, tmps, assign, body, hy, hRd⟩ := hY pre ⟨(p, y), hpl, hp0⟩ wr hJp hRp (by have := congrArg List.length hp.out; simp at this ⊢; omega)
      dsimp only at hy
      have HD := Lib.hid hRd
      obtain ⟨tt, zz, rfl⟩ := h2.iface
      have H2 := Lib.hid h2
      have HP := Lib.hid (And.intro hpl hp1)
      clear hRd h2 hp1
      gi_wp2
      refine HD.out.mono ?_
      rintro e W3 ⟨rfl, hJ3, hR3⟩
      obtain ⟨hB3, ⟨q, hq⟩, hf⟩ := hJb _ _ hJ3
      have hp13 := (hB3.cell (p := ⟨p, 1, none⟩) HP.out.1).trans HP.out.2
      have HR3 := Lib.hid (And.intro (hJs _ _ (.iface tt zz) hJ3) (hR _ _ hR3 (KeepsOthers.setCell W3 ⟨Bn, 0, none⟩ (.iface tt zz))))
      have HC := Lib.hid (show (W3.setCell ⟨Bn, 0, none⟩ (.iface tt zz)).cell? ⟨Bn, 0, none⟩ = some (.iface tt zz) from World.cell?_setCell_same' _ _ _ (by rw [hq]; rfl))
      clear hJ3 hR3 hB3
      gi_wp2
      go_roundw
      case rel => exact ⟨pre ++ [⟨(p, y), hpl, hp0⟩], rest, _, Lib.hid (by rw [List.map_append]; simpa using hp.out), Lib.hid ⟨H2.out, HR3.out⟩, HC.out⟩
      case measure =>
        rw [HC.out, hc]
        show depth w 1000 _ < depth w 1000 _
        rw [hd.out, hd2.out]
        simp

end Go.Proofs.YtlbgniiecbohcaaDoor.Errs
