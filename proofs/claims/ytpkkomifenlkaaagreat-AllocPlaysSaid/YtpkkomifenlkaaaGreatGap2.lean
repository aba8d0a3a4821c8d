/- gap: the methods of runs. -/
import Derived.Test.YtpkkomifenlkaaaGreatGap1
namespace Go.Proofs.YtpkkomifenlkaaaGreat.Gp
open Go Go.RowKit

def rc (l : List (Int × Int)) : List Value := l.flatMap fun x => [.int .u64 x.1, .int .u64 x.2]
theorem rc_len : ∀ l : List (Int × Int), (rc l).length = l.length * 2
  | [] => rfl
  | x :: l => by
    show (([_, _] : List Value) ++ rc l).length = _
    rw [List.length_append, rc_len l]
    simp
    omega
theorem rc_at : ∀ (l : List (Int × Int)) (i : Nat) (x : Int × Int), l[i]? = some x → (rc l)[i * 2]? = some (.int .u64 x.1) ∧ (rc l)[i * 2 + 1]? = some (.int .u64 x.2)
  | y :: l, 0, x, h => by
    have : y = x := by simpa using h
    subst this
    exact ⟨rfl, rfl⟩
  | y :: l, i + 1, x, h => by
    have h' : l[i]? = some x := by simpa using h
    have := rc_at l i x h'
    have e : (i + 1) * 2 = i * 2 + 2 := by omega
    rw [e]
    exact this
/-- an own heap of runs: nothing of it lies below block B -/
structure HpO (B : Nat) (W : World) (H : Nat) (v : Value) (l : List (Int × Int)) : Prop where
  box : W.heap[H]? = some (.cells #[v] THp (0, 0))
  low : B ≤ H
  row : W.ownsRow B TRn 2 v l.length (rc l)
  few : l.length ≤ 1000
theorem HpO.lt {B : Nat} {W : World} {H : Nat} {v : Value} {l : List (Int × Int)} (h : HpO B W H v l) : H < W.heap.size := (Array.getElem?_eq_some_iff.1 h.box).1
theorem row_is {B : Nat} {W : World} {g cap : Nat} {l : List (Int × Int)} (h : W.ownsRow B TRn 2 (.slice (some ⟨g, 0, none⟩) l.length cap) l.length (rc l)) : RowIs W g l := by
  rcases h.2 with ⟨h2, -⟩ | ⟨g', cap', cur, hv, hg, hh, h1, h2, h3, h4⟩
  · cases h2
  · injection hv with hv
    injection hv with hv
    injection hv with hv
    subst hv
    refine ⟨(Array.getElem?_eq_some_iff.1 hh).1, fun i x hx => ?_⟩
    have hi : i < l.length := (List.getElem?_eq_some_iff.1 hx).1
    have ⟨a, b⟩ := rc_at l i x hx
    rw [← h4] at a b
    rw [List.getElem?_take_of_lt (by omega)] at a b
    rw [Nat.zero_add]
    simp only [World.cell?, hh]
    exact ⟨by simpa using a, by simpa using b⟩
theorem HpO.is {B : Nat} {W : World} {H : Nat} {v : Value} {l : List (Int × Int)} (h : HpO B W H v l) : HpIs W H v l := by
  refine ⟨h.box, ?_⟩
  rcases h.row.2 with ⟨h2, h3⟩ | ⟨g, cap, cur, hv, hg, hh, h1, h2, h3, h4⟩
  · exact Or.inl ⟨h2, List.eq_nil_of_length_eq_zero h3⟩
  · have hr := h.row
    rw [hv] at hr
    exact Or.inr ⟨g, cap, hv, by have := h.few; omega, row_is hr⟩
set_option maxRecDepth 20000 in
theorem rlen_any (A : Option Addr) (n cap : Nat) (W : World) : Calls Tryz.prog 151 #[.slice A n cap] W fun e w' => e = .returned (.int .i64 (n : Int)) ∧ w' = W := by
  go_enter Tryz.func151, Tryz.ntmps151
  go_wp2
  go_ret
  exact ⟨rfl, rfl⟩
set_option maxRecDepth 20000 in
theorem less_any (g cap : Nat) (l : List (Int × Int)) (i j : Nat) (x y : Int × Int) (hx : l[i]? = some x) (hy : l[j]? = some y) (W : World) (hr : RowIs W g l) :
    Calls Tryz.prog 152 #[.slice (some ⟨g, 0, none⟩) l.length cap, .int .i64 (i : Int), .int .i64 (j : Int)] W fun e w' => e = .returned (.bool (decide (x.1 < y.1))) ∧ ∃ q, w' = W.drewN q := by
  have hi : i < l.length := (List.getElem?_eq_some_iff.1 hx).1
  have hj : j < l.length := (List.getElem?_eq_some_iff.1 hy).1
  have c0 : W.cell? ⟨g, i * 2, none⟩ = some (.int .u64 x.1) := by have := (hr.2 i x hx).1; rwa [Nat.zero_add] at this
  have c1 : W.cell? ⟨g, j * 2, none⟩ = some (.int .u64 y.1) := by have := (hr.2 j y hy).1; rwa [Nat.zero_add] at this
  clear hx hy hr
  go_enter Tryz.func152, Tryz.ntmps152
  go_wp2_with fail
  go_quiet (fail)
  go_wp2
  go_ret
  exact ⟨rfl, _, rfl⟩
set_option maxRecDepth 20000 in
theorem up0 (H : Nat) (W : World) : Calls Tryz.prog 100 #[.iface 129 (.pointer (some ⟨H, 0, none⟩)), .int .i64 0] W fun e w' => e = .returned (.tuple #[]) ∧ w' = W := by
  go_enter Tryz.func100, Tryz.ntmps100
  go_wp2
  refine wp_loop_rounds 1 ?_
  rw [rounds_succ]
  go_wp2
  go_end0
  exact ⟨rfl, rfl⟩
set_option maxRecDepth 20000 in
theorem loadv (H : Nat) (v : Value) (W : World) (h : W.cell? ⟨H, 0, none⟩ = some v) : (loadVar 110 ⟨H, 0, none⟩).run Tryz.prog W = .ok v W := by
  go_simp
theorem method_at {t : TypeId} {name : String} {m : Method} {v : Value} {f : FuncId} {b : Bool} (n : Nat) (W : World) (hm : (Tryz.prog.info? t).bind (fun i => i.methods.find? (·.name == name)) = some m) (hp : m.path = #[]) (hf : m.func = some (f, b)) :
    (method (n + 1) t v name).run Tryz.prog W = ((receiverAt t (.val v) b (some ((name.splitOn ".").getLastD name))).run Tryz.prog W).andThen fun r w' => .ok (f, r) w' := by
  cases hi : Tryz.prog.info? t with
  | none => rw [hi] at hm; cases hm
  | some i =>
    rw [hi] at hm
    have hm' : i.methods.find? (·.name == name) = some m := hm
    have ht : (typeInfo t).run Tryz.prog W = .ok i W := by
      unfold typeInfo
      rw [Sem.run_bind]
      show Result.andThen (.ok Tryz.prog W) _ = _
      rw [Result.andThen_ok, hi]
      rfl
    unfold method
    simp only [Sem.run_bind, ht, Result.andThen_ok, hm', hp, hf]
    simp [follow, Result.andThen_ok]
theorem recv_ptr (H : Nat) (name : String) (W : World) : (receiverAt 129 (.val (.pointer (some ⟨H, 0, none⟩))) true (some name)).run Tryz.prog W = .ok (.pointer (some ⟨H, 0, none⟩)) W := by
  unfold receiverAt
  simp only [Sem.run_bind, run_underlying Tryz.underlying129, Result.andThen_ok]
  rfl
set_option maxRecDepth 20000 in
theorem recv_val (H : Nat) (name : String) (v : Value) (W : World) (h : W.cell? ⟨H, 0, none⟩ = some v) : (receiverAt 129 (.val (.pointer (some ⟨H, 0, none⟩))) false (some name)).run Tryz.prog W = .ok v W := by
  have hl := loadv H v W h
  unfold receiverAt
  simp only [Sem.run_bind, run_underlying Tryz.underlying129, Result.andThen_ok]
  exact hl
noncomputable def mLen : Method := ((Tryz.prog.info? 129).bind (fun i => i.methods.find? (·.name == "Len"))).get (by kernel_rfl)
noncomputable def mLess : Method := ((Tryz.prog.info? 129).bind (fun i => i.methods.find? (·.name == "Less"))).get (by kernel_rfl)
noncomputable def mSwap : Method := ((Tryz.prog.info? 129).bind (fun i => i.methods.find? (·.name == "Swap"))).get (by kernel_rfl)
noncomputable def mPush : Method := ((Tryz.prog.info? 129).bind (fun i => i.methods.find? (·.name == "Push"))).get (by kernel_rfl)
noncomputable def mPop : Method := ((Tryz.prog.info? 129).bind (fun i => i.methods.find? (·.name == "Pop"))).get (by kernel_rfl)
theorem m_len (H : Nat) (v : Value) (W : World) (h : W.cell? ⟨H, 0, none⟩ = some v) : (method 302 129 (.pointer (some ⟨H, 0, none⟩)) "Len").run Tryz.prog W = .ok (151, v) W := by
  rw [method_at _ W (m := mLen) (f := 151) (b := false) (by kernel_rfl) (by kernel_rfl) (by kernel_rfl), recv_val H _ v W h]; rfl
theorem m_less (H : Nat) (v : Value) (W : World) (h : W.cell? ⟨H, 0, none⟩ = some v) : (method 302 129 (.pointer (some ⟨H, 0, none⟩)) "Less").run Tryz.prog W = .ok (152, v) W := by
  rw [method_at _ W (m := mLess) (f := 152) (b := false) (by kernel_rfl) (by kernel_rfl) (by kernel_rfl), recv_val H _ v W h]; rfl
theorem m_swap (H : Nat) (v : Value) (W : World) (h : W.cell? ⟨H, 0, none⟩ = some v) : (method 302 129 (.pointer (some ⟨H, 0, none⟩)) "Swap").run Tryz.prog W = .ok (153, v) W := by
  rw [method_at _ W (m := mSwap) (f := 153) (b := false) (by kernel_rfl) (by kernel_rfl) (by kernel_rfl), recv_val H _ v W h]; rfl
theorem m_push (H : Nat) (W : World) : (method 302 129 (.pointer (some ⟨H, 0, none⟩)) "Push").run Tryz.prog W = .ok (155, .pointer (some ⟨H, 0, none⟩)) W := by
  rw [method_at _ W (m := mPush) (f := 155) (b := true) (by kernel_rfl) (by kernel_rfl) (by kernel_rfl), recv_ptr H _ W]; rfl
theorem m_pop (H : Nat) (W : World) : (method 302 129 (.pointer (some ⟨H, 0, none⟩)) "Pop").run Tryz.prog W = .ok (154, .pointer (some ⟨H, 0, none⟩)) W := by
  rw [method_at _ W (m := mPop) (f := 154) (b := true) (by kernel_rfl) (by kernel_rfl) (by kernel_rfl), recv_ptr H _ W]; rfl
end Go.Proofs.YtpkkomifenlkaaaGreat.Gp
