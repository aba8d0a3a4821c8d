/- errors.Is at an error of a number, or of a text, that places wrap; fault.ends, fault.At, fault.Of. -/
import Derived.Test.YtlbgniiecbohcaaDoorErrs
namespace Go.Proofs.YtlbgniiecbohcaaDoor.Errs
open Go.RowKit Go.Extern.Stop Go.Stop Go.Extern

def Base.is : Base → Int → Bool
  | .num c, k => c == k
  | .text _, _ => false

set_option maxHeartbeats 1000000 in
theorem is_loop (l : List Int) (b : Base) (v : Value) (k : Int) (w : World) (h : Ch w l b v) (hl : l.length ≤ 1000) :
    Calls Tryd.prog 28 #[v, .iface 22 (.int .i64 k), .bool true] w fun e w' => e = .returned (.bool (b.is k)) ∧ w' = w := by
  have a1 := noIsF
  have a2 := noIsE
  have a3 := noIsS
  have a4 := hasUn
  have a5 := noUnE
  have a6 := noUnS
  have a7 := noUnsE
  have a8 := noUnsS
  have a9 := methodUnwrap
  have b1 := eqE
  have b2 := eqF
  have b3 := eqS
  go_enter Tryd.func28, Tryd.ntmps28
  go_wp2
  go_loopw [0] (fun u wr => Hid (wr = w) ∧ ∃ l', Ch w l' b u ∧ l'.length ≤ 1000) (fun u wr => depth wr 1000 u)
  case atStart => exact ⟨Lib.hid rfl, l, h, hl⟩
  case round =>
    obtain ⟨hw, l', hc, hl'⟩ := hrel
    obtain rfl := hw.out
    clear hw
    have hd := Lib.hid (depth_of 1000 hc hl')
    cases l' with
    | nil =>
      obtain rfl : _ = b.val := hc
      cases b with
      | num c =>
        dsimp only [Base.val]
        by_cases hck : c = k
        · subst hck
          go_wp2
          go_ret
          exact ⟨by simp [Base.is], rfl⟩
        · have hf : (c == k) = false := by simpa using hck
          go_wp2
          go_ret
          exact ⟨by simp [Base.is, hf], rfl⟩
      | text a =>
        dsimp only [Base.val]
        go_wp2
        go_ret
        exact ⟨rfl, rfl⟩
    | cons x l' =>
      obtain ⟨p, u, rfl, hp, h0, h1, h2⟩ := hc
      have hd2 := Lib.hid (depth_of 1000 h2 (by simp at hl'; omega))
      cases l' with
      | nil =>
        obtain rfl : u = b.val := h2
        cases b with
        | num c =>
          dsimp only [Base.val] at h1
          go_wp2
          exact ⟨⟨Lib.hid (by simp), [], rfl, by simp⟩, by rw [hd.out]; exact Nat.lt_of_le_of_lt (Nat.le_of_eq hd2.out) (by simp)⟩
        | text a =>
          dsimp only [Base.val] at h1
          go_wp2
          exact ⟨⟨Lib.hid (by simp), [], rfl, by simp⟩, by rw [hd.out]; exact Nat.lt_of_le_of_lt (Nat.le_of_eq hd2.out) (by simp)⟩
      | cons y l'' =>
        obtain ⟨p2, u2, rfl, hp2, h02, h12, h22⟩ := h2
        go_wp2
        exact ⟨⟨Lib.hid (by simp), y :: l'', ⟨p2, u2, rfl, hp2, h02, h12, h22⟩, by simp at hl' ⊢; omega⟩, by rw [hd.out]; exact Nat.lt_of_le_of_lt (Nat.le_of_eq hd2.out) (by simp)⟩

/-! ### reflectlite at the target -/
theorem typeOfE (v : Value) (w : World) : (Extern.ReflectliteType.typeOf #[.iface 22 v]).run Tryd.prog w = .ok (.iface 79 (.agg #[.pointer (some ⟨1, 22, none⟩)])) w := by kernel_rfl
theorem comparableE (w : World) : ((Extern.ReflectliteType.method fun t => do Extern.Rtype.noPackHeld "Comparable" t; (fun a => Value.bool a.comparable) <$> typeInfo t) #[.agg #[.pointer (some ⟨1, 22, none⟩)]]).run Tryd.prog w = .ok (.bool true) w := by kernel_rfl
theorem methodComparable (h : Value) (w : World) : (Go.method 222 79 h "Comparable").run Tryd.prog w = .ok (60, h) w := by kernel_rfl

set_option maxRecDepth 20000 in
/-- errors.Is of a number. -/
theorem is_any (l : List Int) (b : Base) (v : Value) (k : Int) (w : World) (h : Ch w l b v) (hl : l.length ≤ 1000) :
    Calls Tryd.prog 14 #[v, .iface 22 (.int .i64 k)] w fun e w' => e = .returned (.bool (b.is k)) ∧ w' = w := by
  have c1 := @run_callFunc_extern Tryd.prog 27 _ Extern.ReflectliteType.typeOf Tryd.func27 (by kernel_rfl) (by kernel_rfl) (by kernel_rfl) (by kernel_rfl)
  have c2 := @run_callFunc_extern Tryd.prog 60 _ (Extern.ReflectliteType.method fun t => do Extern.Rtype.noPackHeld "Comparable" t; pure (.bool (← typeInfo t).comparable)) Tryd.func60 (by kernel_rfl) (by kernel_rfl) (by kernel_rfl) (by kernel_rfl)
  have c3 := typeOfE
  have c4 := comparableE
  have c5 := methodComparable
  have HI := Lib.hid (is_loop l b v k w h hl)
  cases l with
  | nil =>
    obtain rfl : v = b.val := h
    cases b with
    | num c =>
      dsimp only [Base.val] at HI ⊢
      go_enter Tryd.func14, Tryd.ntmps14
      go_wp2_with (first | (go_at_call 28; refine HI.out.mono ?_; rintro e w' ⟨rfl, rfl⟩) | go_in)
      go_ret
      exact ⟨rfl, rfl⟩
    | text a =>
      dsimp only [Base.val] at HI ⊢
      go_enter Tryd.func14, Tryd.ntmps14
      go_wp2_with (first | (go_at_call 28; refine HI.out.mono ?_; rintro e w' ⟨rfl, rfl⟩) | go_in)
      go_ret
      exact ⟨rfl, rfl⟩
  | cons x l =>
    obtain ⟨p, u, rfl, _⟩ := h
    go_enter Tryd.func14, Tryd.ntmps14
    go_wp2_with (first | (go_at_call 28; refine HI.out.mono ?_; rintro e w' ⟨rfl, rfl⟩) | go_in)
    go_ret
    exact ⟨rfl, rfl⟩

set_option maxHeartbeats 1000000 in
/-- It ends. -/
theorem ends_any (l : List Int) (b : Base) (v : Value) (w : World) (h : Ch w l b v) (hl : l.length ≤ 1000) :
    Calls Tryd.prog 22 #[v] w fun e w' => e = .returned (.bool true) ∧ w' = w := by
  go_enter Tryd.func22, Tryd.ntmps22
  go_wp2
  go_loopw [0, 3] (fun u i wr => Hid (wr = w) ∧ ∃ k : Nat, i = .int .i64 (k : Int) ∧ ((∃ l', Ch w l' b u ∧ l'.length + k = l.length) ∨ (u = .nilIface ∧ k = l.length + 1))) (fun _ i _ => 2000 - (intOf i).toNat)
  case atStart => exact ⟨Lib.hid rfl, 0, rfl, Or.inl ⟨l, h, rfl⟩⟩
  case round =>
    obtain ⟨hw, k, rfl, hk⟩ := hrel
    obtain rfl := hw.out
    clear hw
    rcases hk with ⟨l', hc, hk'⟩ | ⟨rfl, hk'⟩
    · have hk := Lib.hid hk'
      have h1 : (k : Int) < 131072 := by omega
      have h2 : (0 : Int) ≤ (k : Int) := by omega
      have h3 : wrap64 ((k : Int) + 1) = (k : Int) + 1 := IntWalk.wrap64_in _ ⟨by omega, by omega⟩
      have hL := Lib.hid hl
      clear hk' hl h
      cases l' with
      | nil =>
        have HU := Lib.hid (unwrap_base b wr)
        obtain rfl : _ = b.val := hc
        cases b with
        | num c =>
          dsimp only [Base.val] at HU ⊢
          go_wp2_with (go_at_call 29; refine HU.out.mono ?_; rintro e w' ⟨rfl, rfl⟩)
          exact ⟨⟨Lib.hid (by simp), k + 1, by go_num, Or.inr ⟨rfl, by have := hk.out; simp at this; omega⟩⟩, by have hz := hL.out; have := hk.out; simp at this; simp [intOf]; omega⟩
        | text a =>
          dsimp only [Base.val] at HU ⊢
          go_wp2_with (go_at_call 29; refine HU.out.mono ?_; rintro e w' ⟨rfl, rfl⟩)
          exact ⟨⟨Lib.hid (by simp), k + 1, by go_num, Or.inr ⟨rfl, by have := hk.out; simp at this; omega⟩⟩, by have hz := hL.out; have := hk.out; simp at this; simp [intOf]; omega⟩
      | cons x l' =>
        have HU := Lib.hid (unwrap_cons hc)
        obtain ⟨p, u, rfl, _⟩ := hc
        go_wp2_with (go_at_call 29; refine HU.out.mono ?_; rintro e w' ⟨u2, rfl, rfl, hc2⟩)
        exact ⟨⟨Lib.hid (by simp), k + 1, by go_num, Or.inl ⟨l', hc2, by have := hk.out; simp at this; omega⟩⟩, by have hz := hL.out; have := hk.out; simp at this; simp [intOf]; omega⟩
    · have h1 : (k : Int) < 131072 := by omega
      clear hk' hl h
      go_wp2
      go_ret
      exact ⟨rfl, rfl⟩

theorem at_any (x : Int) (l : List Int) (b : Base) (v : Value) (w : World) (h : Ch w l b v) :
    Calls Tryd.prog 16 #[.int .i64 x, v] w fun e w' => ∃ u, e = .returned u ∧ Ch w' (x :: l) b u ∧ Below w.heap.size w w' := by
  have hf : ∀ (u : Value), Ch w l b u → Ch (w.alloc (.cells #[.int .i64 x, u] 52)) (x :: l) b (fv w.heap.size) ∧ Below w.heap.size w (w.alloc (.cells #[.int .i64 x, u] 52)) := fun u hu =>
    have hb : Below w.heap.size w (w.alloc (.cells #[.int .i64 x, u] 52)) := (Below.refl _ _).alloc (Nat.le_refl _) _
    ⟨⟨w.heap.size, u, rfl, by simp, cell_of_row _ _ 0 _ _ (0, 0) (heap_alloc_new w _), cell_of_row _ _ 1 _ _ (0, 0) (heap_alloc_new w _), hu.below hb⟩, hb⟩
  have hff := hf v h
  cases l with
  | nil =>
    obtain rfl : v = b.val := h
    cases b with
    | num c =>
      dsimp only [Base.val] at hff ⊢
      go_enter Tryd.func16, Tryd.ntmps16
      go_wp2
      go_ret
      exact ⟨_, rfl, hff⟩
    | text a =>
      dsimp only [Base.val] at hff ⊢
      go_enter Tryd.func16, Tryd.ntmps16
      go_wp2
      go_ret
      exact ⟨_, rfl, hff⟩
  | cons y l =>
    obtain ⟨p, u, rfl, _⟩ := h
    go_enter Tryd.func16, Tryd.ntmps16
    go_wp2
    go_ret
    exact ⟨_, rfl, hff⟩
theorem at_nil (x : Int) (w : World) : Calls Tryd.prog 16 #[.int .i64 x, .nilIface] w fun e w' => e = .returned .nilIface ∧ w' = w := by
  go_enter Tryd.func16, Tryd.ntmps16
  go_wp2
  go_ret
  exact ⟨rfl, rfl⟩

end Go.Proofs.YtlbgniiecbohcaaDoor.Errs
