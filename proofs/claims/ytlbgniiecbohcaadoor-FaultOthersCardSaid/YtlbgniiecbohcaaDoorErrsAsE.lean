/- errors.As at a target of a number: what of an error of a number, or of a text, that places wrap. -/
import Derived.Test.YtlbgniiecbohcaaDoorErrsAs
namespace Go.Proofs.YtlbgniiecbohcaaDoor.Errs
open Go.RowKit Go.Extern.Stop Go.Stop Go.Extern

def Base.isNum : Base → Bool
  | .num _ => true
  | .text _ => false
/-- What the loop leaves: its own box, and of a number the box of it, and the target. -/
def Base.setE (a t : Addr) (w : World) : Base → World
  | .num c => ((w.alloc (.cells #[.pointer (some ⟨1, 47, none⟩), .pointer (some a), .int .u64 150] 68)).alloc (.cells #[.int .i64 c] 22)).setCell t (.int .i64 c)
  | .text _ => w.alloc (.cells #[.pointer (some ⟨1, 47, none⟩), .pointer (some a), .int .u64 150] 68)

set_option maxHeartbeats 4000000 in
theorem as_loopE (l : List Int) (b : Base) (v : Value) (w : World) (a t : Addr) (old : Value) (h : Ch w l b v) (hl : l.length ≤ 1000)
    (ha : w.cell? a = some (.pointer (some t))) (hta : w.cell? t = some old) (hfz : w.frozen? t = false) :
    Calls Tryd.prog 33 #[v, .iface 47 (.pointer (some t)), .agg #[.pointer (some ⟨1, 47, none⟩), .pointer (some a), .int .u64 150], .iface 79 (.agg #[.pointer (some ⟨1, 22, none⟩)])] w
      fun e w' => e = .returned (.bool b.isNum) ∧ w' = b.setE a t w := by
  have h6 := @run_callFunc_extern Tryd.prog 30 _ (fun args => ReflectliteValue.unpack (args.getD 0 (.tuple #[]))) Tryd.func30 (by kernel_rfl) (by kernel_rfl) (by kernel_rfl) (by kernel_rfl)
  have h10 := @run_callFunc_extern Tryd.prog 27 _ ReflectliteType.typeOf Tryd.func27 (by kernel_rfl) (by kernel_rfl) (by kernel_rfl) (by kernel_rfl)
  have h35 := @run_callFunc_extern Tryd.prog 59 _ (ReflectliteType.relation "AssignableTo" ReflectliteType.assignableTo) Tryd.func59 (by kernel_rfl) (by kernel_rfl) (by kernel_rfl) (by kernel_rfl)
  have h11 := @run_callFunc_extern Tryd.prog 35 _ (ReflectliteValue.method (ReflectliteValue.valueError "reflectlite.Value.Elem" 0) ReflectliteValue.elem) Tryd.func35 (by kernel_rfl) (by kernel_rfl) (by kernel_rfl) (by kernel_rfl)
  have h12 := @run_callFunc_extern Tryd.prog 36 _ ReflectliteValue.set Tryd.func36 (by kernel_rfl) (by kernel_rfl) (by kernel_rfl) (by kernel_rfl)
  have a1 := noAsF
  have a2 := noAsE
  have a3 := noAsS
  have a4 := hasUn
  have a5 := noUnE
  have a6 := noUnS
  have a7 := noUnsE
  have a8 := noUnsS
  have a9 := methodUnwrap
  have tE := typeOfE
  have tF := typeOfF
  have tS := typeOfS
  have mA := methodAssignableTo
  have gE := asgEE
  have gF := asgFE
  have gS := asgSE
  have vE := valueTE
  have htl : t.block < w.heap.size := by
    rcases Nat.lt_or_ge t.block w.heap.size with h | h
    · exact h
    · simp [World.cell?, Array.getElem?_eq_none h] at hta
  have hal : a.block < w.heap.size := by
    rcases Nat.lt_or_ge a.block w.heap.size with h | h
    · exact h
    · simp [World.cell?, Array.getElem?_eq_none h] at ha
  have el := elemVE a t (w.alloc (.cells #[.pointer (some ⟨1, 47, none⟩), .pointer (some a), .int .u64 150] 68)) (by rw [World.cell?_alloc_lt _ _ a hal]; exact ha)
  have st : ∀ c : Int, (ReflectliteValue.set #[.agg #[.pointer (some ⟨1, 22, none⟩), .pointer (some t), .int .u64 386], .agg #[.pointer (some ⟨1, 22, none⟩), .pointer (some ⟨w.heap.size + 1, 0, none⟩), .int .u64 130]]).run Tryd.prog ((w.alloc (.cells #[.pointer (some ⟨1, 47, none⟩), .pointer (some a), .int .u64 150] 68)).alloc (.cells #[.int .i64 c] 22))
      = .ok (.tuple #[]) (((w.alloc (.cells #[.pointer (some ⟨1, 47, none⟩), .pointer (some a), .int .u64 150] 68)).alloc (.cells #[.int .i64 c] 22)).setCell t (.int .i64 c)) := fun c =>
    setE t ⟨w.heap.size + 1, 0, none⟩ c old _
      (by rw [World.cell?_alloc_at _ _ _ _ (by simp)]; rfl)
      (by rw [World.cell?_alloc_lt _ _ t (by simp; omega), World.cell?_alloc_lt _ _ t htl]; exact hta)
      (by rw [World.frozen?_alloc_old _ _ t (by simp; omega), World.frozen?_alloc_old _ _ t (Nat.ne_of_lt htl)]; exact hfz)
  have hch : Ch (w.alloc (.cells #[.pointer (some ⟨1, 47, none⟩), .pointer (some a), .int .u64 150] 68)) l b v := h.below ((Below.refl _ _).alloc (Nat.le_refl _) _)
  have hC := Lib.hid hch
  clear ha hta hfz htl hal h hch
  go_enter Tryd.func33, Tryd.ntmps33
  go_wp2
  go_loopw [0] (fun u wr => Hid (wr = (w.alloc (.cells #[.pointer (some ⟨1, 47, none⟩), .pointer (some a), .int .u64 150] 68))) ∧ ∃ l', Ch wr l' b u ∧ l'.length ≤ 1000) (fun u wr => depth wr 1000 u)
  case atStart => exact ⟨Lib.hid rfl, l, hC.out, hl⟩
  case round =>
    obtain ⟨hw, l', hc, hl'⟩ := hrel
    obtain rfl := hw.out
    clear hw
    have hd := Lib.hid (depth_of 1000 hc hl')
    cases l' with
    | nil =>
      obtain rfl : _ = b.val := hc
      cases b with
      | num c =>
        dsimp only [Base.val]
        have st2 := st c
        clear st
        go_wp2
        go_ret
        exact ⟨rfl, rfl⟩
      | text s =>
        dsimp only [Base.val]
        clear st
        go_wp2
        go_ret
        exact ⟨rfl, rfl⟩
    | cons x l' =>
      obtain ⟨p, u, rfl, hp, h0, h1, h2⟩ := hc
      have hd2 := Lib.hid (depth_of 1000 h2 (by simp at hl'; omega))
      clear st
      cases l' with
      | nil =>
        obtain rfl : u = b.val := h2
        cases b with
        | num c =>
          dsimp only [Base.val] at h1
          go_wp2
          exact ⟨⟨Lib.hid (by simp), [], rfl, by simp⟩, by rw [hd.out]; exact Nat.lt_of_le_of_lt (Nat.le_of_eq hd2.out) (by simp)⟩
        | text s =>
          dsimp only [Base.val] at h1
          go_wp2
          exact ⟨⟨Lib.hid (by simp), [], rfl, by simp⟩, by rw [hd.out]; exact Nat.lt_of_le_of_lt (Nat.le_of_eq hd2.out) (by simp)⟩
      | cons y l'' =>
        obtain ⟨p2, u2, rfl, hp2, h02, h12, h22⟩ := h2
        go_wp2
        exact ⟨⟨Lib.hid (by simp), y :: l'', ⟨p2, u2, rfl, hp2, h02, h12, h22⟩, by simp at hl' ⊢; omega⟩, by rw [hd.out]; exact Nat.lt_of_le_of_lt (Nat.le_of_eq hd2.out) (by simp)⟩

end Go.Proofs.YtlbgniiecbohcaaDoor.Errs
