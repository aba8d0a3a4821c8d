import Derived.Test.YtdljphbfbiganaaGreatDoorGShaMath
import Derived.LoopTactic
import Derived.StillTailTactics
import Derived.Deep.QuietTactic
import Derived.Laws.Rows
import Derived.Deep.Cut
import Derived.Great.BuildSlice
/- The words of a block, by the program. -/
namespace Go.Proofs.YtdljphbfbiganaaGreatDoor.Sha
open Go.RowKit

/-- the array of words, k of them reckoned -/
def wcells (l : List UInt8) (k : Nat) : Array Value := ((words l k).map wv ++ List.replicate (64 - k) (Value.int .u32 0)).toArray
theorem wcells_size (l : List UInt8) (k : Nat) (hk : k ≤ 64) : (wcells l k).size = 64 := by simp [wcells, words_len]; omega
theorem wcells_at (l : List UInt8) (k j : Nat) (h : j < k) : (wcells l k)[j]? = some (wv ((words l k).getD j 0)) := by
  unfold wcells
  rw [List.getElem?_toArray, List.getElem?_append_left (by simp [words_len]; exact h), List.getElem?_map, List.getD_eq_getElem?_getD]
  rw [List.getElem?_eq_getElem (by rw [words_len]; exact h)]; rfl
theorem wcells_free (l : List UInt8) (k : Nat) (h : k < 64) : (wcells l k)[k]? = some (.int .u32 0) := by
  unfold wcells
  rw [List.getElem?_toArray, List.getElem?_append_right (by simp [words_len])]
  simp [words_len, List.getElem?_replicate]; omega
theorem wcells_next (l : List UInt8) (k : Nat) (h : k < 64) (x : W) (hx : x = if k < 16 then word l k else next (words l k)) : (wcells l k).setIfInBounds k (wv x) = wcells l (k + 1) := by
  subst hx
  have e : (words l (k + 1)).map wv = (words l k).map wv ++ [wv (if k < 16 then word l k else next (words l k))] := by
    show ((words l k ++ [if k < 16 then word l k else next (words l k)]).map wv) = _
    rw [List.map_append]; rfl
  obtain ⟨m, hm⟩ : ∃ m, 64 - k = m + 1 := ⟨63 - k, by omega⟩
  have hl : ((words l k).map wv).length = k := by rw [List.length_map, words_len]
  unfold wcells
  rw [e, hm, show 64 - (k + 1) = m by omega, List.setIfInBounds_toArray, List.set_append, if_neg (by omega), hl, Nat.sub_self, List.replicate_succ, List.set_cons_zero, List.append_assoc]
  rfl

theorem set_row {w : World} {g : Nat} {cs : Array Value} {t : TypeId} (h : w.heap[g]? = some (.cells cs t (0, 0))) (i : Nat) (u : Value) : (w.setCell ⟨g, i, none⟩ u).heap[g]? = some (.cells (cs.setIfInBounds i u) t (0, 0)) := by
  simp [World.setCell, Array.getElem?_modify, h]
theorem set_far {w : World} {g b i : Nat} {o : Option Obj} (h : w.heap[b]? = o) (hne : b ≠ g) (u : Value) : (w.setCell ⟨g, i, none⟩ u).heap[b]? = o := by
  rw [Below.heap_setCell _ _ _ _ (fun e => hne e)]; exact h

theorem wcells_one (l : List UInt8) (k : Nat) : (wcells l k).all (·.oneCell') = true := by
  rw [Array.all_eq_true']
  intro x hx
  unfold wcells at hx
  rw [List.mem_toArray, List.mem_append] at hx
  rcases hx with h | h
  · obtain ⟨y, _, rfl⟩ := List.mem_map.1 h; rfl
  · rw [List.eq_of_mem_replicate h]; rfl
theorem below_setRow {B g : Nat} {a w : World} (h : Below B a w) (hg : B ≤ g) (cs : Array Value) : Below B a (w.setRow g cs) :=
  ⟨h.os, h.tape, h.output, by simpa using h.size, fun i hi => (setRow_other w g i cs (by omega)).trans (h.block i hi)⟩
theorem i64a (C : Array Value) (hz : C.size = 64) : (Tryz.prog.info? 107).map (·.size) = some C.size := by rw [hz]; kernel_rfl
theorem isArr (n : Nat) (t : TypeId) : (match (TypeDesc.array n t) with | .struct _ | .array _ _ => true | _ => false) = true := rfl
theorem res_words (w : World) (g : Nat) (tmps : Array Value) (C : Array Value) (hz : C.size = 64) (hp : tmps.getD 2 undef = .pointer (some ⟨g, 0, none⟩)) (hg : w.heap[g]? = some (.cells C 107 (0, 0))) : (results Tryz.f64 tmps).run Tryz.prog w = .ok (.agg C) w :=
  results_cell_row (P := Tryz.prog) (fn := Tryz.f64) Tryz.results64 tmps w g 107 C (0, 0) _ hp hg Tryz.underlying107 (isArr 64 85) (i64a C hz)
theorem shr10 (x : W) : HDiv.hDiv (α := Int) (β := Int) (γ := Int) (x.toNat : Int) (1024 : Int) = ((x >>> 10).toNat : Int) := shr_w x 10
theorem shr3 (x : W) : HDiv.hDiv (α := Int) (β := Int) (γ := Int) (x.toNat : Int) (8 : Int) = ((x >>> 3).toNat : Int) := shr_w x 3
theorem or4 (a b c d : UInt8) : bits .or .u32 (bits .or .u32 (bits .or .u32 (IntKind.u32.wrap (IntKind.u32.wrap (a.toNat : Int) * 16777216)) (IntKind.u32.wrap (IntKind.u32.wrap (b.toNat : Int) * 65536))) (IntKind.u32.wrap (IntKind.u32.wrap (c.toNat : Int) * 256))) (IntKind.u32.wrap (d.toNat : Int))
    = ((BitVec.ofNat 32 (a.toNat * 16777216 + b.toNat * 65536 + c.toNat * 256 + d.toNat)).toNat : Int) := by
  have ha := a.toNat_lt; have hb := b.toNat_lt; have hc := c.toNat_lt; have hd := d.toNat_lt
  generalize a.toNat = a at *
  generalize b.toNat = b at *
  generalize c.toNat = c at *
  generalize d.toNat = d at *
  have w1 (n : Nat) (h : n < 4294967296) : IntKind.u32.wrap (n : Int) = (n : Int) := by rw [IntKind.wrap_u32']; omega
  have e1 : IntKind.u32.wrap ((a : Int) * 16777216) = ((a * 16777216 : Nat) : Int) := by rw [IntKind.wrap_u32']; omega
  have e2 : IntKind.u32.wrap ((b : Int) * 65536) = ((b * 65536 : Nat) : Int) := by rw [IntKind.wrap_u32']; omega
  have e3 : IntKind.u32.wrap ((c : Int) * 256) = ((c * 256 : Nat) : Int) := by rw [IntKind.wrap_u32']; omega
  rw [w1 a (by omega), w1 b (by omega), w1 c (by omega), w1 d (by omega), e1, e2, e3]
  have o1 : a * 16777216 ||| b * 65536 = a * 16777216 + b * 65536 := by
    have := Nat.two_pow_add_eq_or_of_lt (i := 24) (b := b * 65536) (by omega) a
    rw [Nat.mul_comm (2 ^ 24) a] at this; exact this.symm
  have o2 : (a * 16777216 + b * 65536) ||| c * 256 = a * 16777216 + b * 65536 + c * 256 := by
    have := Nat.two_pow_add_eq_or_of_lt (i := 16) (b := c * 256) (by omega) (a * 256 + b)
    rw [show 2 ^ 16 * (a * 256 + b) = a * 16777216 + b * 65536 by omega] at this; exact this.symm
  have o3 : (a * 16777216 + b * 65536 + c * 256) ||| d = a * 16777216 + b * 65536 + c * 256 + d := by
    have := Nat.two_pow_add_eq_or_of_lt (i := 8) (b := d) (by omega) (a * 65536 + b * 256 + c)
    rw [show 2 ^ 8 * (a * 65536 + b * 256 + c) = a * 16777216 + b * 65536 + c * 256 by omega] at this; exact this.symm
  rw [u32_or_nat _ _ (by omega) (by omega), o1, u32_or_nat _ _ (by omega) (by omega), o2, u32_or_nat _ _ (by omega) (by omega), o3, BitVec.toNat_ofNat, Nat.mod_eq_of_lt (by omega)]
theorem byte_at (s : ByteArray) (j : Nat) (h : j < s.size) : s.data.toList.getD j 0 = s[j] := by
  rw [List.getD_eq_getElem?_getD, List.getElem?_eq_getElem (by simpa using h)]; rfl
theorem word_of (s : ByteArray) (k j0 j1 j2 j3 : Nat) (hs : s.size = 64) (hk : k < 16) (e0 : j0 = 4 * k) (e1 : j1 = j0 + 1) (e2 : j2 = j0 + 2) (e3 : j3 = j0 + 3) :
    word s.data.toList k = BitVec.ofNat 32 ((s[j0]'(by omega)).toNat * 16777216 + (s[j1]'(by omega)).toNat * 65536 + (s[j2]'(by omega)).toNat * 256 + (s[j3]'(by omega)).toNat) := by
  subst e1 e2 e3 e0
  unfold word
  rw [byte_at s _ (by omega), byte_at s _ (by omega), byte_at s _ (by omega), byte_at s _ (by omega)]

set_option maxRecDepth 100000 in
set_option maxHeartbeats 600000 in
theorem words_any (s : ByteArray) (hs : s.size = 64) (w : World) :
    Calls Tryz.prog 64 #[.string s] w fun r w' => r = .returned (.agg (wcells s.data.toList 64)) ∧ Below w.heap.size w w' := by
  have HS := Lib.hid hs; clear hs
  go_enter Tryz.func64, Tryz.ntmps64
  go_wp2_with fail
  change Code.wp _ _ _ _ ((w.alloc (.cells (Array.replicate 64 (.int .u32 0)) 107)).alloc (.cells (wcells s.data.toList 0) 107))
  obtain ⟨W0, hW⟩ : ∃ W0, W0 = ((w.alloc (.cells (Array.replicate 64 (.int .u32 0)) 107)).alloc (.cells (wcells s.data.toList 0) 107)) := ⟨_, rfl⟩
  rw [← hW]
  have hB0 : Below w.heap.size w W0 := by rw [hW]; exact ((Below.refl _ _).alloc (Nat.le_refl _) _).alloc (by simp) _
  have hS0 : W0.heap[w.heap.size + 1]? = some (.cells (wcells s.data.toList 0) 107 (0, 0)) := by rw [hW]; exact last_alloc _ _ _ 0
  have hR0 : W0.heap[w.heap.size]? = some (.cells (Array.replicate 64 (.int .u32 0)) 107 (0, 0)) := by
    rw [hW, Below.heap_alloc _ _ _ (by simp)]
    exact Array.getElem?_push_size
  clear hW
  go_loopw [8] (fun i wr => ∃ k : Nat, k ≤ 64 ∧ i = .int .i64 k ∧ wr.heap[w.heap.size + 1]? = some (.cells (wcells s.data.toList k) 107 (0, 0)) ∧ wr.heap[w.heap.size]? = some (.cells (Array.replicate 64 (.int .u32 0)) 107 (0, 0)) ∧ Below w.heap.size w wr) (fun i _ => 64 - (intOf i).toNat)
  case atStart => exact ⟨0, by omega, rfl, hS0, hR0, hB0⟩
  case round =>
    obtain ⟨k, hk, rfl, hS, hR, hB⟩ := hrel
    clear hB0 hS0 hR0
    have HW := Lib.hid hS
    have HR := Lib.hid hR
    clear hR
    rcases Nat.lt_or_ge k 64 with hlt | hge
    · have hc := (cell_blk hS k).trans (wcells_free _ k hlt)
      have hf := free_blk hS k
      clear hS
      have hss := HS.out
      by_cases h16 : k < 16
      · obtain ⟨J, hJ⟩ : ∃ J : Nat, J = 4 * k := ⟨_, rfl⟩
        obtain ⟨J1, hJ1⟩ : ∃ J1 : Nat, J1 = J + 1 := ⟨_, rfl⟩
        obtain ⟨J2, hJ2⟩ : ∃ J2 : Nat, J2 = J + 2 := ⟨_, rfl⟩
        obtain ⟨J3, hJ3⟩ : ∃ J3 : Nat, J3 = J + 3 := ⟨_, rfl⟩
        have x0 : (J : Int) < 64 := by omega
        have x1 : (J1 : Int) < 64 := by omega
        have x2 : (J2 : Int) < 64 := by omega
        have x3 : (J3 : Int) < 64 := by omega
        have y0 : (4 : Int) * (k : Int) = (J : Int) := by omega
        have y1 : IntKind.i64.wrap ((J : Int) + 1) = (J1 : Int) := by rw [IntWalk.i64_in _ (by omega)]; omega
        have y2 : IntKind.i64.wrap ((J : Int) + 2) = (J2 : Int) := by rw [IntWalk.i64_in _ (by omega)]; omega
        have y3 : IntKind.i64.wrap ((J : Int) + 3) = (J3 : Int) := by rw [IntWalk.i64_in _ (by omega)]; omega
        have K0 := Lib.hid hJ
        have K1 := Lib.hid hJ1
        have K2 := Lib.hid hJ2
        have K3 := Lib.hid hJ3
        clear hJ hJ1 hJ2 hJ3
        go_wp2_with fail
        go_still_tail 27, (by kernel_rfl)
        change wpList _ _ _ _ _ wr.drew
        rw [or4]
        have hw := word_of s k J J1 J2 J3 HS.out h16 K0.out K1.out K2.out K3.out
        rw [← hw]
        clear hw y0 y1 y2 y3
        generalize hx : word s.data.toList k = x
        have HX := Lib.hid hx
        clear hx
        go_wp2
        go_roundw
        case rel => exact ⟨k + 1, by omega, by go_num, by rw [← wcells_next s.data.toList k hlt x (by rw [if_pos h16, HX.out])]; exact set_row HW.out k _, set_far HR.out (by omega) _, (hB.drew).setCell (by show w.heap.size ≤ w.heap.size + 1; omega) _⟩
        case measure => simp [intOf]; omega
      · obtain ⟨a, ha⟩ : ∃ a : Nat, a + 2 = k := ⟨k - 2, by omega⟩
        obtain ⟨b, hb⟩ : ∃ b : Nat, b + 7 = k := ⟨k - 7, by omega⟩
        obtain ⟨c, hcc⟩ : ∃ c : Nat, c + 15 = k := ⟨k - 15, by omega⟩
        obtain ⟨d, hd⟩ : ∃ d : Nat, d + 16 = k := ⟨k - 16, by omega⟩
        have xa : (a : Int) < 64 := by omega
        have xb : (b : Int) < 64 := by omega
        have xc : (c : Int) < 64 := by omega
        have xd : (d : Int) < 64 := by omega
        have ya : IntKind.i64.wrap ((k : Int) - 2) = (a : Int) := by rw [IntWalk.i64_in _ (by omega)]; omega
        have yb : IntKind.i64.wrap ((k : Int) - 7) = (b : Int) := by rw [IntWalk.i64_in _ (by omega)]; omega
        have yc : IntKind.i64.wrap ((k : Int) - 15) = (c : Int) := by rw [IntWalk.i64_in _ (by omega)]; omega
        have yd : IntKind.i64.wrap ((k : Int) - 16) = (d : Int) := by rw [IntWalk.i64_in _ (by omega)]; omega
        have hn : next (words s.data.toList k) = small1 ((words s.data.toList k).getD a 0) + (words s.data.toList k).getD b 0 + small0 ((words s.data.toList k).getD c 0) + (words s.data.toList k).getD d 0 := by
          unfold next
          rw [words_len, show k - 2 = a by omega, show k - 7 = b by omega, show k - 15 = c by omega, show k - 16 = d by omega]
        have ca := (cell_blk HW.out a).trans (wcells_at _ k a (by omega))
        have cb := (cell_blk HW.out b).trans (wcells_at _ k b (by omega))
        have cc := (cell_blk HW.out c).trans (wcells_at _ k c (by omega))
        have cd := (cell_blk HW.out d).trans (wcells_at _ k d (by omega))
        generalize (words s.data.toList k).getD a 0 = A at *
        generalize (words s.data.toList k).getD b 0 = B at *
        generalize (words s.data.toList k).getD c 0 = C at *
        generalize (words s.data.toList k).getD d 0 = D at *
        unfold wv at ca cb cc cd
        have HN := Lib.hid hn
        clear hn hss ha hb hcc hd
        have k16 : ¬ (k : Int) < 16 := by omega
        go_wp2_with fail
        go_quiet (fail)
        obtain ⟨W1, hW⟩ : ∃ W1, W1 = wr.drewN nq := ⟨_, rfl⟩
        rw [← hW]
        have hc' : W1.cell? ⟨w.heap.size + 1, k, none⟩ = some (.int .u32 0) := by rw [hW]; exact hc
        have hf' : W1.frozen? ⟨w.heap.size + 1, k, none⟩ = false := by rw [hW]; exact hf
        have cb' : W1.cell? ⟨w.heap.size + 1, b, none⟩ = some (.int .u32 (B.toNat : Int)) := by rw [hW]; exact cb
        have cd' : W1.cell? ⟨w.heap.size + 1, d, none⟩ = some (.int .u32 (D.toNat : Int)) := by rw [hW]; exact cd
        have HW' : Hid (W1.heap[w.heap.size + 1]? = some (Obj.cells (wcells s.data.toList k) 107 (0, 0))) := Lib.hid (by rw [hW]; exact HW.out)
        have HR' : Hid (W1.heap[w.heap.size]? = some (Obj.cells (Array.replicate 64 (Value.int IntKind.u32 0)) 107 (0, 0))) := Lib.hid (by rw [hW]; exact HR.out)
        have hB' : Below w.heap.size w W1 := by rw [hW]; exact below_drewN hB _
        clear hW hc hf ca cb cc cd HW HR hB
        go_wp2_with fail
        go_still_tail 29, (by kernel_rfl)
        still_call (right_any _ _ _ (by decide))
        repeat still_step
        still_call (right_any _ _ _ (by decide))
        repeat still_step
        still_call (right_any _ _ _ (by decide))
        repeat still_step
        still_call (right_any _ _ _ (by decide))
        repeat still_step
        refine wpStill_nil ?_
        change wpList _ _ _ _ _ W1.drew
        simp only [shr10, shr3, xor_w, add_w]
        generalize hx : (rot A 17 ^^^ rot A 19 ^^^ A >>> 10) + B + (rot C 7 ^^^ rot C 18 ^^^ C >>> 3) + D = x
        have HX : Hid (x = next (words s.data.toList k)) := Lib.hid (by rw [HN.out, ← hx]; rfl)
        clear hx ya yb yc yd cb' cd'
        go_wp2
        go_roundw
        case rel => exact ⟨k + 1, by omega, by go_num, by rw [← wcells_next s.data.toList k hlt x (by rw [if_neg h16, HX.out])]; exact set_row HW'.out k _, set_far HR'.out (by omega) _, (hB'.drew).setCell (by show w.heap.size ≤ w.heap.size + 1; omega) _⟩
        case measure => simp [intOf]; omega
    · have hk64 : k = 64 := by omega
      subst hk64
      clear hS
      have hz := wcells_size s.data.toList 64 (by omega)
      have h1 := wcells_one s.data.toList 64
      generalize hC : wcells s.data.toList 64 = C at *
      go_upto_region 11 with fail
      refine wp_region_lit ?_
      refine wpList_load_row rfl 107 _ rfl (w.heap.size + 1) rfl 107 C (0, 0) _ HW.out Tryz.underlying107 (isArr 64 85) (i64a C hz) ?_
      refine wpList_store_rowTo rfl 107 _ _ rfl rfl w.heap.size C rfl rfl 107 _ HR.out (i64a C hz) (by rw [hz]; rfl) h1 ?_
      refine wpList_nil ?_
      have HR' := setRow_heap wr w.heap.size _ C 107 (0, 0) HR.out
      go_wp2_with fail
      exact bodyPost_ret (res_words _ w.heap.size _ C hz rfl HR') rfl ⟨by rw [hC], below_setRow hB (Nat.le_refl _) _⟩
end Go.Proofs.YtdljphbfbiganaaGreatDoor.Sha
