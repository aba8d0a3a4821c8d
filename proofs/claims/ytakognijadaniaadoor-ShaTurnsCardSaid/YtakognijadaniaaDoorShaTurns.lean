/- The law ShaTurns, walked. -/
import Derived.Test.YtakognijadaniaaDoorShaAwake
import Derived.Test.YtakognijadaniaaDoorShaPage
namespace Go.Proofs.YtakognijadaniaaDoor.Sha
open Go Go.RowKit

set_option maxRecDepth 100000 in
set_option maxHeartbeats 600000 in
theorem turns_long (S : St) (s : ByteArray) (hs : 200 < s.size) (w : World) (hg : Tab w) :
    Calls Tryd.prog 4 #[.agg #[.int .u32 (S.a.toNat : Int), .int .u32 (S.b.toNat : Int), .int .u32 (S.c.toNat : Int), .int .u32 (S.d.toNat : Int), .int .u32 (S.e.toNat : Int), .int .u32 (S.f.toNat : Int), .int .u32 (S.g.toNat : Int), .int .u32 (S.h.toNat : Int)], .string s] w fun e w' => e = .returned (.bool true) ∧ Below w.heap.size w w' := by
  have hs' : (200 : Int) < (s.size : Int) := by omega
  have HA := Lib.hid (fun (W : World) (hW : Below w.heap.size w W) => awake_any W (tab_below hg hW))
  clear hg
  go_enter Tryd.func4, Tryd.ntmps4
  go_wp2_with fail
  refine (HA.out _ ((Below.refl _ _).alloc (Nat.le_refl _) _)).mono ?_
  rintro e w1 ⟨rfl, hb1⟩
  have HB := Lib.hid (((Below.refl w.heap.size w).alloc (Nat.le_refl _) _).trans (hb1.mono (by simp)))
  clear hb1
  go_wp2
  go_ret
  exact ⟨rfl, HB.out⟩

theorem eq_zeros (W : World) : (Op.equalIn 10000 31 (.agg #[.int .u32 0, .int .u32 0, .int .u32 0, .int .u32 0, .int .u32 0, .int .u32 0, .int .u32 0, .int .u32 0]) (.agg #[.int .u32 0, .int .u32 0, .int .u32 0, .int .u32 0, .int .u32 0, .int .u32 0, .int .u32 0, .int .u32 0])).run Tryd.prog W = .ok true W := by kernel_rfl
set_option maxRecDepth 100000 in
set_option maxHeartbeats 600000 in
theorem turns_other (S : St) (s : ByteArray) (hs : s.size ≤ 200) (hne : s.size ≠ 64) (w : World) (hg : Tab w) :
    Calls Tryd.prog 4 #[.agg #[.int .u32 (S.a.toNat : Int), .int .u32 (S.b.toNat : Int), .int .u32 (S.c.toNat : Int), .int .u32 (S.d.toNat : Int), .int .u32 (S.e.toNat : Int), .int .u32 (S.f.toNat : Int), .int .u32 (S.g.toNat : Int), .int .u32 (S.h.toNat : Int)], .string s] w fun e w' => e = .returned (.bool true) ∧ Below w.heap.size w w' := by
  have hs' : (s.size : Int) ≤ 200 := by omega
  have hne' : ¬ (s.size : Int) = 64 := by omega
  have HA := Lib.hid (fun (W : World) (hW : Below w.heap.size w W) => awake_any W (tab_below hg hW))
  have HT := Lib.hid (fun W => turn_bad S s hne W)
  clear hg hne
  go_enter Tryd.func4, Tryd.ntmps4
  go_wp2_with fail
  refine (HT.out _).mono ?_
  rintro e w1 ⟨rfl, hb1⟩
  have hB1 : Below w.heap.size w w1 := ((Below.refl w.heap.size w).alloc (Nat.le_refl _) _).trans (hb1.mono (by simp))
  have HB1 := Lib.hid hB1
  clear hb1 hB1
  go_upto_region 5 with fail
  obtain ⟨W2, hW2⟩ : ∃ W2, W2 = w1.alloc (.cells #[.int .u32 0, .int .u32 0, .int .u32 0, .int .u32 0, .int .u32 0, .int .u32 0, .int .u32 0, .int .u32 0] 31) := ⟨_, rfl⟩
  rw [← hW2]
  have hg2 : W2.heap[w1.heap.size]? = some (.cells #[.int .u32 0, .int .u32 0, .int .u32 0, .int .u32 0, .int .u32 0, .int .u32 0, .int .u32 0, .int .u32 0] 31 (0, 0)) := by rw [hW2]; exact Array.getElem?_push_size
  have hB2 : Below w.heap.size w W2 := by rw [hW2]; exact HB1.out.alloc HB1.out.size _
  clear hW2
  have HG2 := Lib.hid hg2
  have HB2 := Lib.hid hB2
  clear hg2 hB2
  go_wp2_with fail
  refine (HA.out _ HB2.out).mono ?_
  rintro e w3 ⟨rfl, hb3⟩
  obtain ⟨c0, c1, c2, c3, c4, c5, c6, c7⟩ := cells8 ((hb3.block _ ((Array.getElem?_eq_some_iff.1 HG2.out).1)).trans HG2.out)
  have HB3 := Lib.hid (HB2.out.trans (hb3.mono HB2.out.size))
  clear hb3
  have heq := eq_zeros w3
  go_wp2
  go_ret
  exact ⟨rfl, HB3.out⟩

theorem arr_at (S : St) (k : Nat) (h : k < 8) : (#[.int .u32 (S.a.toNat : Int), .int .u32 (S.b.toNat : Int), .int .u32 (S.c.toNat : Int), .int .u32 (S.d.toNat : Int), .int .u32 (S.e.toNat : Int), .int .u32 (S.f.toNat : Int), .int .u32 (S.g.toNat : Int), .int .u32 (S.h.toNat : Int)] : Array Value)[k]? = some (.int .u32 ((S.list.getD k 0).toNat : Int)) := by
  match k, h with
  | 0, _ => rfl
  | 1, _ => rfl
  | 2, _ => rfl
  | 3, _ => rfl
  | 4, _ => rfl
  | 5, _ => rfl
  | 6, _ => rfl
  | 7, _ => rfl
theorem list_take (S : St) (k : Nat) (h : k < 8) : (S.list.map wv).take (k + 1) = (S.list.map wv).take k ++ [.int .u32 ((S.list.getD k 0).toNat : Int)] := by
  match k, h with
  | 0, _ => rfl
  | 1, _ => rfl
  | 2, _ => rfl
  | 3, _ => rfl
  | 4, _ => rfl
  | 5, _ => rfl
  | 6, _ => rfl
  | 7, _ => rfl
theorem First8.row {cur : Array Value} {S : St} (h : cur.toList.take (8 * 1) = S.list.map wv) : First8 cur S := by
  have hk : ∀ k, k < 8 → cur[k]? = (S.list.map wv)[k]? := fun k hk => by
    rw [← h, List.getElem?_take, if_pos (by omega)]; simp
  exact ⟨hk 0 (by decide), hk 1 (by decide), hk 2 (by decide), hk 3 (by decide), hk 4 (by decide), hk 5 (by decide), hk 6 (by decide), hk 7 (by decide)⟩

set_option maxRecDepth 100000 in
set_option maxHeartbeats 1000000 in
theorem turns_64 (S : St) (s : ByteArray) (hs : s.size = 64) (w : World) (hg : Tab w) :
    Calls Tryd.prog 4 #[.agg #[.int .u32 (S.a.toNat : Int), .int .u32 (S.b.toNat : Int), .int .u32 (S.c.toNat : Int), .int .u32 (S.d.toNat : Int), .int .u32 (S.e.toNat : Int), .int .u32 (S.f.toNat : Int), .int .u32 (S.g.toNat : Int), .int .u32 (S.h.toNat : Int)], .string s] w fun e w' => e = .returned (.bool true) ∧ Below w.heap.size w w' := by
  obtain ⟨i0, hi, hz0, hz1, hz2⟩ := info_parts infoW
  have HY := Lib.hid hz2
  have HA := Lib.hid (fun (W : World) (hW : Below w.heap.size w W) => awake_any W (tab_below hg hW))
  have HT := Lib.hid (turn_any S s hs (w.alloc (.cells #[.int .u32 (S.a.toNat : Int), .int .u32 (S.b.toNat : Int), .int .u32 (S.c.toNat : Int), .int .u32 (S.d.toNat : Int), .int .u32 (S.e.toNat : Int), .int .u32 (S.f.toNat : Int), .int .u32 (S.g.toNat : Int), .int .u32 (S.h.toNat : Int)] 31)) (tab_below hg ((Below.refl _ _).alloc (Nat.le_refl _) _)))
  have HR := Lib.hid (fun (b cap : Nat) (W : World) (cs : Array Value) (h1 : W.heap[b]? = some (.cells cs 30 (0, 0))) (h2 : First8 cs S) => rturn_any S s hs b cap W cs h1 h2)
  have hs1 : (s.size : Int) = 64 := by omega
  generalize turn S s.data.toList = T at HT HR
  clear hg
  go_enter Tryd.func4, Tryd.ntmps4
  go_wp2_with fail
  refine HT.out.mono ?_
  rintro e w1 ⟨rfl, hb1⟩
  have HA1 : Hid (w1.heap[w.heap.size]? = some (Obj.cells #[.int .u32 (S.a.toNat : Int), .int .u32 (S.b.toNat : Int), .int .u32 (S.c.toNat : Int), .int .u32 (S.d.toNat : Int), .int .u32 (S.e.toNat : Int), .int .u32 (S.f.toNat : Int), .int .u32 (S.g.toNat : Int), .int .u32 (S.h.toNat : Int)] 31 (0, 0))) := Lib.hid ((hb1.block _ (by simp)).trans Array.getElem?_push_size)
  have HB1 : Hid (Below w.heap.size w w1) := Lib.hid (((Below.refl w.heap.size w).alloc (Nat.le_refl _) _).trans (hb1.mono (by simp)))
  have hz1w : w.heap.size < w1.heap.size := by have := hb1.size; simp at this; omega
  clear hb1 HT
  go_wp2_with fail
  obtain ⟨W2, hW2⟩ : ∃ W2, W2 = w1.alloc (.cells #[.int .u32 (T.a.toNat : Int), .int .u32 (T.b.toNat : Int), .int .u32 (T.c.toNat : Int), .int .u32 (T.d.toNat : Int), .int .u32 (T.e.toNat : Int), .int .u32 (T.f.toNat : Int), .int .u32 (T.g.toNat : Int), .int .u32 (T.h.toNat : Int)] 31) := ⟨_, rfl⟩
  rw [← hW2]
  have HG2 : Hid (W2.heap[w1.heap.size]? = some (Obj.cells #[.int .u32 (T.a.toNat : Int), .int .u32 (T.b.toNat : Int), .int .u32 (T.c.toNat : Int), .int .u32 (T.d.toNat : Int), .int .u32 (T.e.toNat : Int), .int .u32 (T.f.toNat : Int), .int .u32 (T.g.toNat : Int), .int .u32 (T.h.toNat : Int)] 31 (0, 0))) := Lib.hid (by rw [hW2]; exact Array.getElem?_push_size)
  have HA2 : Hid (W2.heap[w.heap.size]? = some (Obj.cells #[.int .u32 (S.a.toNat : Int), .int .u32 (S.b.toNat : Int), .int .u32 (S.c.toNat : Int), .int .u32 (S.d.toNat : Int), .int .u32 (S.e.toNat : Int), .int .u32 (S.f.toNat : Int), .int .u32 (S.g.toNat : Int), .int .u32 (S.h.toNat : Int)] 31 (0, 0))) := Lib.hid (by rw [hW2, Below.heap_alloc _ _ _ hz1w]; exact HA1.out)
  have HB2 : Hid (Below w.heap.size w W2) := Lib.hid (by rw [hW2]; exact HB1.out.alloc HB1.out.size _)
  have hz2w : w1.heap.size < W2.heap.size := by rw [hW2]; simp
  clear hW2
  go_loopw [7, 8] (fun v i wq => ∃ k : Nat, k ≤ 8 ∧ i = .int .i64 k ∧ wq.ownsRow W2.heap.size 30 1 v k ((S.list.map wv).take k) ∧ Below W2.heap.size W2 wq) (fun _ i _ => 8 - (intOf i).toNat)
  case atStart => exact ⟨0, by omega, rfl, World.ownsRow_nil _ _ _ _, Below.refl _ _⟩
  case round =>
    obtain ⟨k, hk, rfl, hown, hq⟩ := hrel
    obtain ⟨A, c, rfl⟩ := own_form hown
    have HO := Lib.hid hown
    clear hown
    rcases Nat.lt_or_ge k 8 with hlt | hge
    · have hk8 : (k : Int) < 8 := by omega
      have ck := (cell_blk ((hq.block w.heap.size (Nat.lt_trans hz1w hz2w)).trans HA2.out) k).trans (arr_at S k hlt)
      have hx := list_take S k hlt
      generalize S.list.getD k 0 = x at ck hx
      have HX := Lib.hid hx
      clear hx
      have hle : W2.heap.size ≤ wr.heap.size := hq.size
      go_wp2_with (at_builtin; refine wpList_append_own _ rfl _ _ 35 rfl W2.heap.size 30 i0 (.int .u32 0) 1 4 Tryd.underlying35 hi hz0 hz1 HY.out rfl (by decide) _ _ _ rfl (World.ownsRow.alloc HO.out _) ⟨wr.heap.size, 0, none⟩ 1 1 [.int .u32 (x.toNat : Int)] rfl rfl (cell_one_new _ _ _) (one_one rfl) (by unfold maxLen; omega) (by omega) (by simp; omega) ?_; intro v5 w5 hown5 hg5 _)
      have hB5 := below_push hq hle HO.out hg5
      have HO5 : Hid (w5.ownsRow W2.heap.size 30 1 v5 (k + 1) ((S.list.map wv).take (k + 1))) := Lib.hid (by rw [HX.out]; exact hown5)
      obtain ⟨A5, c5, rfl⟩ := own_form HO5.out
      clear hown5 hg5 ck
      go_wp2
      go_roundw
      case rel => exact ⟨k + 1, by omega, by go_num, HO5.out, hB5⟩
      case measure => simp [intOf]; omega
    · have hk8 : k = 8 := by omega
      subst hk8
      obtain ⟨g, cap, cur, hv, hbg, hgc, htake⟩ : ∃ g cap cur, Value.slice A 8 c = .slice (some ⟨g, 0, none⟩) 8 cap ∧ W2.heap.size ≤ g ∧ wr.heap[g]? = some (.cells cur 30 (0, 0)) ∧ cur.toList.take (8 * 1) = S.list.map wv := by
        rcases HO.out.2 with ⟨_, h0⟩ | ⟨g, cap, cur, hv, hbg, hgc, _, _, _, htake⟩
        · omega
        · exact ⟨g, cap, cur, hv, hbg, hgc, htake⟩
      injection hv with hA _ hc
      subst hA
      subst hc
      have HF := Lib.hid (First8.row htake)
      have HG := Lib.hid hgc
      have hBr : Below w.heap.size w wr := HB2.out.trans (hq.mono HB2.out.size)
      have HBr := Lib.hid hBr
      have HTr : Hid (wr.heap[w1.heap.size]? = some (Obj.cells #[.int .u32 (T.a.toNat : Int), .int .u32 (T.b.toNat : Int), .int .u32 (T.c.toNat : Int), .int .u32 (T.d.toNat : Int), .int .u32 (T.e.toNat : Int), .int .u32 (T.f.toNat : Int), .int .u32 (T.g.toNat : Int), .int .u32 (T.h.toNat : Int)] 31 (0, 0))) := Lib.hid ((hq.block _ hz2w).trans HG2.out)
      obtain ⟨wo, hwo⟩ : ∃ wo : World, wo = wr := ⟨_, rfl⟩
      subst hwo
      clear htake hgc hBr hq
      go_wp2_with fail
      refine (HR.out g c wo cur HG.out HF.out).mono ?_
      rintro e w4 ⟨gt, rfl, hgt, hb4⟩
      have hT4 := (hb4.block _ ((Array.getElem?_eq_some_iff.1 HTr.out).1)).trans HTr.out
      have hB4 : Below w.heap.size w w4 := HBr.out.trans (hb4.mono HBr.out.size)
      have HT4 := Lib.hid hT4
      have HGt := Lib.hid hgt
      have HB4 := Lib.hid hB4
      clear hT4 hgt hB4 hb4
      go_wp2_with fail
      refine (rstart_any _).mono ?_
      rintro e w5 ⟨rfl, hw5⟩
      have HT5 : Hid (w5.heap[w1.heap.size]? = some (Obj.cells #[.int .u32 (T.a.toNat : Int), .int .u32 (T.b.toNat : Int), .int .u32 (T.c.toNat : Int), .int .u32 (T.d.toNat : Int), .int .u32 (T.e.toNat : Int), .int .u32 (T.f.toNat : Int), .int .u32 (T.g.toNat : Int), .int .u32 (T.h.toNat : Int)] 31 (0, 0))) := Lib.hid (by rw [hw5, Below.heap_alloc _ _ _ ((Array.getElem?_eq_some_iff.1 HT4.out).1)]; exact HT4.out)
      have HG5 : Hid (w5.heap[gt]? = some (Obj.cells #[.int .u32 (T.a.toNat : Int), .int .u32 (T.b.toNat : Int), .int .u32 (T.c.toNat : Int), .int .u32 (T.d.toNat : Int), .int .u32 (T.e.toNat : Int), .int .u32 (T.f.toNat : Int), .int .u32 (T.g.toNat : Int), .int .u32 (T.h.toNat : Int)] 30 (0, 0))) := Lib.hid (by rw [hw5, Below.heap_alloc _ _ _ ((Array.getElem?_eq_some_iff.1 HGt.out).1)]; exact HGt.out)
      have HF5 : Hid (w5.heap[w4.heap.size]? = some (Obj.cells #[.int .u32 (start.a.toNat : Int), .int .u32 (start.b.toNat : Int), .int .u32 (start.c.toNat : Int), .int .u32 (start.d.toNat : Int), .int .u32 (start.e.toNat : Int), .int .u32 (start.f.toNat : Int), .int .u32 (start.g.toNat : Int), .int .u32 (start.h.toNat : Int)] 30 (0, 0))) := Lib.hid (by rw [hw5]; exact Array.getElem?_push_size)
      have HB5 : Hid (Below w.heap.size w w5) := Lib.hid (by rw [hw5]; exact HB4.out.alloc HB4.out.size _)
      clear hw5 HT4 HGt HB4
      go_wp2_with fail
      refine (start_any _).mono ?_
      rintro e w6 ⟨rfl, hb6⟩
      have HT6 := Lib.hid ((hb6.block _ ((Array.getElem?_eq_some_iff.1 HT5.out).1)).trans HT5.out)
      have HG6 := Lib.hid ((hb6.block _ ((Array.getElem?_eq_some_iff.1 HG5.out).1)).trans HG5.out)
      have HF6 := Lib.hid ((hb6.block _ ((Array.getElem?_eq_some_iff.1 HF5.out).1)).trans HF5.out)
      have HB6 := Lib.hid (HB5.out.trans (hb6.mono HB5.out.size))
      clear hb6
      go_wp2_with fail
      obtain ⟨W7, hW7⟩ : ∃ W7, W7 = w6.alloc (.cells #[.int .u32 (start.a.toNat : Int), .int .u32 (start.b.toNat : Int), .int .u32 (start.c.toNat : Int), .int .u32 (start.d.toNat : Int), .int .u32 (start.e.toNat : Int), .int .u32 (start.f.toNat : Int), .int .u32 (start.g.toNat : Int), .int .u32 (start.h.toNat : Int)] 31) := ⟨_, rfl⟩
      rw [← hW7]
      have HT7 : Hid (W7.heap[w1.heap.size]? = some (Obj.cells #[.int .u32 (T.a.toNat : Int), .int .u32 (T.b.toNat : Int), .int .u32 (T.c.toNat : Int), .int .u32 (T.d.toNat : Int), .int .u32 (T.e.toNat : Int), .int .u32 (T.f.toNat : Int), .int .u32 (T.g.toNat : Int), .int .u32 (T.h.toNat : Int)] 31 (0, 0))) := Lib.hid (by rw [hW7, Below.heap_alloc _ _ _ ((Array.getElem?_eq_some_iff.1 HT6.out).1)]; exact HT6.out)
      have HG7 : Hid (W7.heap[gt]? = some (Obj.cells #[.int .u32 (T.a.toNat : Int), .int .u32 (T.b.toNat : Int), .int .u32 (T.c.toNat : Int), .int .u32 (T.d.toNat : Int), .int .u32 (T.e.toNat : Int), .int .u32 (T.f.toNat : Int), .int .u32 (T.g.toNat : Int), .int .u32 (T.h.toNat : Int)] 30 (0, 0))) := Lib.hid (by rw [hW7, Below.heap_alloc _ _ _ ((Array.getElem?_eq_some_iff.1 HG6.out).1)]; exact HG6.out)
      have HF7 : Hid (W7.heap[w4.heap.size]? = some (Obj.cells #[.int .u32 (start.a.toNat : Int), .int .u32 (start.b.toNat : Int), .int .u32 (start.c.toNat : Int), .int .u32 (start.d.toNat : Int), .int .u32 (start.e.toNat : Int), .int .u32 (start.f.toNat : Int), .int .u32 (start.g.toNat : Int), .int .u32 (start.h.toNat : Int)] 30 (0, 0))) := Lib.hid (by rw [hW7, Below.heap_alloc _ _ _ ((Array.getElem?_eq_some_iff.1 HF6.out).1)]; exact HF6.out)
      have HS7 : Hid (W7.heap[w6.heap.size]? = some (Obj.cells #[.int .u32 (start.a.toNat : Int), .int .u32 (start.b.toNat : Int), .int .u32 (start.c.toNat : Int), .int .u32 (start.d.toNat : Int), .int .u32 (start.e.toNat : Int), .int .u32 (start.f.toNat : Int), .int .u32 (start.g.toNat : Int), .int .u32 (start.h.toNat : Int)] 31 (0, 0))) := Lib.hid (by rw [hW7]; exact Array.getElem?_push_size)
      have HB7 : Hid (Below w.heap.size w W7) := Lib.hid (by rw [hW7]; exact HB6.out.alloc HB6.out.size _)
      clear hW7
      generalize w6.heap.size = G6 at *
      generalize w4.heap.size = G4 at *
      generalize w1.heap.size = G1 at *
      generalize start = Z0 at *
      go_loopw [12] (fun i wq => ∃ k : Nat, k ≤ 8 ∧ i = .int .i64 k ∧ Below W7.heap.size W7 wq) (fun i _ => 8 - (intOf i).toNat)
      case atStart => exact ⟨0, by omega, rfl, Below.refl _ _⟩
      case round =>
        obtain ⟨k, hk, rfl, hq⟩ := hrel
        rcases Nat.lt_or_ge k 8 with hlt | hge
        · have hk8 : (k : Int) < 8 := by omega
          have d1 := (cell_blk ((hq.block _ ((Array.getElem?_eq_some_iff.1 HT7.out).1)).trans HT7.out) k).trans (arr_at T k hlt)
          have d2 := (cell_blk ((hq.block _ ((Array.getElem?_eq_some_iff.1 HG7.out).1)).trans HG7.out) k).trans (arr_at T k hlt)
          have d3 := (cell_blk ((hq.block _ ((Array.getElem?_eq_some_iff.1 HF7.out).1)).trans HF7.out) k).trans (arr_at Z0 k hlt)
          have d4 := (cell_blk ((hq.block _ ((Array.getElem?_eq_some_iff.1 HS7.out).1)).trans HS7.out) k).trans (arr_at Z0 k hlt)
          generalize T.list.getD k 0 = x at d1 d2
          generalize Z0.list.getD k 0 = y at d3 d4
          go_wp2_with fail
          go_quiet (fail)
          clear d1 d2 d3 d4
          go_wp2
          exact ⟨⟨k + 1, by omega, by go_num, below_drewN hq _⟩, by simp [intOf]; omega⟩
        · have hk8 : k = 8 := by omega
          subst hk8
          have hBq := HB7.out.trans (hq.mono HB7.out.size)
          have HBq := Lib.hid hBq
          clear hBq hq
          go_wp2_with fail
          refine (HA.out _ HBq.out).mono ?_
          rintro e w9 ⟨rfl, hb9⟩
          have HB9 := Lib.hid (HBq.out.trans (hb9.mono HBq.out.size))
          clear hb9
          go_wp2
          go_ret
          exact ⟨rfl, HB9.out⟩

theorem turns_any (S : St) (s : ByteArray) (w : World) (hg : Tab w) :
    Calls Tryd.prog 4 #[.agg #[.int .u32 (S.a.toNat : Int), .int .u32 (S.b.toNat : Int), .int .u32 (S.c.toNat : Int), .int .u32 (S.d.toNat : Int), .int .u32 (S.e.toNat : Int), .int .u32 (S.f.toNat : Int), .int .u32 (S.g.toNat : Int), .int .u32 (S.h.toNat : Int)], .string s] w fun e w' => e = .returned (.bool true) ∧ Below w.heap.size w w' := by
  by_cases h1 : 200 < s.size
  · exact turns_long S s h1 w hg
  · by_cases h2 : s.size = 64
    · exact turns_64 S s h2 w hg
    · exact turns_other S s (by omega) h2 w hg
end Go.Proofs.YtakognijadaniaaDoor.Sha
