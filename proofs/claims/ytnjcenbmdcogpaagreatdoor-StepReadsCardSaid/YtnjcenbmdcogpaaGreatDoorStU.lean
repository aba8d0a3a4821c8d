import Derived.Test.YtnjcenbmdcogpaaGreatDoorStpMath
import Derived.OpenShut
import Derived.ProofKit
import Derived.Test.YtnjcenbmdcogpaaGreatDoorStpGetA
import Derived.Test.YtnjcenbmdcogpaaGreatDoorRdL
/- Rows of steps. -/
namespace Go.Proofs.YtnjcenbmdcogpaaGreatDoor.Sp
open Go Go.RowKit
set_option linter.unusedSimpArgs false

/-- A slice that reads as events. -/
def RdT (w : World) (A : Option Addr) (len : Nat) (ms : List St) : Prop :=
  ms.length = len ∧ (0 < len → ∃ b off, A = some ⟨b, off, none⟩ ∧ b < w.heap.size ∧ ∀ i, i < len → ∀ j v, ((ms.getD i St0).cells)[j]? = some v → w.cell? ⟨b, off + i * 8 + j, none⟩ = some v)

theorem RdT.below {w w' : World} {A : Option Addr} {len : Nat} {ms : List St} (h : RdT w A len ms) (hb : Below w.heap.size w w') : RdT w' A len ms :=
  ⟨h.1, fun hl => by
    obtain ⟨b, off, rfl, hbl, hc⟩ := h.2 hl
    exact ⟨b, off, rfl, Nat.lt_of_lt_of_le hbl hb.size, fun i hi j v hv => (hb.cell (p := ⟨b, _, none⟩) hbl).trans (hc i hi j v hv)⟩⟩

/-- The i-th step stands there, in the world W behind w. -/
def At (W : World) (b o : Nat) (m : St) : Prop :=
  W.cell? ⟨b, o, none⟩ = some (.int .i64 m.k) ∧ W.cell? ⟨b, o + 1, none⟩ = some (.int .i64 m.sd) ∧ W.cell? ⟨b, o + 2, none⟩ = some (.int .i64 m.n) ∧ W.cell? ⟨b, o + 3, none⟩ = some (.int .i64 m.c) ∧
  W.cell? ⟨b, o + 4, none⟩ = some (.int .i64 m.f) ∧ W.cell? ⟨b, o + 5, none⟩ = some (.int .u64 m.s) ∧ W.cell? ⟨b, o + 6, none⟩ = some (.int .u64 m.t) ∧ W.cell? ⟨b, o + 7, none⟩ = some (.string m.d)

theorem RdT.at {w W : World} {A : Option Addr} {len : Nat} {ms : List St} (h : RdT w A len ms) (hb : Below w.heap.size w W) (hl : 0 < len) :
    ∃ b off, A = some ⟨b, off, none⟩ ∧ b < w.heap.size ∧ ∀ i, i < len → At W b (off + i * 8) (ms.getD i St0) := by
  obtain ⟨b, off, rfl, hbl, hc⟩ := h.2 hl
  refine ⟨b, off, rfl, hbl, fun i hi => ?_⟩
  have h1 : ∀ j v, ((ms.getD i St0).cells)[j]? = some v → W.cell? ⟨b, off + i * 8 + j, none⟩ = some v := fun j v hv => (hb.cell (p := ⟨b, _, none⟩) hbl).trans (hc i hi j v hv)
  exact ⟨h1 0 _ rfl, h1 1 _ rfl, h1 2 _ rfl, h1 3 _ rfl, h1 4 _ rfl, h1 5 _ rfl, h1 6 _ rfl, h1 7 _ rfl⟩

theorem At.alloc {W : World} {b o : Nat} {m : St} (h : At W b o m) (hb : b < W.heap.size) (x : Obj) : At (W.alloc x) b o m := by
  obtain ⟨h0, h1, h2, h3, h4, h5, h6, h7⟩ := h
  have H : ∀ i v, W.cell? ⟨b, i, none⟩ = some v → (W.alloc x).cell? ⟨b, i, none⟩ = some v := fun i v hv => (World.cell?_alloc_lt W _ _ (by exact hb)).trans hv
  exact ⟨H _ _ h0, H _ _ h1, H _ _ h2, H _ _ h3, H _ _ h4, H _ _ h5, H _ _ h6, H _ _ h7⟩


theorem lt_blk {W : World} {g : Nat} {o : Obj} (h : W.heap[g]? = some o) : g < W.heap.size := (Array.getElem?_eq_some_iff.1 h).1
def sts (ms : List St) : List Value := ms.flatMap fun m => m.cells.toList

theorem sts_snoc (ms : List St) (m : St) : sts (ms ++ [m]) = sts ms ++ m.cells.toList := by simp [sts]

theorem sts_at : ∀ (ms : List St) (i j : Nat), i < ms.length → j < 8 → (sts ms)[i * 8 + j]? = ((ms.getD i St0).cells)[j]?
  | [], i, j, h, _ => absurd h (by simp)
  | m :: ms, 0, j, _, hj => by
    show (m.cells.toList ++ sts ms)[0 * 8 + j]? = _
    rw [List.getElem?_append_left (by simp [St.cells]; omega)]
    simp
  | m :: ms, i + 1, j, h, hj => by
    show (m.cells.toList ++ sts ms)[(i + 1) * 8 + j]? = _
    rw [List.getElem?_append_right (by simp [St.cells]; omega)]
    have := sts_at ms i j (by simpa using h) hj
    rw [show (i + 1) * 8 + j - m.cells.toList.length = i * 8 + j from by simp [St.cells]; omega, this]
    simp

theorem new_rd {W : World} {b : Nat} {cs : Array Value} {ms : List St} (h : W.heap[b]? = some (.cells cs 26 (0, 0))) (hc : cs.toList = sts ms) : RdT W (some ⟨b, 0, none⟩) ms.length ms := by
  refine ⟨rfl, fun _ => ⟨b, 0, rfl, lt_blk h, fun i hi j v hv => ?_⟩⟩
  have hj : j < 8 := by
    have := (Array.getElem?_eq_some_iff.1 hv).1
    simpa [St.cells] using this
  rw [cell_of_row W b _ cs _ (0, 0) h, ← Array.getElem?_toList, hc, Nat.zero_add, sts_at ms i j hi hj, hv]


/-- Events one behind the other. -/
theorem row_at {w : World} {base n c : Nat} {A : Option Addr} {ms : List St} (h : w.ownsRow base 26 8 (.slice A n c) n (sts ms)) (hn : ms.length = n) : RdT w A n ms := by
  refine ⟨hn, fun hl => ?_⟩
  rcases h.2 with ⟨_, h0⟩ | ⟨g, cap, cur, hv, _, hh, hc, _, hsz, htk⟩
  · omega
  · injection hv with hA _ hcc
    subst hA hcc
    refine ⟨g, 0, rfl, lt_blk hh, fun i hi j v hv => ?_⟩
    have hj : j < 8 := by
      have := (Array.getElem?_eq_some_iff.1 hv).1
      simpa [St.cells] using this
    rw [cell_of_row w g _ cur _ (0, 0) hh, ← Array.getElem?_toList]
    have h1 : (cur.toList.take (n * 8))[0 + i * 8 + j]? = cur.toList[0 + i * 8 + j]? := List.getElem?_take_of_lt (by omega)
    rw [← h1, htk, Nat.zero_add, sts_at ms i j (by omega) hj, hv]

theorem own_form8 {w : World} {base e n size : Nat} {v : Value} {xs : List Value} (h : w.ownsRow base e size v n xs) : ∃ A c, v = .slice A n c := by
  rcases h.2 with ⟨rfl, rfl⟩ | ⟨g, cap, cur, rfl, _⟩
  · exact ⟨none, 0, rfl⟩
  · exact ⟨_, _, rfl⟩

theorem infoSt : (Tryz.prog.info? 26).map (fun i => (i.zero, i.size, i.bytes)) = some (some (.agg #[.int .i64 0, .int .i64 0, .int .i64 0, .int .i64 0, .int .i64 0, .int .u64 0, .int .u64 0, .string ⟨#[]⟩]), 8, 72) := by kernel_rfl

theorem cells8_new (w : World) (m : St) (t : TypeId) : ∀ j u, (m.cells.toList)[j]? = some u → (w.alloc (.cells m.cells t)).cell? ((⟨w.heap.size, 0, none⟩ : Addr).add j) = some u := by
  intro j u hj
  have : (⟨w.heap.size, 0, none⟩ : Addr).add j = ⟨w.heap.size, j, none⟩ := by unfold Addr.add; by_cases h : j = 0 <;> simp [h]
  rw [this, cell_of_row _ _ _ _ _ (0, 0) (heap_alloc_new w _), ← Array.getElem?_toList]
  exact hj

theorem cells8_all (m : St) : ∀ u ∈ m.cells.toList, u.oneCell' = true := by
  intro u hu
  simp [St.cells] at hu
  rcases hu with rfl | rfl | rfl | rfl | rfl | rfl | rfl | rfl <;> rfl
end Go.Proofs.YtnjcenbmdcogpaaGreatDoor.Sp
/- wire.Each of steps: all of a list of parts, or which one is none. -/
namespace Go.Proofs.YtnjcenbmdcogpaaGreatDoor.Rd
open Go Go.RowKit Num Texts Packet
open Sp (St St0 getG get_any sts sts_snoc own_form8 infoSt cells8_new)

/-- the events of parts, or which part is none, and why -/
def eachS : Nat → List ByteArray → List St × Nat × Int
  | _, [] => ([], 0, 0)
  | i, s :: r => if (getG s).2 ≠ 0 then ([], i + 1, (getG s).2) else if (eachS (i + 1) r).2.2 ≠ 0 then ([], (eachS (i + 1) r).2) else ((getG s).1 :: (eachS (i + 1) r).1, (eachS (i + 1) r).2)
def glueS (xs : List St) (y : List St × Nat × Int) : List St × Nat × Int := if y.2.2 ≠ 0 then ([], y.2) else (xs ++ y.1, y.2)
theorem glueS_nil (i : Nat) : ∀ (l : List ByteArray), glueS [] (eachS i l) = eachS i l
  | [] => rfl
  | s :: r => by
    unfold glueS
    split
    · rename_i h
      unfold eachS at h ⊢
      split
      · rfl
      · rename_i h1
        rw [if_neg h1] at h
        split
        · rfl
        · rename_i h2; rw [if_neg h2] at h; exact absurd h h2
    · rfl
theorem glueS_ok (xs : List St) (i : Nat) (s : ByteArray) (r : List ByteArray) (q : St) (h : getG s = (q, 0)) : glueS xs (eachS i (s :: r)) = glueS (xs ++ [q]) (eachS (i + 1) r) := by
  have e : eachS i (s :: r) = if (eachS (i + 1) r).2.2 ≠ 0 then ([], (eachS (i + 1) r).2) else (q :: (eachS (i + 1) r).1, (eachS (i + 1) r).2) := by
    rw [eachS, h]; rfl
  rw [e]
  unfold glueS
  by_cases h0 : (eachS (i + 1) r).2.2 ≠ 0
  · rw [if_pos h0, if_pos h0, if_pos h0]
  · rw [if_neg h0, if_neg h0, if_neg h0]; simp
theorem glueS_bad (xs : List St) (i : Nat) (s : ByteArray) (r : List ByteArray) (q : St) (e : Int) (he : e ≠ 0) (h : getG s = (q, e)) : glueS xs (eachS i (s :: r)) = ([], i + 1, e) := by
  have e1 : eachS i (s :: r) = ([], i + 1, e) := by rw [eachS, h]; dsimp only; rw [if_pos he]
  rw [e1]
  unfold glueS
  rw [if_pos he]
theorem glueS_end (xs : List St) (i : Nat) : glueS xs (eachS i []) = (xs, 0, 0) := by
  unfold glueS eachS
  rw [if_neg (by simp)]; simp

set_option maxRecDepth 20000 in
set_option maxHeartbeats 2000000 in
theorem seach_any (A : Option Addr) (n c : Nat) (ss : List ByteArray) (W : World) (hr : RdS W A n ss) (hs : ∀ i, (ss.getD i .empty).size ≤ 1099511627776) (hn : n ≤ 1000000) :
    Calls Tryz.prog 84 #[.slice A n c, .func (.func 12) #[] #[]] W
      fun e w' => (∃ v, e = .returned (.tuple #[v, .int .i64 ((eachS 0 ss).2.1 : Int), .int .i64 (eachS 0 ss).2.2]) ∧ w'.ownsRow W.heap.size 26 8 v (eachS 0 ss).1.length (sts (eachS 0 ss).1)) ∧ Below W.heap.size W w' := by
  obtain ⟨i1, hi1, hy0, hy1, hy2⟩ := info_parts infoSt
  have HI := Lib.hid (And.intro hi1 (And.intro hy0 (And.intro hy1 hy2)))
  have HR := Lib.hid hr
  have HS := Lib.hid hs
  obtain ⟨L, hL⟩ : ∃ L, L = eachS 0 ss := ⟨_, rfl⟩
  rw [← hL]
  have HL := Lib.hid hL
  clear hr hs hL hi1 hy0 hy1 hy2
  go_enter Tryz.func84, Tryz.ntmps84
  go_wp2
  go_loopw [4, 13] (fun l i wr => ∃ (k : Nat) (xs : List St), i = .int .i64 (k : Int) ∧ k ≤ n ∧ xs.length = k ∧ Hid (eachS 0 ss = glueS xs (eachS k (ss.drop k))) ∧ wr.ownsRow W.heap.size 26 8 l k (sts xs) ∧ Below W.heap.size W wr) (fun _ i _ => n - (intOf i).toNat)
  case atStart => exact ⟨0, [], rfl, Nat.zero_le _, rfl, Lib.hid (glueS_nil 0 ss).symm, World.ownsRow_nil _ _ _ _, Below.refl _ _⟩
  case round =>
    obtain ⟨k, xs, rfl, hk, hpk, hG, hT, hB⟩ := hrel
    obtain ⟨Al, cl, rfl⟩ := own_form8 hT
    have HPK := Lib.hid hpk
    have HT := Lib.hid hT
    have HB := Lib.hid hB
    clear hT hB hpk
    by_cases hlt : k < n
    · obtain ⟨b, off, hA, hbl, hc⟩ := HR.out.2 (by omega)
      subst hA
      have hck := (HB.out.cell (p := ⟨b, off + k, none⟩) hbl).trans (hc k hlt)
      have hkl : k < ss.length := by have := HR.out.1; omega
      have hdrop : ss.drop k = ss.getD k .empty :: ss.drop (k + 1) := by
        rw [List.drop_eq_getElem_cons hkl, List.getD_eq_getElem?_getD, List.getElem?_eq_getElem hkl]; rfl
      have hok := fun q h => glueS_ok xs k (ss.getD k .empty) (ss.drop (k + 1)) q h
      have hbd := fun q e he h => glueS_bad xs k (ss.getD k .empty) (ss.drop (k + 1)) q e he h
      rw [← hdrop] at hok hbd
      have hget := get_any (ss.getD k .empty) (HS.out k)
      generalize ss.getD k .empty = s at hck hok hbd hget
      generalize getG s = y at hok hbd hget
      obtain ⟨q, e⟩ := y
      dsimp only at hget
      unfold St.cells at hget
      have HOk := Lib.hid hok
      have HBd := Lib.hid hbd
      have HGet := Lib.hid hget
      have hi0 : (0 : Int) ≤ (k : Int) := by omega
      have hi2 : (k : Int) < (n : Int) := by omega
      have hi3 : (k : Int) ≤ 1000000 := by omega
      clear hok hbd hget hdrop hc
      go_wp2_with fail
      refine (HGet.out _).mono ?_
      rintro _ w2 ⟨rfl, b2⟩
      have HT2 := Lib.hid (own_below HT.out b2)
      have HB2 := Lib.hid (HB.out.trans (b2.mono HB.out.size))
      clear b2 hck HT HB HGet
      by_cases he : e = 0
      · subst he
        go_upto_region 7 with fail
        obtain ⟨W3, hW3⟩ : ∃ X, X = w2.alloc (.cells #[.int .i64 q.k, .int .i64 q.sd, .int .i64 q.n, .int .i64 q.c, .int .i64 q.f, .int .u64 q.s, .int .u64 q.t, .string q.d] 26) := ⟨_, rfl⟩
        rw [← hW3]
        have hb3 : Below w2.heap.size w2 W3 := by rw [hW3]; exact (Below.refl _ _).alloc (Nat.le_refl _) _
        have hQ := heap_alloc_new w2 (.cells #[.int .i64 q.k, .int .i64 q.sd, .int .i64 q.n, .int .i64 q.c, .int .i64 q.f, .int .u64 q.s, .int .u64 q.t, .string q.d] 26)
        rw [← hW3] at hQ
        have HT3 := Lib.hid (own_below HT2.out hb3)
        have HB3 := Lib.hid (HB2.out.trans (hb3.mono HB2.out.size))
        obtain ⟨Q, hQe⟩ : ∃ Q, Q = w2.heap.size := ⟨_, rfl⟩
        rw [← hQe] at hQ ⊢
        obtain ⟨x0, x1, x2, x3, x4, x5, x6, x7⟩ : _ ∧ _ ∧ _ ∧ _ ∧ _ ∧ _ ∧ _ ∧ _ := ⟨cell_of_row W3 _ 0 _ _ (0, 0) hQ, cell_of_row W3 _ 1 _ _ (0, 0) hQ, cell_of_row W3 _ 2 _ _ (0, 0) hQ, cell_of_row W3 _ 3 _ _ (0, 0) hQ, cell_of_row W3 _ 4 _ _ (0, 0) hQ, cell_of_row W3 _ 5 _ _ (0, 0) hQ, cell_of_row W3 _ 6 _ _ (0, 0) hQ, cell_of_row W3 _ 7 _ _ (0, 0) hQ⟩
        clear hW3 hb3 hQ hQe HT2 HB2
        have hz3 : W.heap.size ≤ W3.heap.size := HB3.out.size
        have hkn : k ≤ 1000000 := by omega
        go_wp2_with (at_builtin; refine wpList_append_own_at _ rfl _ _ 28 rfl W.heap.size 26 i1 _ 8 72 Tryz.underlying28 HI.out.1 HI.out.2.1 HI.out.2.2.1 HI.out.2.2.2 rfl (by decide) _ _ _ rfl (HT3.out.alloc _) ⟨W3.heap.size, 0, none⟩ 1 1 (St.cells q).toList rfl rfl (cells8_new W3 q _) (Sp.cells8_all _) (by unfold maxLen; omega) (by omega) (by simp; omega) ?_; intro v4 w4 hown4 hg4 _ _)
        have hwa := HT3.out.alloc (.cells (St.cells q) 26)
        have hB4 := below_push HB3.out hz3 HT3.out hg4
        refine ⟨⟨k + 1, xs ++ [q], by go_num, by omega, by simp [HPK.out], Lib.hid (hG.out.trans (HOk.out q rfl)), by rw [sts_snoc]; exact hown4, hB4⟩, by simp [intOf]; omega⟩
      · have he2 : (e == 0) = false := by simpa using he
        have HX : Hid (L = ([], k + 1, e)) := Lib.hid (by rw [HL.out, hG.out]; exact HBd.out q e he rfl)
        clear HL HOk HBd hG hk HR HS
        have hB9 : ∀ o, Below W.heap.size W (w2.alloc o) := fun o => HB2.out.alloc HB2.out.size o
        go_wp2
        refine bodyPost_ret (results_tmp3 rfl _ _ _) rfl ?_
        refine ⟨⟨.slice none 0 0, ?_, by rw [HX.out]; exact World.ownsRow_nil _ _ _ _⟩, hB9 _⟩
        rw [HX.out]; rfl
    · obtain rfl : k = n := by omega
      have HX : Hid (L = (xs, 0, 0)) := Lib.hid (by rw [HL.out, hG.out, List.drop_of_length_le (by have := HR.out.1; omega)]; exact glueS_end xs k)
      clear HL hG
      go_wp2
      refine bodyPost_ret (results_tmp3 rfl _ _ _) rfl ?_
      refine ⟨⟨.slice Al k cl, ?_, by rw [HX.out, HPK.out]; exact HT.out⟩, HB.out⟩
      rw [HX.out]; rfl
end Go.Proofs.YtnjcenbmdcogpaaGreatDoor.Rd
/- wire.Unpack of steps, step.Unpack: which log any bytes are. -/
namespace Go.Proofs.YtnjcenbmdcogpaaGreatDoor.Rd
open Go Go.RowKit Num Texts Packet
open Sp (St St0 getG sts own_form8)

/-- the events of bytes, or which one is none, and why -/
def unpackS (s : ByteArray) : List St × Nat × Int := if ((R2.mk s 0).list 1024).2.end' ≠ 0 then ([], 0, ((R2.mk s 0).list 1024).2.end') else eachS 0 ((R2.mk s 0).list 1024).1

set_option maxRecDepth 20000 in
set_option maxHeartbeats 2000000 in
theorem wsunpack_any (s : ByteArray) (hs : s.size ≤ 1099511627776) (W : World) :
    Calls Tryz.prog 58 #[.string s, .func (.func 12) #[] #[]] W fun e w' => (∃ v, e = .returned (.tuple #[v, .int .i64 ((unpackS s).2.1 : Int), .int .i64 (unpackS s).2.2]) ∧ w'.ownsRow W.heap.size 26 8 v (unpackS s).1.length (sts (unpackS s).1)) ∧ Below W.heap.size W w' := by
  have HT := Lib.hid (fun (R : Nat) (V : World) (h : Lies V R ⟨s, 0⟩) => rlist_any R ⟨s, 0⟩ 1024 (by decide) hs V h)
  have hsz := R2.list_size ⟨s, 0⟩ 1024
  have hu : unpackS s = if ((R2.mk s 0).list 1024).2.end' ≠ 0 then ([], 0, ((R2.mk s 0).list 1024).2.end') else eachS 0 ((R2.mk s 0).list 1024).1 := rfl
  generalize unpackS s = U at *
  generalize (R2.mk s 0).list 1024 = x at *
  obtain ⟨xs, r⟩ := x
  dsimp only at hu HT hsz
  have HU := Lib.hid hu
  have HSz := Lib.hid hsz
  clear hu hsz
  go_enter Tryz.func58, Tryz.ntmps58
  go_wp2_with fail
  refine (new_any s _).mono ?_
  rintro _ w1 ⟨rfl, hw⟩
  have hR : Lies w1 W.heap.size ⟨s, 0⟩ := by rw [hw]; exact heap_alloc_new W _
  have HB := Lib.hid (show Below W.heap.size W w1 by rw [hw]; exact (Below.refl _ _).alloc (Nat.le_refl _) _)
  clear hw
  go_wp2_with fail
  refine (HT.out _ _ hR).mono ?_
  rintro _ w2 ⟨⟨v, rfl, hv⟩, hR2, hO⟩
  obtain ⟨A, c, rfl⟩ := own_form hv
  have HB2 := Lib.hid (Only.below HB.out hO (Nat.le_refl _) HB.out.size)
  have HV := Lib.hid hv
  have HE := Lib.hid (end_any W.heap.size r w2 hR2)
  clear hv hR hR2 hO HB HT
  go_wp2_with fail
  refine HE.out.mono ?_
  rintro _ w3 ⟨rfl, hw⟩
  obtain rfl := hw.symm
  clear hw HE
  obtain ⟨e, hee⟩ : ∃ e, e = r.end' := ⟨_, rfl⟩
  rw [← hee]
  have HEe : Hid (r.end' = e) := Lib.hid hee.symm
  clear hee
  by_cases he : e = 0
  · subst he
    have HX : Hid (U = eachS 0 xs) := Lib.hid (by rw [HU.out, HEe.out, if_neg (by simp)])
    clear HU HEe
    have HEa := Lib.hid (seach_any A xs.length c xs w2 (own_rds HV.out) (fun i => by
      rw [List.getD_eq_getElem?_getD]
      by_cases hi : i < xs.length
      · rw [List.getElem?_eq_getElem hi]
        have := HSz.out.2 _ (List.getElem_mem hi)
        show xs[i].size ≤ _
        omega
      · rw [List.getElem?_eq_none (by omega)]; exact Nat.zero_le _) (by have := HSz.out.1; omega))
    clear HV HSz
    go_wp2_with fail
    refine HEa.out.mono ?_
    rintro _ w4 ⟨⟨v4, rfl, hrow⟩, b4⟩
    have HRow := Lib.hid (Msg.own_base hrow HB2.out.size)
    have HB4 := Lib.hid (HB2.out.trans (b4.mono HB2.out.size))
    obtain ⟨Av, cv, rfl⟩ := own_form8 hrow
    clear hrow b4 HEa
    go_wp2
    refine bodyPost_ret (results_tmp3 rfl _ _ _) rfl ?_
    exact ⟨⟨_, by rw [HX.out]; rfl, by rw [HX.out]; exact HRow.out⟩, HB4.out⟩
  · have he2 : (e == 0) = false := by simpa using he
    have HX : Hid (U = ([], 0, e)) := Lib.hid (by rw [HU.out, HEe.out, if_pos he])
    clear HU HEe HV HSz
    go_wp2
    refine bodyPost_ret (results_tmp3 rfl _ _ _) rfl ?_
    exact ⟨⟨.slice none 0 0, by rw [HX.out]; rfl, by rw [HX.out]; exact World.ownsRow_nil _ _ _ _⟩, HB2.out⟩

set_option maxRecDepth 20000 in
set_option maxHeartbeats 1000000 in
theorem sunpack_any (s : ByteArray) (hs : s.size ≤ 1099511627776) (W : World) :
    Calls Tryz.prog 18 #[.string s] W fun e w' => (∃ v, e = .returned (.tuple #[v, .int .i64 ((unpackS s).2.1 : Int), .int .i64 (unpackS s).2.2]) ∧ w'.ownsRow W.heap.size 26 8 v (unpackS s).1.length (sts (unpackS s).1)) ∧ Below W.heap.size W w' := by
  have HU := Lib.hid (fun V => wsunpack_any s hs V)
  generalize unpackS s = U at *
  clear hs
  go_enter Tryz.func18, Tryz.ntmps18
  go_wp2_with fail
  refine (HU.out _).mono ?_
  rintro _ w4 ⟨⟨v4, rfl, hrow⟩, b4⟩
  obtain ⟨Av, cv, rfl⟩ := own_form8 hrow
  have HRow := Lib.hid hrow
  have HB4 := Lib.hid b4
  clear hrow b4
  go_wp2
  refine bodyPost_ret (results_tmp3 rfl _ _ _) rfl ?_
  exact ⟨⟨_, rfl, HRow.out⟩, HB4.out⟩
end Go.Proofs.YtnjcenbmdcogpaaGreatDoor.Rd
