import Derived.Test.YtdljphbfbiganaaGreatDoorGCommon
import Derived.Test.YtdljphbfbiganaaGreatDoorGBuilder
import Derived.Test.YtdljphbfbiganaaGreatDoorGPacket
import Derived.Deep.Cut
import Derived.Test.YtdljphbfbiganaaGreatDoorGShaCells
import Derived.Test.YtdljphbfbiganaaGreatDoorGShaCells
/- The page's Num: the bytes of a number. -/
namespace Go.Proofs.YtdljphbfbiganaaGreatDoor.Num
open Go.RowKit

theorem u8_one (l : List Int) : ∀ u ∈ vals l, u.oneCell' = true := by
  intro u hu; simp only [vals, List.mem_map] at hu; obtain ⟨x, _, rfl⟩ := hu; rfl

set_option maxRecDepth 20000 in
set_option maxHeartbeats 400000 in
theorem ref_num_any (n : Nat) (hn : n < 18446744073709551616) (w : World) :
    Calls Tryz.prog 58 #[.int .u64 (n : Int)] w fun e w' => e = .returned (.string (numS n)) ∧ Below w.heap.size w w' := by
  obtain ⟨i0, hi, hz0, hz1, hz2⟩ := info_parts info5
  have HL : Hid ((dig n).length ≤ 8) := Lib.hid (dig_len (by simpa using hn))
  have HN := Lib.hid hn
  clear hn
  go_enter Tryz.func58, Tryz.ntmps58
  go_wp2
  go_loopw [0, 3] (fun x v wr => ∃ (m : Nat) (B : List Int), x = .int .u64 (m : Int) ∧ Hid (dig n = dig m ++ B ∧ m ≤ n) ∧ wr.ownsRow w.heap.size 5 1 v B.length (vals B) ∧ Below w.heap.size w wr)
    (fun x _ _ => (intOf x).toNat)
  case atStart => exact ⟨n, [], rfl, Lib.hid ⟨by simp, Nat.le_refl _⟩, World.ownsRow_nil _ _ _ _, Below.refl _ _⟩
  case round =>
    obtain ⟨m, B, rfl, HD, hown, hb⟩ := hrel
    obtain ⟨A, c, rfl⟩ := own_form hown
    have hsz := hb.size
    have hlen : B.length ≤ 8 := by have h1 := congrArg List.length HD.out.1; have h2 := HL.out; simp at h1; omega
    by_cases hz : 0 < m
    · have hm : (0 : Int) < (m : Int) := by omega
      have hnew : (wr.alloc (.cells #[.int .u8 ((m : Int) % 256)] 5)).ownsRow w.heap.size 5 1 (.slice (some ⟨wr.heap.size, 0, none⟩) 1 1) 1 (vals [(m : Int) % 256]) := World.ownsRow_lit _ _ 1 hsz (by decide) rfl
      go_wp2_with (at_builtin; refine wpList_append_rows rfl _ _ 81 rfl w.heap.size w.heap.size 5 i0 (.int .u8 0) 1 1 Tryz.underlying81 hi hz0 hz1 hz2 rfl (by decide) (.slice (some ⟨wr.heap.size, 0, none⟩) 1 1) 1 (vals [(m : Int) % 256]) rfl hnew _ _ _ rfl (hown.alloc _) (u8_one _) (by unfold maxLen; omega) (by omega) (by simp; omega) ?_; intro v1 w1 hown1 hg1)
      have hw : IntKind.u64.wrap ((m : Int) / 256) = ((m / 256 : Nat) : Int) := by
        have h1 := HD.out.2; have h2 := HN.out
        rw [IntWalk.u64_in _ ⟨by omega, by omega⟩]; rfl
      rw [hw]
      refine ⟨⟨m / 256, ((m : Int) % 256) :: B, rfl, Lib.hid ⟨?_, by have := HD.out.2; omega⟩, ?_, (hb.alloc hsz _).grown hg1 (by simp; omega) (own_ge hnew)⟩, by simp [intOf]; omega⟩
      · have h1 := HD.out.1; rw [dig_pos (m := m) (by omega)] at h1; rw [h1]; simp
      · rw [List.length_cons, Nat.add_comm]; exact hown1
    · have hm : m = 0 := by omega
      subst hm
      have hD := HD.out.1
      rw [dig_zero, List.nil_append] at hD
      subst hD
      have h1 := one_text wr ((dig n).length : Int)
      have h2 := own_text (hown.alloc (.cells #[.int .u8 ((dig n).length : Int)] 5))
      have h3 : (strOfNums [((dig n).length : Int)]).size + (strOfNums (dig n)).size ≤ 9223372036854775807 := by
        rw [strOfNums_size, strOfNums_size, List.length_singleton]; omega
      go_wp2
      go_ret
      exact ⟨rfl, hb.alloc hb.size _⟩
end Go.Proofs.YtdljphbfbiganaaGreatDoor.Num
/- The page's Num, of whole numbers as the walk has them. -/
namespace Go.Proofs.YtdljphbfbiganaaGreatDoor.Num
open Go.RowKit

theorem ref_num_int (x : Int) (h0 : 0 ≤ x) (h1 : x < 18446744073709551616) (w : World) :
    Calls Tryz.prog 58 #[.int .u64 x] w fun e w' => e = .returned (.string (kS x)) ∧ Below w.heap.size w w' := by
  obtain ⟨n, rfl⟩ := Int.eq_ofNat_of_zero_le h0
  unfold kS
  rw [Int.toNat_natCast, Nat.mod_eq_of_lt (by omega)]
  exact ref_num_any n (by omega) w

end Go.Proofs.YtdljphbfbiganaaGreatDoor.Num
/- The page's Text. -/
namespace Go.Proofs.YtdljphbfbiganaaGreatDoor.Texts
open Go.RowKit Num Bld

theorem mk_append (a b : List UInt8) : (⟨a.toArray⟩ : ByteArray) ++ ⟨b.toArray⟩ = ⟨(a ++ b).toArray⟩ := by
  apply ByteArray.ext; simp
theorem mk_self (s : ByteArray) : (⟨s.data.toList.toArray⟩ : ByteArray) = s := rfl

theorem numS_size' (n : Nat) (h : n < 18446744073709551616) : (numS n).size ≤ 9 := by
  have := dig_len (m := n) (k := 8) (by simpa using h)
  unfold numS
  rw [ByteArray.size_append, strOfNums_size, strOfNums_size, List.length_singleton]
  omega

set_option maxRecDepth 20000 in
set_option maxHeartbeats 400000 in
theorem ref_text_any (s : ByteArray) (w : World) (hs : s.size ≤ 140737488355328) :
    Calls Tryz.prog 59 #[.string s] w fun e w' => e = .returned (.string ⟨(textL s).toArray⟩) ∧ Below w.heap.size w w' := by
  have hadd : ∀ W, (Op.stringOp .add (numS s.size) s).run Tryz.prog W = .ok (.string (numS s.size ++ s)) W := fun W => run_string_add_sum W _ _ (by have := numS_size' s.size (by omega); omega)
  have he : numS s.size ++ s = ⟨(textL s).toArray⟩ := by
    unfold textL
    rw [← mk_append]
  have HE := Lib.hid he; clear he
  go_enter Tryz.func59, Tryz.ntmps59
  go_wp2_with fail
  refine (ref_num_any s.size (by omega) _).mono ?_
  rintro e w1 ⟨rfl, b1⟩
  go_wp2
  go_ret
  exact ⟨by rw [← HE.out]; rfl, b1⟩

end Go.Proofs.YtdljphbfbiganaaGreatDoor.Texts
/- The page's Right and Put of a packet. -/
namespace Go.Proofs.YtdljphbfbiganaaGreatDoor.Packet
open Go.RowKit Num Texts

set_option maxHeartbeats 1000000 in
theorem rright_yes (p : P5) (h : p.right) (w : World) :
    Calls Tryz.prog 44 #[.agg #[.int .i64 p.c, .int .i64 p.f, .int .u64 p.s, .int .u64 p.t, .string p.d]] w fun e w' => e = .returned (.bool true) ∧ Below w.heap.size w w' := by
  obtain ⟨h0, h1, h2, h3⟩ := h
  have h1 : p.c ≤ 3 := by omega
  have h3 : (p.d.size : Int) ≤ 64 := by omega
  rcases h2 with h2 | h2
  · go_enter Tryz.func44, Tryz.ntmps44
    go_wp2
    go_ret
    exact ⟨rfl, (Below.refl _ _).alloc (Nat.le_refl _) _⟩
  · go_enter Tryz.func44, Tryz.ntmps44
    go_wp2
    go_ret
    exact ⟨rfl, (Below.refl _ _).alloc (Nat.le_refl _) _⟩

set_option maxHeartbeats 1000000 in
theorem rright_no (p : P5) (h : ¬ p.right) (w : World) :
    Calls Tryz.prog 44 #[.agg #[.int .i64 p.c, .int .i64 p.f, .int .u64 p.s, .int .u64 p.t, .string p.d]] w fun e w' => e = .returned (.bool false) ∧ Below w.heap.size w w' := by
  rcases (show p.c < 0 ∨ (0 ≤ p.c ∧ 3 < p.c) ∨ (0 ≤ p.c ∧ p.c ≤ 3 ∧ p.f < 0) ∨ (0 ≤ p.c ∧ p.c ≤ 3 ∧ 0 ≤ p.f ∧ 1 < p.f) ∨ (0 ≤ p.c ∧ p.c ≤ 3 ∧ 0 ≤ p.f ∧ p.f ≤ 1 ∧ (64 : Int) < (p.d.size : Int)) from by
    by_cases h0 : p.c < 0
    · exact .inl h0
    · by_cases h1 : 3 < p.c
      · exact .inr (.inl ⟨by omega, h1⟩)
      · by_cases h2 : p.f < 0
        · exact .inr (.inr (.inl ⟨by omega, by omega, h2⟩))
        · by_cases h3 : 1 < p.f
          · exact .inr (.inr (.inr (.inl ⟨by omega, by omega, by omega, h3⟩)))
          · refine .inr (.inr (.inr (.inr ⟨by omega, by omega, by omega, by omega, ?_⟩)))
            by_cases h4 : p.d.size ≤ 64
            · exact absurd ⟨by omega, by omega, by omega, h4⟩ h
            · omega) with h0 | ⟨h0, h1⟩ | ⟨h0, h1, h2⟩ | ⟨h0, h1, h2, h3⟩ | ⟨h0, h1, h2, h3, h4⟩
  · clear h
    go_enter Tryz.func44, Tryz.ntmps44
    go_wp2
    go_ret
    exact ⟨rfl, (Below.refl _ _).alloc (Nat.le_refl _) _⟩
  · clear h
    go_enter Tryz.func44, Tryz.ntmps44
    go_wp2
    go_ret
    exact ⟨rfl, (Below.refl _ _).alloc (Nat.le_refl _) _⟩
  · clear h
    go_enter Tryz.func44, Tryz.ntmps44
    go_wp2
    go_ret
    exact ⟨rfl, (Below.refl _ _).alloc (Nat.le_refl _) _⟩
  · clear h
    go_enter Tryz.func44, Tryz.ntmps44
    go_wp2
    go_ret
    exact ⟨rfl, (Below.refl _ _).alloc (Nat.le_refl _) _⟩
  · have h5 : decide ((p.d.size : Int) ≤ 64) = false := decide_eq_false (by omega)
    clear h
    go_enter Tryz.func44, Tryz.ntmps44
    go_wp2
    go_ret
    exact ⟨by rw [← h5]; rfl, (Below.refl _ _).alloc (Nat.le_refl _) _⟩

set_option maxRecDepth 20000 in
set_option maxHeartbeats 1000000 in
theorem rput_yes (p : P5) (h : p.right) (ho : p.ok) (w : World) :
    Calls Tryz.prog 45 #[.agg #[.int .i64 p.c, .int .i64 p.f, .int .u64 p.s, .int .u64 p.t, .string p.d]] w fun e w' => e = .returned (.string p.bytes) ∧ Below w.heap.size w w' := by
  have k2 := add_run Tryz.prog
  have k3 := add_run3 Tryz.prog
  have k4 := add_run4 Tryz.prog
  have k5 := fun w x y z u => add_run5 Tryz.prog w x y z u p.d h.2.2.2
  obtain ⟨h0, h1, h2, h3⟩ := h
  obtain ⟨s0, s1, t0, t1, _⟩ := ho
  have f0 : 0 ≤ p.f := by omega
  have f1 : p.f < 4 := by omega
  have hcw : IntKind.u64.wrap p.c = p.c := IntWalk.u64_in _ ⟨by omega, by omega⟩
  have hfw : IntKind.u64.wrap p.f = p.f := IntWalk.u64_in _ ⟨by omega, by omega⟩
  have hd1 : p.d.size ≤ 9223372036854775807 := by omega
  have ht : ∀ w, Calls Tryz.prog 59 #[.string p.d] w fun e w' => e = .returned (.string (textB p.d)) ∧ Below w.heap.size w w' := fun w => ref_text_any p.d w (by omega)
  have HT := Lib.hid ht
  clear h2 hd1 ht
  go_enter Tryz.func45, Tryz.ntmps45
  go_upto_region 1 with fail
  have hp0 := PBox.new w p 33
  obtain ⟨w1, hw1⟩ : ∃ X, X = w.alloc (.cells #[.int .i64 p.c, .int .i64 p.f, .int .u64 p.s, .int .u64 p.t, .string p.d] 33) := ⟨_, rfl⟩
  rw [← hw1] at hp0 ⊢
  clear hw1
  go_region_held3 (fun w' => w.heap.size < w'.heap.size ∧ Below w.heap.size w w' ∧ w'.cell? ⟨w.heap.size, 0, none⟩ = some (.int .i64 p.c) ∧ w'.cell? ⟨w.heap.size, 1, none⟩ = some (.int .i64 p.f) ∧ w'.cell? ⟨w.heap.size, 2, none⟩ = some (.int .u64 p.s) ∧ w'.cell? ⟨w.heap.size, 3, none⟩ = some (.int .u64 p.t) ∧ w'.cell? ⟨w.heap.size, 4, none⟩ = some (.string p.d))
    (first | assumption | exact hp0 | exact PBox.drew (by assumption) | exact PBox.drew hp0 | exact PBox.call (by assumption) hb1 | exact PBox.call (PBox.drew hp0) hb1)
    (first
      | (go_at_call 58; ((with_reducible refine (ref_num_int _ (by first | assumption | omega) (by first | assumption | omega) _).mono ?_); rintro e w1 ⟨rfl, hb1⟩))
      | (go_at_call 59; ((with_reducible refine (HT.out _).mono ?_); rintro e w1 ⟨rfl, hb1⟩)))
  go_wp2
  go_ret
  obtain ⟨_, hB, _⟩ : _ ∧ Below w.heap.size w w1 ∧ _ := by assumption
  exact ⟨rfl, hB⟩
end Go.Proofs.YtdljphbfbiganaaGreatDoor.Packet
/- packet.Sum, packet.Key, and the page's. -/
namespace Go.Proofs.YtdljphbfbiganaaGreatDoor.Sha
open Go Go.RowKit Num Texts Packet

/-- a packet's sum -/
def pSum (p : P5) (r : Bool) : Array Value := if r then scells (ofSt p.bytes) else zero32
theorem pSum_size (p : P5) (r : Bool) : (pSum p r).size = 32 := by unfold pSum; split <;> rfl
theorem pbytes_size (p : P5) (h : p.right) : p.bytes.size ≤ 1000000 := by
  have := textB_size p.d h.2.2.2
  have a := kS_size p.c; have b := kS_size p.f; have c := kS_size p.s; have d := kS_size p.t
  unfold P5.bytes
  rw [ByteArray.size_append, ByteArray.size_append, ByteArray.size_append, ByteArray.size_append]
  omega

set_option maxRecDepth 20000 in
set_option maxHeartbeats 1000000 in
theorem psum_no (p : P5) (h : ¬ p.right) (w : World) :
    Calls Tryz.prog 21 #[.agg #[.int .i64 p.c, .int .i64 p.f, .int .u64 p.s, .int .u64 p.t, .string p.d]] w fun e w' => e = .returned (.agg zero32) ∧ Below w.heap.size w w' := by
  have HP := Lib.hid (put_no p h)
  clear h
  go_enter Tryz.func21, Tryz.ntmps21
  go_upto_region 1 with fail
  change Code.wp _ _ _ _ ((w.alloc (.cells #[.int .i64 p.c, .int .i64 p.f, .int .u64 p.s, .int .u64 p.t, .string p.d] 33)).alloc (.cells zero32 58))
  obtain ⟨W0, hW⟩ : ∃ X, X = (w.alloc (.cells #[.int .i64 p.c, .int .i64 p.f, .int .u64 p.s, .int .u64 p.t, .string p.d] 33)).alloc (.cells zero32 58) := ⟨_, rfl⟩
  rw [← hW]
  have hB0 : Below w.heap.size w W0 := by rw [hW]; exact ((Below.refl _ _).alloc (Nat.le_refl _) _).alloc (by simp) _
  have hz1 : (w.alloc (.cells #[.int .i64 p.c, .int .i64 p.f, .int .u64 p.s, .int .u64 p.t, .string p.d] 33)).heap.size = w.heap.size + 1 := by simp
  have hA : W0.heap[w.heap.size]? = some (.cells #[.int .i64 p.c, .int .i64 p.f, .int .u64 p.s, .int .u64 p.t, .string p.d] 33 (0, 0)) := by rw [hW, Below.heap_alloc _ _ _ (by simp)]; exact heap_alloc_new _ _
  have hR0 : W0.heap[w.heap.size + 1]? = some (.cells zero32 58 (0, 0)) := by
    have := heap_alloc_new (w.alloc (.cells #[.int .i64 p.c, .int .i64 p.f, .int .u64 p.s, .int .u64 p.t, .string p.d] 33)) (.cells zero32 58)
    rw [hz1] at this; rw [hW]; exact this
  clear hW hz1
  obtain ⟨c0, c1, c2, c3, c4⟩ : _ ∧ _ ∧ _ ∧ _ ∧ _ := ⟨cell_of_row W0 _ 0 _ _ (0, 0) hA, cell_of_row W0 _ 1 _ _ (0, 0) hA, cell_of_row W0 _ 2 _ _ (0, 0) hA, cell_of_row W0 _ 3 _ _ (0, 0) hA, cell_of_row W0 _ 4 _ _ (0, 0) hA⟩
  have HB := Lib.hid hB0
  have HR := Lib.hid hR0
  clear hB0 hR0 hA
  go_wp2_with fail
  refine (HP.out _).mono ?_
  rintro _ w1 ⟨rfl, b1⟩
  have hR1 := (b1.block _ (Array.getElem?_eq_some_iff.1 HR.out).1).trans HR.out
  have hB1 := HB.out.trans (b1.mono HB.out.size)
  clear c0 c1 c2 c3 c4 HB HR b1
  go_upto_region 3 with fail
  refine wp_region_lit ?_
  refine wpList_step (fun K hK => ?_)
  go_simp
  refine hK _ _ ?_
  clear hK K
  refine wpList_store_rowTo rfl 58 _ _ rfl rfl (w.heap.size + 1) zero32 rfl rfl 58 _ hR1 (i32s _ rfl) rfl zero32_one ?_
  refine wpList_nil ?_
  have HR' := setRow_heap w1 (w.heap.size + 1) _ zero32 58 (0, 0) hR1
  have HB9 : Below w.heap.size w (w1.setRow (w.heap.size + 1) zero32) := below_setRow hB1 (Nat.le_succ _) _
  obtain ⟨W9, hW9⟩ : ∃ X, X = w1.setRow (w.heap.size + 1) zero32 := ⟨_, rfl⟩
  rw [← hW9] at HR' HB9 ⊢
  clear hW9 hR1 hB1
  go_wp2_with fail
  exact bodyPost_ret (results_cell_row Tryz.results21 _ _ (w.heap.size + 1) 58 zero32 (0, 0) (.array 32 5) rfl HR' Tryz.underlying58 (isArr 32 5) (i32s _ rfl)) rfl ⟨rfl, HB9⟩

set_option maxRecDepth 20000 in
set_option maxHeartbeats 1000000 in
theorem psum_yes (p : P5) (h : p.right) (ho : p.ok) (w : World) (ht : Tab w) :
    Calls Tryz.prog 21 #[.agg #[.int .i64 p.c, .int .i64 p.f, .int .u64 p.s, .int .u64 p.t, .string p.d]] w fun e w' => e = .returned (.agg (scells (ofSt p.bytes))) ∧ Below w.heap.size w w' := by
  have HP := Lib.hid (put_yes p h ho)
  have HT := Lib.hid ht
  have hs := pbytes_size p h
  generalize p.bytes = S at *
  have hof : ∀ (bk : Nat) (W : World), Tab W → W.cell? ⟨bk, 0, none⟩ = some (.string S) → bk < W.heap.size → Calls Tryz.prog 27 #[.slice (some ⟨bk, 0, none⟩) 1 1] W fun r w' => r = .returned (.agg (scells (ofSt S))) ∧ Below W.heap.size W w' :=
    fun bk W hW hc hbk => of_any bk 0 1 [S] S hs (join_one S) W hW (fun j x h => by
      match j, h with
      | 0, h => injection h with h; subst h; exact hc
      | (m + 1), h => simp at h) hbk (by simp) (by simp)
  have hone : (scells (ofSt S)).all (·.oneCell') = true := u8_one (sumL (ofSt S))
  have hsz : (scells (ofSt S)).size = 32 := rfl
  generalize scells (ofSt S) = C at *
  have HOf := Lib.hid hof
  have HSz := Lib.hid hsz
  have HOn := Lib.hid hone
  clear h hof hsz hone hs ht ho
  go_enter Tryz.func21, Tryz.ntmps21
  go_upto_region 1 with fail
  change Code.wp _ _ _ _ ((w.alloc (.cells #[.int .i64 p.c, .int .i64 p.f, .int .u64 p.s, .int .u64 p.t, .string p.d] 33)).alloc (.cells zero32 58))
  obtain ⟨W0, hW⟩ : ∃ X, X = (w.alloc (.cells #[.int .i64 p.c, .int .i64 p.f, .int .u64 p.s, .int .u64 p.t, .string p.d] 33)).alloc (.cells zero32 58) := ⟨_, rfl⟩
  rw [← hW]
  have hB0 : Below w.heap.size w W0 := by rw [hW]; exact ((Below.refl _ _).alloc (Nat.le_refl _) _).alloc (by simp) _
  have hz1 : (w.alloc (.cells #[.int .i64 p.c, .int .i64 p.f, .int .u64 p.s, .int .u64 p.t, .string p.d] 33)).heap.size = w.heap.size + 1 := by simp
  have hA : W0.heap[w.heap.size]? = some (.cells #[.int .i64 p.c, .int .i64 p.f, .int .u64 p.s, .int .u64 p.t, .string p.d] 33 (0, 0)) := by rw [hW, Below.heap_alloc _ _ _ (by simp)]; exact heap_alloc_new _ _
  have hR0 : W0.heap[w.heap.size + 1]? = some (.cells zero32 58 (0, 0)) := by
    have := heap_alloc_new (w.alloc (.cells #[.int .i64 p.c, .int .i64 p.f, .int .u64 p.s, .int .u64 p.t, .string p.d] 33)) (.cells zero32 58)
    rw [hz1] at this; rw [hW]; exact this
  clear hW hz1
  obtain ⟨c0, c1, c2, c3, c4⟩ : _ ∧ _ ∧ _ ∧ _ ∧ _ := ⟨cell_of_row W0 _ 0 _ _ (0, 0) hA, cell_of_row W0 _ 1 _ _ (0, 0) hA, cell_of_row W0 _ 2 _ _ (0, 0) hA, cell_of_row W0 _ 3 _ _ (0, 0) hA, cell_of_row W0 _ 4 _ _ (0, 0) hA⟩
  have HB := Lib.hid hB0
  have HR := Lib.hid hR0
  clear hB0 hR0 hA
  go_wp2_with fail
  refine (HP.out _).mono ?_
  rintro _ w1 ⟨rfl, b1⟩
  have HR1 := Lib.hid ((b1.block _ (Array.getElem?_eq_some_iff.1 HR.out).1).trans HR.out)
  have HB1 := Lib.hid (HB.out.trans (b1.mono HB.out.size))
  clear c0 c1 c2 c3 c4 HB HR b1 HP
  go_wp2_with fail
  refine (HOf.out _ _ (tab_below HT.out (HB1.out.alloc HB1.out.size _)) (World.cell?_alloc_mark _ _ _ _ 0) (by simp)).mono ?_
  rintro _ w2 ⟨rfl, b2⟩
  have hl1 := (Array.getElem?_eq_some_iff.1 HR1.out).1
  have hR2 := (b2.block _ (by simp; omega)).trans ((Below.heap_alloc _ _ _ hl1).trans HR1.out)
  have hB2 := (HB1.out.alloc HB1.out.size (.cells #[.string S] 9)).trans (b2.mono (by have := HB1.out.size; simp; omega))
  clear HB1 HR1 b2
  have hst := hrow w2 (w.heap.size + 1) C zero32 HSz.out rfl HOn.out hR2
  go_wp2_with fail
  have HR' := setRow_heap w2 (w.heap.size + 1) _ C 58 (0, 0) hR2
  have HB9 : Below w.heap.size w (w2.setRow (w.heap.size + 1) C) := below_setRow hB2 (Nat.le_succ _) _
  obtain ⟨W9, hW9⟩ : ∃ X, X = w2.setRow (w.heap.size + 1) C := ⟨_, rfl⟩
  rw [← hW9] at HR' HB9 ⊢
  clear hW9 hR2 hB2 hst
  exact bodyPost_ret (results_cell_row Tryz.results21 _ _ (w.heap.size + 1) 58 C (0, 0) (.array 32 5) rfl HR' Tryz.underlying58 (isArr 32 5) (i32s _ HSz.out)) rfl ⟨rfl, HB9⟩

set_option maxRecDepth 20000 in
set_option maxHeartbeats 1000000 in
theorem rpsum_no (p : P5) (h : ¬ p.right) (w : World) :
    Calls Tryz.prog 24 #[.agg #[.int .i64 p.c, .int .i64 p.f, .int .u64 p.s, .int .u64 p.t, .string p.d]] w fun e w' => e = .returned (.agg zero32) ∧ Below w.heap.size w w' := by
  have HP := Lib.hid (rright_no p h)
  clear h
  go_enter Tryz.func24, Tryz.ntmps24
  go_upto_region 1 with fail
  change Code.wp _ _ _ _ ((w.alloc (.cells #[.int .i64 p.c, .int .i64 p.f, .int .u64 p.s, .int .u64 p.t, .string p.d] 33)).alloc (.cells zero32 57))
  obtain ⟨W0, hW⟩ : ∃ X, X = (w.alloc (.cells #[.int .i64 p.c, .int .i64 p.f, .int .u64 p.s, .int .u64 p.t, .string p.d] 33)).alloc (.cells zero32 57) := ⟨_, rfl⟩
  rw [← hW]
  have hB0 : Below w.heap.size w W0 := by rw [hW]; exact ((Below.refl _ _).alloc (Nat.le_refl _) _).alloc (by simp) _
  have hz1 : (w.alloc (.cells #[.int .i64 p.c, .int .i64 p.f, .int .u64 p.s, .int .u64 p.t, .string p.d] 33)).heap.size = w.heap.size + 1 := by simp
  have hA : W0.heap[w.heap.size]? = some (.cells #[.int .i64 p.c, .int .i64 p.f, .int .u64 p.s, .int .u64 p.t, .string p.d] 33 (0, 0)) := by rw [hW, Below.heap_alloc _ _ _ (by simp)]; exact heap_alloc_new _ _
  have hR0 : W0.heap[w.heap.size + 1]? = some (.cells zero32 57 (0, 0)) := by
    have := heap_alloc_new (w.alloc (.cells #[.int .i64 p.c, .int .i64 p.f, .int .u64 p.s, .int .u64 p.t, .string p.d] 33)) (.cells zero32 57)
    rw [hz1] at this; rw [hW]; exact this
  clear hW hz1
  obtain ⟨c0, c1, c2, c3, c4⟩ : _ ∧ _ ∧ _ ∧ _ ∧ _ := ⟨cell_of_row W0 _ 0 _ _ (0, 0) hA, cell_of_row W0 _ 1 _ _ (0, 0) hA, cell_of_row W0 _ 2 _ _ (0, 0) hA, cell_of_row W0 _ 3 _ _ (0, 0) hA, cell_of_row W0 _ 4 _ _ (0, 0) hA⟩
  have HB := Lib.hid hB0
  have HR := Lib.hid hR0
  clear hB0 hR0
  go_wp2_with fail
  refine (HP.out _).mono ?_
  rintro _ w1 ⟨rfl, b1⟩
  have hR1 := (b1.block _ (Array.getElem?_eq_some_iff.1 HR.out).1).trans HR.out
  have hB1 := HB.out.trans (b1.mono HB.out.size)
  clear c0 c1 c2 c3 c4 HB HR b1
  go_upto_region 2 with fail
  refine wp_region_lit ?_
  refine wpList_step (fun K hK => ?_)
  go_simp
  refine hK _ _ ?_
  clear hK K
  refine wpList_store_rowTo rfl 57 _ _ rfl rfl (w.heap.size + 1) zero32 rfl rfl 57 _ hR1 (i32b _ rfl) rfl zero32_one ?_
  refine wpList_nil ?_
  have HR' := setRow_heap w1 (w.heap.size + 1) _ zero32 57 (0, 0) hR1
  have HB9 : Below w.heap.size w (w1.setRow (w.heap.size + 1) zero32) := below_setRow hB1 (Nat.le_succ _) _
  obtain ⟨W9, hW9⟩ : ∃ X, X = w1.setRow (w.heap.size + 1) zero32 := ⟨_, rfl⟩
  rw [← hW9] at HR' HB9 ⊢
  clear hW9 hR1 hB1
  go_wp2_with fail
  exact bodyPost_ret (results_cell_row Tryz.results24 _ _ (w.heap.size + 1) 57 zero32 (0, 0) (.array 32 5) rfl HR' Tryz.underlying57 (isArr 32 5) (i32b _ rfl)) rfl ⟨rfl, HB9⟩

set_option maxRecDepth 20000 in
set_option maxHeartbeats 1000000 in
theorem rpsum_yes (p : P5) (h : p.right) (ho : p.ok) (w : World) :
    Calls Tryz.prog 24 #[.agg #[.int .i64 p.c, .int .i64 p.f, .int .u64 p.s, .int .u64 p.t, .string p.d]] w fun e w' => e = .returned (.agg (scells (ofSt p.bytes))) ∧ Below w.heap.size w w' := by
  have HP := Lib.hid (rput_yes p h ho)
  have HQ := Lib.hid (rright_yes p h)
  have hs := pbytes_size p h
  generalize p.bytes = S at *
  have hof : ∀ W : World, Calls Tryz.prog 30 #[.string S] W fun r w' => r = .returned (.agg (scells (ofSt S))) ∧ Below W.heap.size W w' := fun W => rof_any S hs W
  have hone : (scells (ofSt S)).all (·.oneCell') = true := u8_one (sumL (ofSt S))
  have hsz : (scells (ofSt S)).size = 32 := rfl
  generalize scells (ofSt S) = C at *
  have HOf := Lib.hid hof
  have HSz := Lib.hid hsz
  have HOn := Lib.hid hone
  clear h hof hsz hone hs ho
  go_enter Tryz.func24, Tryz.ntmps24
  go_upto_region 1 with fail
  change Code.wp _ _ _ _ ((w.alloc (.cells #[.int .i64 p.c, .int .i64 p.f, .int .u64 p.s, .int .u64 p.t, .string p.d] 33)).alloc (.cells zero32 57))
  obtain ⟨W0, hW⟩ : ∃ X, X = (w.alloc (.cells #[.int .i64 p.c, .int .i64 p.f, .int .u64 p.s, .int .u64 p.t, .string p.d] 33)).alloc (.cells zero32 57) := ⟨_, rfl⟩
  rw [← hW]
  have hB0 : Below w.heap.size w W0 := by rw [hW]; exact ((Below.refl _ _).alloc (Nat.le_refl _) _).alloc (by simp) _
  have hz1 : (w.alloc (.cells #[.int .i64 p.c, .int .i64 p.f, .int .u64 p.s, .int .u64 p.t, .string p.d] 33)).heap.size = w.heap.size + 1 := by simp
  have hA : W0.heap[w.heap.size]? = some (.cells #[.int .i64 p.c, .int .i64 p.f, .int .u64 p.s, .int .u64 p.t, .string p.d] 33 (0, 0)) := by rw [hW, Below.heap_alloc _ _ _ (by simp)]; exact heap_alloc_new _ _
  have hR0 : W0.heap[w.heap.size + 1]? = some (.cells zero32 57 (0, 0)) := by
    have := heap_alloc_new (w.alloc (.cells #[.int .i64 p.c, .int .i64 p.f, .int .u64 p.s, .int .u64 p.t, .string p.d] 33)) (.cells zero32 57)
    rw [hz1] at this; rw [hW]; exact this
  clear hW hz1
  obtain ⟨c0, c1, c2, c3, c4⟩ : _ ∧ _ ∧ _ ∧ _ ∧ _ := ⟨cell_of_row W0 _ 0 _ _ (0, 0) hA, cell_of_row W0 _ 1 _ _ (0, 0) hA, cell_of_row W0 _ 2 _ _ (0, 0) hA, cell_of_row W0 _ 3 _ _ (0, 0) hA, cell_of_row W0 _ 4 _ _ (0, 0) hA⟩
  have HB := Lib.hid hB0
  have HR := Lib.hid hR0
  clear hB0 hR0
  have HA := Lib.hid hA
  go_wp2_with fail
  refine (HQ.out _).mono ?_
  rintro _ w1 ⟨rfl, b1⟩
  have HR1 := Lib.hid ((b1.block _ (Array.getElem?_eq_some_iff.1 HR.out).1).trans HR.out)
  have HB1 := Lib.hid (HB.out.trans (b1.mono HB.out.size))
  have hA1 := (b1.block _ (Array.getElem?_eq_some_iff.1 HA.out).1).trans HA.out
  clear c0 c1 c2 c3 c4 HB HR b1 HQ HA
  obtain ⟨c0, c1, c2, c3, c4⟩ : _ ∧ _ ∧ _ ∧ _ ∧ _ := ⟨cell_of_row w1 _ 0 _ _ (0, 0) hA1, cell_of_row w1 _ 1 _ _ (0, 0) hA1, cell_of_row w1 _ 2 _ _ (0, 0) hA1, cell_of_row w1 _ 3 _ _ (0, 0) hA1, cell_of_row w1 _ 4 _ _ (0, 0) hA1⟩
  clear hA1
  go_wp2_with fail
  refine (HP.out _).mono ?_
  rintro _ w2 ⟨rfl, b2⟩
  have HR2 := Lib.hid ((b2.block _ (Array.getElem?_eq_some_iff.1 HR1.out).1).trans HR1.out)
  have HB2 := Lib.hid (HB1.out.trans (b2.mono HB1.out.size))
  clear c0 c1 c2 c3 c4 HR1 HB1 b2 HP
  go_wp2_with fail
  refine (HOf.out _).mono ?_
  rintro _ w3 ⟨rfl, b3⟩
  have hR3 := (b3.block _ (Array.getElem?_eq_some_iff.1 HR2.out).1).trans HR2.out
  have hB3 := HB2.out.trans (b3.mono HB2.out.size)
  clear HR2 HB2 b3
  have hst := hrow w3 (w.heap.size + 1) C zero32 HSz.out rfl HOn.out hR3
  go_wp2_with fail
  have HR' := setRow_heap w3 (w.heap.size + 1) _ C 57 (0, 0) hR3
  have HB9 : Below w.heap.size w (w3.setRow (w.heap.size + 1) C) := below_setRow hB3 (Nat.le_succ _) _
  obtain ⟨W9, hW9⟩ : ∃ X, X = w3.setRow (w.heap.size + 1) C := ⟨_, rfl⟩
  rw [← hW9] at HR' HB9 ⊢
  clear hW9 hR3 hB3 hst
  exact bodyPost_ret (results_cell_row Tryz.results24 _ _ (w.heap.size + 1) 57 C (0, 0) (.array 32 5) rfl HR' Tryz.underlying57 (isArr 32 5) (i32b _ HSz.out)) rfl ⟨rfl, HB9⟩

end Go.Proofs.YtdljphbfbiganaaGreatDoor.Sha
