/- 'QueueOrder' holds for every input, with no condition: what was put is got in the order in which it was, and once. -/
import Derived.Test.YticcobciafbleaaQueueS
import Derived.Test.YticcobciafbleaaQueueAwake
import Derived.Deep.CutBlock
import Derived.Deep.DeepCutAuto
namespace Go.Proofs.Yticcobciafbleaa.queueOrder
open Go.RowKit Go.Shelf Queue QueueS

def Ap (v u : Value) : Prop := v.ownBlock = none ∨ v.ownBlock ≠ u.ownBlock
theorem Ap.symm {v u : Value} (h : Ap v u) : Ap u v := by
  unfold Ap at *
  rcases h with h | h
  · rw [h]
    cases u.ownBlock with
    | none => exact .inl rfl
    | some k => exact .inr (by simp)
  · exact .inr (fun e => h e.symm)

/-- All that stood stands as it was, but the row's block. -/
def Gr (row : Option Nat) (w w' : World) : Prop := ∀ (j : Nat) (o : Obj), row ≠ some j → w.heap[j]? = some o → w'.heap[j]? = some o
theorem own_gr {w w' : World} {B e n : Nat} {v : Value} {zs : List Value} {row : Option Nat} (h : w.ownsRow B e 1 v n zs) (ha : v.ownBlock = none ∨ v.ownBlock ≠ row) (hg : Gr row w w') : w'.ownsRow B e 1 v n zs := by
  refine ⟨h.1, ?_⟩
  rcases h.2 with h2 | ⟨k, cap, cur, rfl, hk, hh, r⟩
  · exact .inl h2
  · refine .inr ⟨k, cap, cur, rfl, hk, hg k _ (fun e => ?_) hh, r⟩
    rcases ha with ha | ha
    · cases ha
    · exact ha (by rw [e]; rfl)
theorem lt_row {w : World} {B e n : Nat} {v : Value} {zs : List Value} (h : w.ownsRow B e 1 v n zs) : ∀ k, v.ownBlock = some k → k < w.heap.size := fun k hk => (h.lt k hk).2

/-- A queue of texts, and two rows: what was put, what was got. -/
structure P (w : World) (B g : Nat) (room : Int) (xs : List ByteArray) (v a b : Value) (ins outs : List ByteArray) : Prop where
  q : Qs w B g room xs v
  ra : w.ownsRow B 9 1 a ins.length (strs ins)
  rb : w.ownsRow B 9 1 b outs.length (strs outs)
  va : Ap v a
  vb : Ap v b
  ab : Ap a b
  eq : ins = outs ++ xs

section
variable {w w' : World} {B g : Nat} {room : Int} {xs ys ins outs : List ByteArray} {v a b v' : Value}
theorem fr_gr {row : Option Nat} (h : Fr g row w w') : ∀ (j : Nat) (o : Obj), j ≠ g → row ≠ some j → w.heap[j]? = some o → w'.heap[j]? = some o := h.2
theorem own_fr {n : Nat} {u : Value} {zs : List Value} (h : w.ownsRow B 9 1 u n zs) (hq : Qs w B g room xs v) (ha : Ap u v) (hf : Fr g v.ownBlock w w') : w'.ownsRow B 9 1 u n zs := by
  refine ⟨h.1, ?_⟩
  rcases h.2 with h2 | ⟨k, cap, cur, rfl, hk, hh, r⟩
  · exact .inl h2
  · refine .inr ⟨k, cap, cur, rfl, hk, hf.2 k _ (fun e => ?_) (fun e => ?_) hh, r⟩
    · subst e
      have := hq.2.1
      rw [hh] at this
      injection this with this
      injection this with _ ht
      exact absurd ht (by decide)
    · rcases ha with ha | ha
      · cases ha
      · exact ha (by rw [e]; rfl)
theorem Qs.gr (h : Qs w B g room xs v) {n : Nat} {u : Value} {zs : List Value} (hu : w.ownsRow B 9 1 u n zs) (ha : Ap v u) (hg : Gr u.ownBlock w w') : Qs w' B g room xs v := by
  refine ⟨h.1, hg g _ (fun e => ?_) h.2.1, own_gr h.2.2 ha hg⟩
  obtain ⟨cs, fr, ho⟩ := own_type hu e h.2.1
  injection ho with _ ht
  exact absurd ht (by decide)
theorem new_ap {row row' : Option Nat} {u : Value} (hn : New w row row') (hlt : ∀ k, u.ownBlock = some k → k < w.heap.size) (ha : u.ownBlock = none ∨ u.ownBlock ≠ row) : u.ownBlock = none ∨ u.ownBlock ≠ row' := hn.keeps hlt ha

/-- Behind a put or a get of the queue. -/
theorem P.turn (h : P w B g room xs v a b ins outs) (_ : Qs w' B g room ys v') (hf : Fr g v.ownBlock w w') (hn : New w v.ownBlock v'.ownBlock) :
    w'.ownsRow B 9 1 a ins.length (strs ins) ∧ w'.ownsRow B 9 1 b outs.length (strs outs) ∧ Ap v' a ∧ Ap v' b :=
  ⟨own_fr h.ra h.q h.va.symm hf, own_fr h.rb h.q h.vb.symm hf, Ap.symm (hn.keeps (lt_row h.ra) h.va.symm), Ap.symm (hn.keeps (lt_row h.rb) h.vb.symm)⟩
end

theorem grown_gr {w w2 : World} {row : Option Nat} {o : Obj} (hg : (w.alloc o).grownBy w2 row) : Gr row w w2 := fun j y b c => by
  have h3 := (Below.heap_alloc w o _ (lt_blk c)).trans c
  exact (hg.block j (lt_blk h3) (fun e => b e.symm)).trans h3
theorem strs_snoc (xs : List ByteArray) (s : ByteArray) : strs (xs ++ [s]) = strs xs ++ [.string s] := by simp [strs]

/-- A slice that reads as texts; one that reads as Booleans. -/
def Rs (w : World) (A : Option Addr) (len : Nat) (zs : List ByteArray) : Prop :=
  0 < len → ∃ b off, A = some ⟨b, off, none⟩ ∧ b < w.heap.size ∧ ∀ i, i < len → w.cell? ⟨b, off + i, none⟩ = some (.string (zs.getD i .empty))
def Rb (w : World) (A : Option Addr) (len : Nat) (zs : Nat → Bool) : Prop :=
  0 < len → ∃ b off, A = some ⟨b, off, none⟩ ∧ b < w.heap.size ∧ ∀ i, i < len → w.cell? ⟨b, off + i, none⟩ = some (.bool (zs i))

set_option maxRecDepth 100000 in
theorem ix_bools (b off len cap k : Nat) (h : k < len) (w : World) : (Instr.indexAt 23 (.slice (some ⟨b, off, none⟩) len cap) (.int .i64 (k : Int))).run Try.prog w = .ok (.pointer (some ⟨b, off + k, none⟩)) w := by
  have e : Try.prog.elem 23 = 4 := by kernel_rfl
  rw [run_indexAt_slice (P := Try.prog) w 23 ⟨b, off, none⟩ len cap .i64 k (by rw [e]; exact Try.underlying23), if_pos (by omega), e, Try.sizeOf4]
  simp [Addr.add]

set_option maxRecDepth 20000 in
set_option maxHeartbeats 2000000 in
theorem walk_few (r : Int) (hr0 : 0 ≤ r) (hr1 : r ≤ 255) (A : Option Addr) (len cap : Nat) (zs : List ByteArray) (hl : len ≤ 60) (A2 : Option Addr) (len2 cap2 : Nat) (bs : Nat → Bool) (w : World) (hr : Rs w A len zs) (hb : Rb w A2 len2 bs) : Calls Try.prog 3 #[.int .u8 r, .slice A len cap, .slice A2 len2 cap2] w fun e w' => e = .returned (.bool true) ∧ Below w.heap.size w w' := by
  obtain ⟨i0, hi, hz0, hz1, hy2⟩ := info_parts infoS
  have HR := Lib.hid hr
  have HB := Lib.hid hb
  clear hr hb
  have hlen : (len : Int) ≤ 60 := by omega
  have hw1 : IntKind.i64.wrap r = r := IntWalk.i64_in _ ⟨by omega, by omega⟩
  have hw2 : IntKind.i64.wrap (r + 1) = r + 1 := IntWalk.i64_in _ ⟨by omega, by omega⟩
  have hr2 : (1 : Int) ≤ r + 1 := by omega
  have hr3 : r + 1 ≤ 1024 := by omega
  have HN := Lib.hid (QueueS.new_any (r + 1) hr2 hr3)
  go_enter Try.func3, Try.ntmps3
  go_wp2_with fail
  refine (HN.out _).mono ?_
  rintro e w1 ⟨rfl, q1, b1, z1⟩
  have hP : ∃ v, P w1 w.heap.size w.heap.size (r + 1) [] v (.slice none 0 0) (.slice none 0 0) [] [] := by
    obtain ⟨hB, A, c, hb, hown⟩ := q1
    exact ⟨_, ⟨hB, hb, hown⟩, World.ownsRow_nil _ _ _ _, World.ownsRow_nil _ _ _ _, Ap.symm (.inl rfl), Ap.symm (.inl rfl), .inl rfl, rfl⟩
  have H1 := Lib.hid (And.intro hP b1)
  clear hP q1 b1
  go_wp2
  go_loopw [9, 10, 11] (fun a b i wr => ∃ k : Nat, i = .int .i64 (k : Int) ∧ k ≤ len ∧ w.heap.size < wr.heap.size ∧ ∃ xs v ins outs, P wr w.heap.size w.heap.size (r + 1) xs v a b ins outs ∧ ins.length ≤ k ∧ (xs.length : Int) ≤ r + 1 ∧ Below w.heap.size w wr)
    (fun _ _ i _ => len - (intOf i).toNat)
  case atStart =>
    obtain ⟨⟨v, hp⟩, hb⟩ := H1.out
    exact ⟨0, rfl, Nat.zero_le _, z1, [], v, [], [], hp, Nat.le_refl _, by simp; omega, hb⟩
  case round =>
    obtain ⟨k, rfl, hk, hz, xs, v, ins, outs, hp, hin, hxl, hbe⟩ := hrel
    obtain ⟨Aa, ca, rfl⟩ := own_form hp.ra
    obtain ⟨Ab, cb, rfl⟩ := own_form hp.rb
    have HP := Lib.hid (And.intro hp (And.intro hxl hbe))
    clear hp hxl hbe
    by_cases hlt : k < len
    · obtain ⟨b, off, rfl, hbl, hc⟩ := HR.out (by omega)
      have hc := (HP.out.2.2.cell (p := ⟨b, off + k, none⟩) hbl).trans (hc k hlt)
      have hk0 : (0 : Int) ≤ (k : Int) := by omega
      have hk1 : (k : Int) < (len : Int) := by omega
      generalize zs.getD k .empty = s at hc
      by_cases hfull : (xs.length : Int) < r + 1
      · have HPut := Lib.hid (put_v HP.out.1.q hfull hr3 s)
        go_wp2_with fail
        refine HPut.out.mono ?_
        rintro e w2 ⟨rfl, v2, q2, f2, n2, B2⟩
        obtain ⟨ta, tb, tva, tvb⟩ := HP.out.1.turn q2 f2 n2
        have hz2' : w.heap.size < w2.heap.size := Nat.lt_of_lt_of_le hz B2.size
        have hc2 := (B2.cell (p := ⟨b, off + k, none⟩) hbl).trans hc
        have H2 := Lib.hid (And.intro q2 (And.intro ta (And.intro tb (And.intro tva (And.intro tvb (HP.out.2.2.trans B2))))))
        clear q2 f2 n2 B2 ta tb tva tvb HPut hc
        go_wp2_with (at_builtin; refine wpList_append_own_at _ rfl _ _ 22 rfl w.heap.size 9 i0 (.string ⟨#[]⟩) 1 16 Try.underlying22 hi hz0 hz1 hy2 rfl (by decide) _ _ _ rfl (H2.out.2.1.alloc _) ⟨w2.heap.size, 0, none⟩ 1 1 [.string s] rfl rfl (cell_one_new _ _ _) (one_one rfl) (by unfold maxLen; omega) (by omega) (by simp; omega) ?_)
        intro v3 w3 hown3 hg3 _ hnew3
        obtain ⟨q2, ta, tb, tva, tvb, hB2⟩ := H2.out
        obtain ⟨A3, c3, rfl⟩ := own_form hown3
        have hgr := grown_gr hg3
        have hn3 : New w2 (Value.slice Aa ins.length ca).ownBlock (Value.slice A3 (ins.length + 1) c3).ownBlock := by
          rcases hnew3 with e | e
          · exact .inl e
          · exact .inr (.inr ⟨_, e, by first | omega | simp⟩)
        have hp3 : P w3 w.heap.size w.heap.size (r + 1) (xs ++ [s]) v2 (.slice A3 (ins.length + 1) c3) (.slice Ab outs.length cb) (ins ++ [s]) outs :=
          ⟨Qs.gr q2 ta tva hgr, by rw [List.length_append, List.length_singleton, strs_snoc]; exact hown3, own_gr tb HP.out.1.ab.symm hgr, hn3.keeps (lt_row q2.2.2) tva, tvb, Ap.symm (hn3.keeps (lt_row tb) HP.out.1.ab.symm), by rw [HP.out.1.eq, List.append_assoc]⟩
        have hB3 : Below w.heap.size w w3 := (hB2.alloc (Nat.le_of_lt hz2') _).grown hg3 (by simp; omega) (own_ge ta)
        have hz3 : w.heap.size < w3.heap.size := by have := hg3.size; simp at this; omega
        have H3 := Lib.hid (And.intro hp3 hB3)
        clear q2 ta tb tva tvb hB2 hgr hn3 hp3 hB3 hown3 hg3 hnew3 H2 hc2
        have hxs : xs ++ [s] ≠ [] := by simp
        have hxl3 : ((xs ++ [s]).length : Int) ≤ r + 1 := by simp; omega
        have hin3 : (ins ++ [s]).length ≤ k + 1 := by simp; omega
        have el3 : ins.length + 1 = (ins ++ [s]).length := by simp
        rw [el3] at H3
        rw [el3]
        generalize hx3 : xs ++ [s] = xs3 at *
        generalize hi3 : ins ++ [s] = ins3 at *
        clear hx3 hi3 el3
        obtain ⟨x, ys, rfl⟩ : ∃ x ys, xs3 = x :: ys := by
          cases xs3 with
          | nil => exact absurd rfl hxs
          | cons x ys => exact ⟨x, ys, rfl⟩
        have hys : (ys.length : Int) ≤ r + 1 := by simp at hxl3; omega
        have hk2 : (0 : Int) ≤ (k : Int) := by omega
        have hol : outs.length ≤ 61 := by have := congrArg List.length H3.out.1.eq; simp at this; omega
        by_cases hkl : k < len2
        · obtain ⟨b2, off2, rfl, hbl2, hc2⟩ := HB.out (by omega)
          have hg2 := (H3.out.2.cell (p := ⟨b2, off2 + k, none⟩) hbl2).trans (hc2 k hkl)
          have hk3 : (k : Int) < (len2 : Int) := by omega
          have hix := ix_bools b2 off2 len2 cap2 k hkl
          cases hbk : bs k
          · rw [hbk] at hg2
            first | (go_wp2_with fail; rw [hix]; go_wp2) | go_wp2
            exact ⟨⟨k + 1, by go_num, by omega, hz3, _, _, _, _, H3.out.1, hin3, hxl3, H3.out.2⟩, by simp [intOf]; omega⟩
          · rw [hbk] at hg2
            have HGet := Lib.hid (get_v H3.out.1.q)
            first | (go_wp2_with fail; rw [hix]; go_wp2_with fail) | go_wp2_with fail
            refine HGet.out.mono ?_
            rintro e w4 ⟨rfl, v4, q4, f4, n4, B4⟩
            obtain ⟨ta, tb, tva, tvb⟩ := H3.out.1.turn q4 f4 n4
            have hz4 : w.heap.size < w4.heap.size := Nat.lt_of_lt_of_le hz3 B4.size
            have H4 := Lib.hid (And.intro q4 (And.intro ta (And.intro tb (And.intro tva (And.intro tvb (H3.out.2.trans B4))))))
            clear q4 f4 n4 B4 ta tb tva tvb HGet hg2
            go_wp2_with (at_builtin; refine wpList_append_own_at _ rfl _ _ 22 rfl w.heap.size 9 i0 (.string ⟨#[]⟩) 1 16 Try.underlying22 hi hz0 hz1 hy2 rfl (by decide) _ _ _ rfl (H4.out.2.2.1.alloc _) ⟨w4.heap.size, 0, none⟩ 1 1 [.string x] rfl rfl (cell_one_new _ _ _) (one_one rfl) (by unfold maxLen; omega) (by omega) (by simp; omega) ?_)
            intro v5 w5 hown5 hg5 _ hnew5
            obtain ⟨q4, ta, tb, tva, tvb, hB4⟩ := H4.out
            obtain ⟨A5, c5, rfl⟩ := own_form hown5
            have hgr := grown_gr hg5
            have hn5 : New w4 (Value.slice Ab outs.length cb).ownBlock (Value.slice A5 (outs.length + 1) c5).ownBlock := by
              rcases hnew5 with e | e
              · exact .inl e
              · exact .inr (.inr ⟨_, e, by first | omega | simp⟩)
            have hp5 : P w5 w.heap.size w.heap.size (r + 1) ys v4 (.slice A3 ins3.length c3) (.slice A5 (outs.length + 1) c5) ins3 (outs ++ [x]) :=
              ⟨Qs.gr q4 tb tvb hgr, own_gr ta H3.out.1.ab hgr, by rw [List.length_append, List.length_singleton, strs_snoc]; exact hown5, tva, hn5.keeps (lt_row q4.2.2) tvb, hn5.keeps (lt_row ta) H3.out.1.ab, by rw [H3.out.1.eq, List.append_assoc]; rfl⟩
            have hB5 : Below w.heap.size w w5 := (hB4.alloc (Nat.le_of_lt hz4) _).grown hg5 (by simp; omega) (own_ge tb)
            have hz5 : w.heap.size < w5.heap.size := by have := hg5.size; simp at this; omega
            have H5 := Lib.hid (And.intro hp5 hB5)
            clear q4 ta tb tva tvb hB4 hgr hn5 hp5 hB5 hown5 hg5 hnew5 H4
            go_wp2
            exact ⟨⟨k + 1, by go_num, by omega, hz5, _, _, _, _, H5.out.1, hin3, hys, H5.out.2⟩, by simp [intOf]; omega⟩
        · go_wp2
          all_goals first | (exfalso; omega) | exact ⟨⟨k + 1, by go_num, by omega, hz3, _, _, _, _, H3.out.1, hin3, hxl3, H3.out.2⟩, by simp [intOf]; omega⟩
      · have hput := put_full HP.out.1.q.toQ (by have := HP.out.2.1; omega) hr3 s
        have HPut := Lib.hid hput
        clear hput
        go_wp2_with fail
        refine HPut.out.mono ?_
        rintro e w3 ⟨rfl, n3, rfl⟩
        have hp3 : P (wr.drewN n3) w.heap.size w.heap.size (r + 1) xs v (.slice Aa ins.length ca) (.slice Ab outs.length cb) ins outs := ⟨HP.out.1.q, HP.out.1.ra, HP.out.1.rb, HP.out.1.va, HP.out.1.vb, HP.out.1.ab, HP.out.1.eq⟩
        have hB3 := below_drewN HP.out.2.2 n3
        have hz3 : w.heap.size < (wr.drewN n3).heap.size := hz
        have H3 := Lib.hid (And.intro hp3 hB3)
        clear hp3 hB3 HPut hc
        have hxs : xs ≠ [] := by rintro rfl; simp at hfull; omega
        have hxl3 := HP.out.2.1
        have hin3 : ins.length ≤ k + 1 := by omega
        generalize wr.drewN n3 = w3 at *
        generalize xs = xs3 at *
        generalize hi3 : ins = ins3 at *
        generalize hA3 : Aa = A3 at *
        generalize hc3 : ca = c3 at *
        clear hA3 hc3
        obtain ⟨x, ys, rfl⟩ : ∃ x ys, xs3 = x :: ys := by
          cases xs3 with
          | nil => exact absurd rfl hxs
          | cons x ys => exact ⟨x, ys, rfl⟩
        have hys : (ys.length : Int) ≤ r + 1 := by simp at hxl3; omega
        have hk2 : (0 : Int) ≤ (k : Int) := by omega
        have hol : outs.length ≤ 61 := by have := congrArg List.length H3.out.1.eq; simp at this; omega
        by_cases hkl : k < len2
        · obtain ⟨b2, off2, rfl, hbl2, hc2⟩ := HB.out (by omega)
          have hg2 := (H3.out.2.cell (p := ⟨b2, off2 + k, none⟩) hbl2).trans (hc2 k hkl)
          have hk3 : (k : Int) < (len2 : Int) := by omega
          have hix := ix_bools b2 off2 len2 cap2 k hkl
          cases hbk : bs k
          · rw [hbk] at hg2
            first | (go_wp2_with fail; rw [hix]; go_wp2) | go_wp2
            exact ⟨⟨k + 1, by go_num, by omega, hz3, _, _, _, _, H3.out.1, hin3, hxl3, H3.out.2⟩, by simp [intOf]; omega⟩
          · rw [hbk] at hg2
            have HGet := Lib.hid (get_v H3.out.1.q)
            first | (go_wp2_with fail; rw [hix]; go_wp2_with fail) | go_wp2_with fail
            refine HGet.out.mono ?_
            rintro e w4 ⟨rfl, v4, q4, f4, n4, B4⟩
            obtain ⟨ta, tb, tva, tvb⟩ := H3.out.1.turn q4 f4 n4
            have hz4 : w.heap.size < w4.heap.size := Nat.lt_of_lt_of_le hz3 B4.size
            have H4 := Lib.hid (And.intro q4 (And.intro ta (And.intro tb (And.intro tva (And.intro tvb (H3.out.2.trans B4))))))
            clear q4 f4 n4 B4 ta tb tva tvb HGet hg2
            go_wp2_with (at_builtin; refine wpList_append_own_at _ rfl _ _ 22 rfl w.heap.size 9 i0 (.string ⟨#[]⟩) 1 16 Try.underlying22 hi hz0 hz1 hy2 rfl (by decide) _ _ _ rfl (H4.out.2.2.1.alloc _) ⟨w4.heap.size, 0, none⟩ 1 1 [.string x] rfl rfl (cell_one_new _ _ _) (one_one rfl) (by unfold maxLen; omega) (by omega) (by simp; omega) ?_)
            intro v5 w5 hown5 hg5 _ hnew5
            obtain ⟨q4, ta, tb, tva, tvb, hB4⟩ := H4.out
            obtain ⟨A5, c5, rfl⟩ := own_form hown5
            have hgr := grown_gr hg5
            have hn5 : New w4 (Value.slice Ab outs.length cb).ownBlock (Value.slice A5 (outs.length + 1) c5).ownBlock := by
              rcases hnew5 with e | e
              · exact .inl e
              · exact .inr (.inr ⟨_, e, by first | omega | simp⟩)
            have hp5 : P w5 w.heap.size w.heap.size (r + 1) ys v4 (.slice A3 ins3.length c3) (.slice A5 (outs.length + 1) c5) ins3 (outs ++ [x]) :=
              ⟨Qs.gr q4 tb tvb hgr, own_gr ta H3.out.1.ab hgr, by rw [List.length_append, List.length_singleton, strs_snoc]; exact hown5, tva, hn5.keeps (lt_row q4.2.2) tvb, hn5.keeps (lt_row ta) H3.out.1.ab, by rw [H3.out.1.eq, List.append_assoc]; rfl⟩
            have hB5 : Below w.heap.size w w5 := (hB4.alloc (Nat.le_of_lt hz4) _).grown hg5 (by simp; omega) (own_ge tb)
            have hz5 : w.heap.size < w5.heap.size := by have := hg5.size; simp at this; omega
            have H5 := Lib.hid (And.intro hp5 hB5)
            clear q4 ta tb tva tvb hB4 hgr hn5 hp5 hB5 hown5 hg5 hnew5 H4
            go_wp2
            exact ⟨⟨k + 1, by go_num, by omega, hz5, _, _, _, _, H5.out.1, hin3, hys, H5.out.2⟩, by simp [intOf]; omega⟩
        · go_wp2
          all_goals first | (exfalso; omega) | exact ⟨⟨k + 1, by go_num, by omega, hz3, _, _, _, _, H3.out.1, hin3, hxl3, H3.out.2⟩, by simp [intOf]; omega⟩
    · have hke : k = len := by omega
      subst hke
      have hxi : xs.length ≤ k := by
        have := congrArg List.length HP.out.1.eq
        simp at this
        omega
      go_wp2
      clear hlt HR HB
      go_loopw [10, 14] (fun b i wr => ∃ j : Nat, i = .int .i64 (j : Int) ∧ w.heap.size < wr.heap.size ∧ ∃ xs v outs, P wr w.heap.size w.heap.size (r + 1) xs v (.slice Aa ins.length ca) b ins outs ∧ xs.length + j ≤ k ∧ Below w.heap.size w wr)
        (fun _ i _ => k + 1 - (intOf i).toNat)
      case atStart => exact ⟨0, rfl, hz, xs, v, outs, HP.out.1, hxi, HP.out.2.2⟩
      case round =>
        obtain ⟨j, rfl, hz2, xs2, v2, outs2, hp2, hj, hbe2⟩ := hrel
        obtain ⟨Ab2, cb2, rfl⟩ := own_form hp2.rb
        have H2 := Lib.hid (And.intro hp2 hbe2)
        have HLen := Lib.hid (QueueS.len_any hp2.q.toQ)
        have hol : outs2.length ≤ 61 := by have := congrArg List.length hp2.eq; simp at this; omega
        clear hp2 hbe2
        have hjl : (j : Int) ≤ (k : Int) := by omega
        rcases xs2 with _ | ⟨x, ys⟩
        · go_wp2_with fail
          refine HLen.out.mono ?_
          rintro e w3 ⟨rfl, rfl⟩
          have heq : ins = outs2 := by have := H2.out.1.eq; simpa using this
          subst heq
          have HLen2 := HLen
          go_wp2_with fail
          refine HLen2.out.mono ?_
          rintro e w4 ⟨rfl, rfl⟩
          go_wp2
          go_loopw [17] (fun i wr => ∃ m : Nat, i = .int .i64 (m : Int) ∧ m ≤ ins.length ∧ ∃ n, wr = w4.drewN n) (fun i _ => ins.length - (intOf i).toNat)
          case atStart => exact ⟨0, rfl, Nat.zero_le _, 0, rfl⟩
          case round =>
            obtain ⟨m, rfl, hm, n, rfl⟩ := hrel
            by_cases hml : m < ins.length
            · obtain ⟨ua, rfl, _⟩ := own_at H2.out.1.ra (by omega)
              obtain ⟨ub, rfl, _⟩ := own_at H2.out.1.rb (by omega)
              have x0 : w4.cell? ⟨ua, m, none⟩ = some (.string (ins.getD m .empty)) := (H2.out.1.ra.cellAt m (by omega)).trans (strs_at ins m hml)
              have y0 : w4.cell? ⟨ub, m, none⟩ = some (.string (ins.getD m .empty)) := (H2.out.1.rb.cellAt m (by omega)).trans (strs_at ins m hml)
              have hm0 : (0 : Int) ≤ (m : Int) := by omega
              have hm1 : (m : Int) < (ins.length : Int) := by omega
              have hm2 : ins.length ≤ 61 := hol
              generalize ins.getD m .empty = s at x0 y0
              go_wp2
              go_quiet (fail)
              go_wp2
              exact ⟨⟨m + 1, by go_num, by omega, _, rfl⟩, by simp [intOf]; omega⟩
            · have hme : m = ins.length := by omega
              subst hme
              go_wp2_with fail
              refine (awake_any _).mono ?_
              rintro e w5 ⟨rfl, hb5⟩
              go_wp2
              go_ret
              exact ⟨rfl, (below_drewN H2.out.2 n).trans (hb5.mono (Nat.le_of_lt hz2))⟩
        · have HGet := Lib.hid (get_v H2.out.1.q)
          have hpos : (0 : Int) < ((x :: ys).length : Int) := by simp only [List.length_cons]; omega
          go_wp2_with fail
          refine HLen.out.mono ?_
          rintro e w3 ⟨rfl, rfl⟩
          go_wp2_with fail
          refine HGet.out.mono ?_
          rintro e w4 ⟨rfl, v4, q4, f4, n4, B4⟩
          obtain ⟨ta, tb, tva, tvb⟩ := H2.out.1.turn q4 f4 n4
          have hz4 : w.heap.size < w4.heap.size := Nat.lt_of_lt_of_le hz2 B4.size
          have H4 := Lib.hid (And.intro q4 (And.intro ta (And.intro tb (And.intro tva (And.intro tvb (H2.out.2.trans B4))))))
          clear q4 f4 n4 B4 ta tb tva tvb HGet HLen
          go_wp2_with (at_builtin; refine wpList_append_own_at _ rfl _ _ 22 rfl w.heap.size 9 i0 (.string ⟨#[]⟩) 1 16 Try.underlying22 hi hz0 hz1 hy2 rfl (by decide) _ _ _ rfl (H4.out.2.2.1.alloc _) ⟨w4.heap.size, 0, none⟩ 1 1 [.string x] rfl rfl (cell_one_new _ _ _) (one_one rfl) (by unfold maxLen; omega) (by omega) (by simp; omega) ?_)
          intro v5 w5 hown5 hg5 _ hnew5
          obtain ⟨q4, ta, tb, tva, tvb, hB4⟩ := H4.out
          obtain ⟨A5, c5, rfl⟩ := own_form hown5
          have hgr := grown_gr hg5
          have hn5 : New w4 (Value.slice Ab2 outs2.length cb2).ownBlock (Value.slice A5 (outs2.length + 1) c5).ownBlock := by
            rcases hnew5 with e | e
            · exact .inl e
            · exact .inr (.inr ⟨_, e, by first | omega | simp⟩)
          have hp5 : P w5 w.heap.size w.heap.size (r + 1) ys v4 (.slice Aa ins.length ca) (.slice A5 (outs2.length + 1) c5) ins (outs2 ++ [x]) :=
            ⟨Qs.gr q4 tb tvb hgr, own_gr ta H2.out.1.ab hgr, by rw [List.length_append, List.length_singleton, strs_snoc]; exact hown5, tva, hn5.keeps (lt_row q4.2.2) tvb, hn5.keeps (lt_row ta) H2.out.1.ab, by rw [H2.out.1.eq, List.append_assoc]; rfl⟩
          have hB5 : Below w.heap.size w w5 := (hB4.alloc (Nat.le_of_lt hz4) _).grown hg5 (by simp; omega) (own_ge tb)
          have hz5 : w.heap.size < w5.heap.size := by have := hg5.size; simp at this; omega
          have H5 := Lib.hid (And.intro hp5 hB5)
          clear q4 ta tb tva tvb hB4 hgr hn5 hp5 hB5 hown5 hg5 hnew5 H4
          simp only [List.length_cons] at hj
          go_wp2
          exact ⟨⟨j + 1, by go_num, hz5, _, _, _, H5.out.1, by omega, H5.out.2⟩, by simp [intOf]; omega⟩
end Go.Proofs.Yticcobciafbleaa.queueOrder
