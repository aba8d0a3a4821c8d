import Derived.Test.YtpkkomifenlkaaaGreatNumA
import Derived.Test.YtpkkomifenlkaaaGreatMapIter
import Derived.Deep.AppendLies
/- An account's numbers: what somebody holds, sorted. -/
namespace Go.Proofs.YtpkkomifenlkaaaGreat.Au
open Go Go.RowKit
set_option linter.unusedVariables false

abbrev TU : Nat := 22
def uc (l : List Int) : List Value := l.map (Value.int .u64)
theorem uc_len (l : List Int) : (uc l).length = l.length := by simp [uc]
theorem uc_app (l m : List Int) : uc (l ++ m) = uc l ++ uc m := by simp [uc]
theorem infoU : (Tryz.prog.info? TU).map (fun i => (i.zero, i.size, i.bytes)) = some (some (.int .u64 0), 1, 8) := by kernel_rfl
theorem info_partsU {o : Option TypeInfo} {z : Value} {s b : Nat} (h : o.map (fun i => (i.zero, i.size, i.bytes)) = some (some z, s, b)) : ∃ i, o = some i ∧ i.zero = some z ∧ i.size = s ∧ i.bytes = b := by
  cases o with
  | none => cases h
  | some i =>
    injection h with h
    injection h with h1 h
    injection h with h2 h3
    exact ⟨i, rfl, h1, h2, h3⟩
theorem news_u (V : World) (x : Int) : ∀ j u, [Value.int .u64 x][j]? = some u → (V.alloc (.cells #[.int .u64 x] TU)).cell? ((⟨V.heap.size, 0, none⟩ : Addr).add j) = some u := by
  intro j u h
  have := cell_of_row (V.alloc (.cells #[.int .u64 x] TU)) V.heap.size j #[.int .u64 x] TU (0, 0) (heap_alloc_new V _)
  match j with
  | 0 => exact this.trans (show some (Value.int .u64 x) = some u from h)
  | j + 1 => simp at h
theorem ones_u (x : Int) : ∀ u ∈ [Value.int .u64 x], u.oneCell' = true := by simp [Value.oneCell']
/-- slices.Sort of a row of at most so many numbers, of one's own: the same ones, rising -/
def SortU (m : Nat) : Prop := ∀ (V : World) (base : Nat) (A : Option Addr) (n cap : Nat) (l : List Int), l.length = n → n ≤ m → V.ownsRow base TU 1 (.slice A n cap) n (uc l) →
  Calls Tryz.prog 53 #[.slice A n cap] V fun e w' => e = .returned (.tuple #[]) ∧ ∃ l', l'.Perm l ∧ l'.Pairwise (· ≤ ·) ∧ w'.ownsRow base TU 1 (.slice A n cap) n (uc l') ∧ V.grownBy w' (Value.slice A n cap).ownBlock
/-- what somebody holds, in the order in which it came -/
def hb (who : Int) (M : List (Int × Int)) : List Int := (M.filter fun x => decide (x.2 = who)).map (·.1)
/-- stamps that were handed out -/
abbrev isIn (seen : Array Nat) (x : Mu) : Bool := seen.contains x.2
def outU (who : Int) (l : List Mu) (seen : Array Nat) : List Int := hb who ((l.filter (isIn seen)).map (·.1))
theorem contains_push (a : Array Nat) (b c : Nat) : (a.push b).contains c = (a.contains c || c == b) := by
  rw [Bool.eq_iff_iff]
  simp only [Array.contains_iff_mem, Array.mem_push, Bool.or_eq_true, beq_iff_eq]
theorem filter_push {seen : Array Nat} : ∀ {l : List Mu}, (l.map (·.2)).Nodup → ∀ x ∈ l, seen.contains x.2 = false → ((l.filter (isIn (seen.push x.2))).Perm (x :: l.filter (isIn seen)))
  | [], _, _, h, _ => by cases h
  | y :: l, hn, x, hx, hs => by
    have hn' : y.2 ∉ l.map (·.2) ∧ (l.map (·.2)).Nodup := List.nodup_cons.1 hn
    simp only [List.filter_cons, isIn, contains_push]
    rcases List.mem_cons.1 hx with rfl | hm
    · have hl : l.filter (isIn (seen.push x.2)) = l.filter (isIn seen) := by
        apply List.filter_congr
        intro z hz
        have : (z.2 == x.2) = false := by
          simp only [beq_eq_false_iff_ne]
          exact fun e => hn'.1 (by rw [← e]; exact List.mem_map.2 ⟨z, hz, rfl⟩)
        simp only [isIn, contains_push, this, Bool.or_false]
      rw [beq_self_eq_true, Bool.or_true, if_pos rfl, if_neg (by rw [hs]; decide), hl]
    · have hy : (y.2 == x.2) = false := by
        simp only [beq_eq_false_iff_ne]
        exact fun e => hn'.1 (by rw [e]; exact List.mem_map.2 ⟨x, hm, rfl⟩)
      rw [hy, Bool.or_false]
      have ih := filter_push hn'.2 x hm hs
      by_cases hc : seen.contains y.2 = true
      · rw [if_pos hc, if_pos hc]
        exact (List.Perm.cons y ih).trans (List.Perm.swap x y _)
      · rw [if_neg hc, if_neg hc]
        exact ih
theorem left_toU (l : List Mu) (seen : Array Nat) : (leftOf (l.map toU).toArray seen).toList = (l.filter fun x => !isIn seen x).map toU := by
  unfold leftOf
  rw [Array.toList_filter]
  simp only [List.filter_map]
  rfl
theorem filter_lt {α : Type} (p q : α → Bool) (hpq : ∀ y, q y = true → p y = true) (x : α) (hx : p x = true) (hq : q x = false) : ∀ (l : List α), x ∈ l → (l.filter q).length < (l.filter p).length
  | [], h => by cases h
  | y :: l, h => by
    have hle : ∀ l : List α, (l.filter q).length ≤ (l.filter p).length := fun l => by
      induction l with
      | nil => simp
      | cons z l ih =>
        simp only [List.filter_cons]
        by_cases h1 : q z = true
        · rw [if_pos h1, if_pos (hpq z h1)]; simpa using ih
        · rw [if_neg h1]; split
          · simp; omega
          · exact ih
    simp only [List.filter_cons]
    rcases List.mem_cons.1 h with rfl | hm
    · rw [hq, hx]
      have := hle l
      simp
      omega
    · have ih := filter_lt p q hpq x hx hq l hm
      by_cases h1 : q y = true
      · rw [if_pos h1, if_pos (hpq y h1)]; simpa using ih
      · rw [if_neg h1]; split
        · simp; omega
        · exact ih
theorem left_dec (l : List Mu) (seen : Array Nat) {x : Mu} (hx : x ∈ l) (hs : isIn seen x = false) : (l.filter fun y => !isIn (seen.push x.2) y).length < (l.filter fun y => !isIn seen y).length := by
  refine filter_lt (fun y : Mu => !isIn seen y) (fun y => !isIn (seen.push x.2) y) (fun y hy => ?_) x (by show (!isIn seen x) = true; rw [hs]; rfl) ?_ l hx
  · simp only [isIn, contains_push, Bool.not_eq_true', Bool.or_eq_false_iff] at hy ⊢
    exact hy.1
  · simp only [isIn, contains_push, beq_self_eq_true, Bool.or_true, Bool.not_true]
theorem hb_perm {who : Int} {A B : List (Int × Int)} (h : A.Perm B) : (hb who A).Perm (hb who B) := (h.filter _).map _
theorem hb_cons (who : Int) (x : Int × Int) (A : List (Int × Int)) : hb who (x :: A) = if x.2 = who then x.1 :: hb who A else hb who A := by
  unfold hb
  rw [List.filter_cons]
  by_cases h : x.2 = who
  · simp [h]
  · simp [h]
theorem outU_all (who : Int) (l : List Mu) (seen : Array Nat) (h : (l.filter fun x => !isIn seen x) = []) : outU who l seen = hb who (l.map (·.1)) := by
  unfold outU
  congr 2
  rw [List.filter_eq_self]
  intro x hx
  have := List.filter_eq_nil_iff.1 h x hx
  simpa using this
/-- the loop's world: the iterator in I; acc was handed out -/
structure HW (W V : World) (B : Nat) (l : List Mu) (clock I : Nat) (seen : Array Nat) (v : Value) (acc : List Int) : Prop where
  map : V.heap[B]? = some (.map (l.map toU).toArray clock)
  it : V.heap[I]? = some (.mapIter (some B) clock seen clock)
  row : V.ownsRow (I + 1) TU 1 v acc.length (uc acc)
  bel : Below W.heap.size W V
  lo : B < I ∧ W.heap.size ≤ I
section
variable {W V V' : World} {B : Nat} {l : List Mu} {clock I : Nat} {seen : Array Nat} {v : Value} {acc : List Int}
theorem HW.below (h : HW W V B l clock I seen v acc) (hb : Below V.heap.size V V') : HW W V' B l clock I seen v acc :=
  ⟨(hb.block _ (ltO h.map)).trans h.map, (hb.block _ (ltO h.it)).trans h.it, own_same h.row fun k hk => hb.block _ (h.row.lt k hk).2, h.bel.trans (hb.mono h.bel.size), h.lo⟩
theorem HW.ge (h : HW W V B l clock I seen v acc) : ∀ k, k ≤ I → some k ≠ v.ownBlock := fun k hk e => by
  have := (h.row.lt k e.symm).1
  omega
/-- the iterator goes on -/
theorem HW.step (h : HW W V B l clock I seen v acc) (b : Nat) (V1 : World) (h1 : V1 = V ∨ V1 = V.drew) :
    HW W { V1 with heap := V1.heap.setIfInBounds I (.mapIter (some B) clock (seen.push b) clock) } B l clock I (seen.push b) v acc := by
  have hI := ltO h.it
  have hlo := h.lo
  have hV : V1.heap = V.heap ∧ V1.os = V.os ∧ V1.tape = V.tape ∧ V1.output = V.output := by rcases h1 with rfl | rfl <;> exact ⟨rfl, rfl, rfl, rfl⟩
  have hk : ∀ k, k ≠ I → (V1.heap.setIfInBounds I (.mapIter (some B) clock (seen.push b) clock))[k]? = V.heap[k]? := fun k hk => by
    rw [hV.1]; simp [Ne.symm hk]
  refine ⟨(hk B (by omega)).trans h.map, ?_, own_same h.row fun k hk' => hk k (by have := (h.row.lt k hk').1; omega), ?_, hlo⟩
  · show (V1.heap.setIfInBounds I _)[I]? = _
    rw [hV.1]; simp [hI]
  · refine ⟨hV.2.1.trans h.bel.os, hV.2.2.1.trans h.bel.tape, hV.2.2.2.trans h.bel.output, ?_, fun k hkW => (hk k (by omega)).trans (h.bel.block k hkW)⟩
    show _ ≤ (V1.heap.setIfInBounds I _).size
    rw [hV.1]; simpa using h.bel.size
/-- a number behind the others -/
theorem HW.push (h : HW W V B l clock I seen v acc) (x : Int) (v' : Value) (w : World) (hown : w.ownsRow (I + 1) TU 1 v' (acc.length + 1) (uc acc ++ [.int .u64 x])) (hg : (V.alloc (.cells #[.int .u64 x] TU)).grownBy w v.ownBlock) :
    HW W w B l clock I seen v' (acc ++ [x]) := by
  have hlo := h.lo
  have hI := ltO h.it
  have hk : ∀ k, k ≤ I → w.heap[k]? = V.heap[k]? := fun k hk => (hg.block k (by simp; omega) (h.ge k hk)).trans (Below.heap_alloc _ _ _ (by omega))
  refine ⟨(hk B (by omega)).trans h.map, (hk I (Nat.le_refl _)).trans h.it, ?_, ?_, hlo⟩
  · rw [uc_app, List.length_append]; exact hown
  · refine ⟨hg.os.trans h.bel.os, hg.tape.trans h.bel.tape, hg.output.trans h.bel.output, ?_, fun k hkW => (hk k (by omega)).trans (h.bel.block k hkW)⟩
    have := hg.size
    have := h.bel.size
    simp at *
    omega
end
section
variable {base : Nat} {b : Nb} {v v1 v2 : Value} {s : Nu} {W V X : World}
theorem iterSeen_of {V : World} {I b c : Nat} {a : Option Nat} {s : Array Nat} (h : V.heap[I]? = some (.mapIter a b s c)) : V.iterSeen I = s := by
  unfold World.iterSeen; rw [h]
theorem hb_len (who : Int) (M : List (Int × Int)) : (hb who M).length ≤ M.length := by
  unfold hb; rw [List.length_map]; exact List.length_filter_le _ _
set_option maxRecDepth 20000 in
set_option maxHeartbeats 2000000 in
theorem held_any (h : NIs base W b v s) (who : Int) (m : Nat) (hS : SortU m) (hm : s.M.length ≤ m) (hm9 : m ≤ 1000000) :
    Calls Tryz.prog 32 #[.pointer (some ⟨b.N, 0, none⟩), .int .i64 who] W fun e w' => ∃ v2 l, e = .returned v2 ∧ w'.ownsRow W.heap.size TU 1 v2 l.length (uc l) ∧ l.Perm (hb who s.M) ∧ l.Pairwise (· ≤ ·) ∧ Below W.heap.size W w' := by
  obtain ⟨i0, hi, hz0, hz1, hz2⟩ := info_partsU infoU
  obtain ⟨-, -, -, c3, -⟩ := h.cells
  obtain ⟨l, clock, hmap, hlM, hborn, hnd⟩ := h.map
  have hlen : l.length = s.M.length := by rw [← hlM]; simp
  have hB := h.lt.2.2.1
  have hr := run_range_map (P := Tryz.prog) W 57 22 3 b.B _ clock Tryz.underlying57 hmap
  obtain ⟨I, hI⟩ : ∃ I, I = W.heap.size := ⟨_, rfl⟩
  rw [← hI] at hr
  have H0 : Hid (HW W (W.alloc (.mapIter (some b.B) clock #[] clock)) b.B l clock I #[] (.slice none 0 0) []) := Lib.hid
    ⟨(Below.heap_alloc _ _ _ hB).trans hmap, by rw [hI]; exact heap_alloc_new W _, World.ownsRow_nil _ _ _ _, (Below.refl _ _).alloc (Nat.le_refl _) _, by omega, by omega⟩
  obtain ⟨w1, hw1⟩ : ∃ X, X = W.alloc (.mapIter (some b.B) clock #[] clock) := ⟨_, rfl⟩
  rw [← hw1] at hr H0
  have HK := Lib.hid (And.intro hborn (And.intro hnd (And.intro hlen (And.intro hm hm9))))
  have HSo := Lib.hid hS
  have HM : Hid (hb who (l.map (·.1)) = hb who s.M) := Lib.hid (by rw [hlM])
  clear h hmap hlM hborn hnd hlen hS hm hm9 hB hw1
  go_enter Tryz.func32, Tryz.ntmps32
  go_upto_region 3 with fail
  clear c3 hr
  rw [← hI]
  clear hI
  go_loopw [5] (fun sv wr => ∃ (seen : Array Nat) (acc : List Int), HW W wr b.B l clock I seen sv acc ∧ Hid ((outU who l seen).Perm acc)) (fun _ wr => (l.filter fun x => !isIn (wr.iterSeen I) x).length)
  case atStart => exact ⟨#[], [], H0.out, by show List.Perm _ _; unfold outU; rw [List.filter_eq_nil_iff.2 (fun x _ => by simp [isIn])]; exact List.Perm.refl _⟩
  case round =>
    clear H0
    obtain ⟨seen, acc, hsw, hperm⟩ := hrel
    obtain ⟨A, c, rfl⟩ := own_form hsw.row
    have HSW := Lib.hid hsw
    have law := Mi.next_run (P := Tryz.prog) wr 0 I b.B clock clock seen (l.map toU).toArray clock hsw.it hsw.map (fun x hx => by simp at hx; obtain ⟨a, e, c, hm, rfl⟩ := hx; exact HK.out.1 _ hm) (Nat.le_refl _)
    have hal : acc.length ≤ m := by
      have h1 := hperm.out.length_eq
      have h2 := hb_len who ((l.filter (isIn seen)).map (·.1))
      have h3 : (l.filter (isIn seen)).length ≤ l.length := List.length_filter_le _ _
      have h4 := HK.out.2.2
      unfold outU at h1
      rw [List.length_map] at h2
      omega
    have HAL := Lib.hid hal
    clear hsw hal
    rcases law with ⟨h0, hrun⟩ | ⟨e, he, V1, hV1, hrun⟩
    · have hnx : ∀ ty, (Instr.next (.pointer (some ⟨I, 0, none⟩)) false ty).run Tryz.prog wr = _ := fun _ => hrun
      have hall : outU who l seen = hb who (l.map (·.1)) := by
        refine outU_all who l seen ?_
        have : (leftOf (l.map toU).toArray seen).toList = [] := by rw [Array.size_eq_length_toList] at h0; exact List.length_eq_zero_iff.1 h0
        rw [left_toU] at this
        exact List.map_eq_nil_iff.1 this
      have HP : Hid (acc.Perm (hb who s.M)) := by have := hperm.out.symm; rw [hall, HM.out] at this; exact this
      clear hall h0 hrun hperm
      have hso := HSo.out wr (I + 1) A acc.length c acc rfl HAL.out HSW.out.row
      have HSO := Lib.hid hso
      obtain ⟨n, hn⟩ : ∃ n, n = acc.length := ⟨_, rfl⟩
      rw [← hn] at HSO ⊢
      have HNl := Lib.hid hn
      clear hso hn
      go_wp2_with fail
      refine HSO.out.mono ?_
      rintro _ w5 ⟨rfl, l', hlp, hpw, hre, hg5⟩
      have hge := HSW.out.ge
      rw [← HNl.out] at hge
      have hb5 : Below W.heap.size W w5 := by
        have h1 := HSW.out.bel
        have h2 := HSW.out.lo
        have h3 := ltO HSW.out.it
        exact ⟨hg5.os.trans h1.os, hg5.tape.trans h1.tape, hg5.output.trans h1.output, Nat.le_trans h1.size hg5.size, fun k hk => (hg5.block k (by omega) (hge k (by omega))).trans (h1.block k hk)⟩
      have hro : w5.ownsRow W.heap.size TU 1 (.slice A n c) l'.length (uc l') := by
        have e1 : l'.length = n := by rw [hlp.length_eq, HNl.out]
        rw [e1]
        refine ⟨hre.1, ?_⟩
        rcases hre.2 with h2 | ⟨g, cap, cur, hv, hg, r⟩
        · exact Or.inl h2
        · exact Or.inr ⟨g, cap, cur, hv, by have := HSW.out.lo; omega, r⟩
      have HR := Lib.hid (And.intro hro (And.intro (hlp.trans HP.out) (And.intro hpw hb5)))
      clear hge hb5 hro hlp hpw hre hg5 HSW HSO HP HAL hnx HNl
      go_wp2
      go_ret
      exact ⟨_, l', rfl, HR.out⟩
    · rw [left_toU] at he
      obtain ⟨x, hx, rfl⟩ := List.mem_map.1 he
      obtain ⟨hxl, hxs⟩ := List.mem_filter.1 hx
      have hxs' : isIn seen x = false := by simpa using hxs
      have hnx : ∀ ty, (Instr.next (.pointer (some ⟨I, 0, none⟩)) false ty).run Tryz.prog wr = _ := fun _ => hrun
      have h4 := HSW.out.step x.2 V1 hV1
      have hen := Mi.entry_run (P := Tryz.prog) _ I b.B clock seen (l.map toU).toArray clock (toU x) h4.it h4.map (by simp; exact ⟨x.1.1, x.1.2, x.2, hxl, rfl⟩) (by
        have : ((l.map toU).toArray.toList.map (·.born)) = l.map (·.2) := by simp [toU]
        rw [this]; exact HK.out.2.1)
      obtain ⟨w4, hw4⟩ : ∃ V : World, V = { V1 with heap := V1.heap.setIfInBounds I (.mapIter (some b.B) clock (seen.push x.2) clock) } := ⟨_, rfl⟩
      change ∀ ty, _ = Result.ok _ ({ V1 with heap := V1.heap.setIfInBounds I (.mapIter (some b.B) clock (seen.push x.2) clock) } : World) at hnx
      rw [← hw4] at hnx h4 hen
      have H4 := Lib.hid h4
      have hpe : Hid ((outU who l (seen.push x.2)).Perm (if x.1.2 = who then x.1.1 :: outU who l seen else outU who l seen)) := by
        have h1 := (filter_push HK.out.2.1 x hxl (by simpa [isIn] using hxs')).map (·.1)
        have h2 := hb_perm (who := who) h1
        rw [List.map_cons, hb_cons] at h2
        exact h2
      have hms : Hid ((l.filter fun y => !isIn (seen.push x.2) y).length < (l.filter fun y => !isIn seen y).length) := left_dec l seen hxl hxs'
      have HIS : Hid (wr.iterSeen I = seen) := iterSeen_of HSW.out.it
      clear hx hxl hxs hxs' hrun hw4 h4 hV1
      obtain ⟨⟨k, ho⟩, born⟩ := x
      unfold toU at hnx hen
      dsimp only at hnx hen hpe H4
      by_cases hw : ho = who
      · have hwb : (ho == who) = true := by simpa using hw
        have HPE : Hid ((outU who l (seen.push born)).Perm (k :: outU who l seen)) := by have h1 := hpe; rw [if_pos hw] at h1; exact h1
        have hro := H4.out.row
        have hro2 := own_same hro (w1 := w4.alloc (.cells #[.int .u64 k] TU)) fun j hj => Below.heap_alloc _ _ _ (hro.lt j hj).2
        have HRo := Lib.hid hro2
        have hN := Lib.hid (news_u w4 k)
        have hI4 : Hid (I + 1 ≤ (w4.alloc (.cells #[.int .u64 k] TU)).heap.size) := Lib.hid (by have := ltO H4.out.it; simp; omega)
        obtain ⟨n, hn⟩ : ∃ n, n = acc.length := ⟨_, rfl⟩
        rw [← hn] at HRo ⊢
        have HNl := Lib.hid hn
        clear hpe hw hro hro2 hn
        go_wp2_with (at_builtin; go_loud (refine wpList_append_lies _ rfl _ _ 36 rfl (I + 1) TU i0 (.int .u64 0) 1 8 Tryz.underlying36 hi hz0 hz1 hz2 rfl (by decide) _ _ _ rfl HRo.out ⟨w4.heap.size, 0, none⟩ 1 1 [.int .u64 k] rfl rfl hN.out (ones_u _) (by decide) (by have := HAL.out; have := HK.out.2.2.2.2; have := HNl.out; unfold maxLen; omega) (by have := HAL.out; have := HK.out.2.2.2.2; have := HNl.out; omega) hI4.out _ rfl ?_; intro g1 cap1 w6 hown hg hat _; have H6 := Lib.hid (H4.out.push k _ w6 (by rw [← HNl.out]; exact hown) (by rw [← HNl.out]; exact hg)); clear hown hg hat))
        go_roundw
        case rel =>
          refine ⟨seen.push born, acc ++ [k], H6.out, ?_⟩
          exact HPE.out.trans ((List.Perm.cons k hperm.out).trans (List.perm_append_singleton k acc).symm)
        case measure => rw [show (w6).iterSeen I = _ from iterSeen_of H6.out.it, HIS.out]; exact hms.out
      · have hwb : (ho == who) = false := by simpa using hw
        have HPE : Hid ((outU who l (seen.push born)).Perm (outU who l seen)) := by have h1 := hpe; rw [if_neg hw] at h1; exact h1
        clear hpe hw
        go_wp2
        go_roundw
        case rel => exact ⟨seen.push born, acc, H4.out, HPE.out.trans hperm.out⟩
        case measure => rw [show (w4).iterSeen I = _ from iterSeen_of H4.out.it, HIS.out]; exact hms.out
end
end Go.Proofs.YtpkkomifenlkaaaGreat.Au
/- An account's numbers: all that somebody holds is given back. -/
namespace Go.Proofs.YtpkkomifenlkaaaGreat.Au
open Go Go.RowKit
set_option linter.unusedVariables false

theorem sorted_uniq : ∀ {a c : List Int}, a.Perm c → a.Pairwise (· ≤ ·) → c.Pairwise (· ≤ ·) → a = c
  | [], c, h, _, _ => by rw [List.nil_perm.1 h]
  | x :: a, [], h, _, _ => by cases List.perm_nil.1 h
  | x :: a, y :: c, h, ha, hc => by
    have hx : x ∈ y :: c := h.subset (by simp)
    have hy : y ∈ x :: a := h.symm.subset (by simp)
    have h1 : y ≤ x := by
      rcases List.mem_cons.1 hx with e | e
      · omega
      · exact (List.pairwise_cons.1 hc).1 x e
    have h2 : x ≤ y := by
      rcases List.mem_cons.1 hy with e | e
      · omega
      · exact (List.pairwise_cons.1 ha).1 y e
    obtain rfl : x = y := by omega
    rw [sorted_uniq ((List.perm_cons x).1 h) (List.pairwise_cons.1 ha).2 (List.pairwise_cons.1 hc).2]
/-- what somebody holds, rising -/
def hbs (who : Int) (M : List (Int × Int)) : List Int := (hb who M).mergeSort fun x y => decide (x ≤ y)
theorem hbs_perm (who : Int) (M : List (Int × Int)) : (hbs who M).Perm (hb who M) := List.mergeSort_perm _ _
theorem hbs_rise (who : Int) (M : List (Int × Int)) : (hbs who M).Pairwise (· ≤ ·) := by
  have := List.pairwise_mergeSort (le := fun x y : Int => decide (x ≤ y)) (fun a b c h1 h2 => by simp at *; omega) (fun a b => by simp; omega) (hb who M)
  exact this.imp fun h => by simpa using h
theorem hbs_eq {who : Int} {M : List (Int × Int)} {l : List Int} (h : l.Perm (hb who M)) (hp : l.Pairwise (· ≤ ·)) : l = hbs who M :=
  sorted_uniq (h.trans (hbs_perm who M).symm) hp (hbs_rise who M)
theorem hbs_len (who : Int) (M : List (Int × Int)) : (hbs who M).length ≤ M.length := by
  rw [(hbs_perm who M).length_eq]; exact hb_len who M
theorem hbs_mem {who x : Int} {M : List (Int × Int)} : x ∈ hbs who M ↔ (x, who) ∈ M := by
  rw [(hbs_perm who M).mem_iff]
  unfold hb
  rw [List.mem_map]
  constructor
  · rintro ⟨⟨a, c⟩, h1, rfl⟩
    obtain ⟨h2, h3⟩ := List.mem_filter.1 h1
    simp only [decide_eq_true_eq] at h3
    rw [← h3]
    exact h2
  · intro h
    exact ⟨(x, who), List.mem_filter.2 ⟨h, by simp⟩, rfl⟩
def foldL (l : List Int) (L : List Int) : List Int := l.foldl (fun L n => Gm.putS n L) L
def foldM (l : List Int) (M : List (Int × Int)) : List (Int × Int) := l.foldl (fun M n => dl n M) M
/-- behind a drop -/
def drS (who : Int) (s : Nu) : Nu := ⟨s.ep, s.nx, foldL (hbs who s.M) s.L, foldM (hbs who s.M) s.M⟩
theorem foldL_take {l : List Int} {k : Nat} (h : k < l.length) (L : List Int) : foldL (l.take (k + 1)) L = Gm.putS l[k] (foldL (l.take k) L) := by
  unfold foldL
  rw [List.take_succ_eq_append_getElem h, List.foldl_append]
  rfl
theorem foldM_take {l : List Int} {k : Nat} (h : k < l.length) (M : List (Int × Int)) : foldM (l.take (k + 1)) M = dl l[k] (foldM (l.take k) M) := by
  unfold foldM
  rw [List.take_succ_eq_append_getElem h, List.foldl_append]
  rfl
theorem putS_le (n : Int) (L : List Int) : (Gm.putS n L).length ≤ L.length + 1 := by
  unfold Gm.putS
  split
  · omega
  · rw [Gm.putL_len]; omega
theorem foldL_le : ∀ (l L : List Int), (foldL l L).length ≤ L.length + l.length
  | [], L => by simp [foldL]
  | x :: l, L => by
    have h1 := foldL_le l (Gm.putS x L)
    have h2 := putS_le x L
    show (foldL l (Gm.putS x L)).length ≤ _
    simp only [List.length_cons]
    omega
theorem dl_sub (k : Int) (M : List (Int × Int)) : (dl k M).Sublist M := List.filter_sublist
theorem foldM_sub : ∀ (l : List Int) (M : List (Int × Int)), (foldM l M).Sublist M
  | [], M => by simp [foldM]
  | x :: l, M => (foldM_sub l (dl x M)).trans (dl_sub x M)
theorem nodup_sub {A B : List (Int × Int)} (h : A.Sublist B) (hn : (B.map (·.1)).Nodup) : (A.map (·.1)).Nodup := (h.map _).nodup hn
theorem own_cellU {V : World} {base n c : Nat} {A : Option Addr} {l : List Int} (h : V.ownsRow base TU 1 (.slice A n c) n (uc l)) (hn : n = l.length) (i : Nat) (hi : i < n) : ∃ g, A = some ⟨g, 0, none⟩ ∧ base ≤ g ∧ g < V.heap.size ∧ V.cell? ⟨g, i, none⟩ = some (.int .u64 (l.getD i 0)) := by
  rcases h.2 with ⟨h1, h2⟩ | ⟨g, cap, cur, hv, hg, hh, r⟩
  · omega
  · injection hv with hA _ _
    refine ⟨g, hA, hg, ltO hh, ?_⟩
    have hc := h.cells (g := g) (by rw [hA]; rfl) i (.int .u64 (l.getD i 0)) (by
      unfold uc
      rw [List.getElem?_map, List.getElem?_eq_getElem (by omega)]
      simp [List.getD_eq_getElem?_getD, show i < l.length by omega])
    rw [show (⟨g, 0, none⟩ : Addr).add i = ⟨g, i, none⟩ by unfold Addr.add; split <;> simp_all] at hc
    exact hc
section
variable {base : Nat} {b : Nb} {v v1 v2 : Value} {s : Nu} {W V X : World}
set_option maxRecDepth 20000 in
set_option maxHeartbeats 2000000 in
theorem drop_any (h : NIs base W b v s) (who : Int) (m : Nat) (hS : SortU m) (hm : s.M.length ≤ m) (hm9 : m ≤ 1000000) (hnd : (s.M.map (·.1)).Nodup) (hbd : ∀ x ∈ s.M, 0 ≤ x.1 ∧ x.1 ≤ 18446744073709551615) (hf : s.L.length + s.M.length ≤ 900) :
    Calls Tryz.prog 28 #[.pointer (some ⟨b.N, 0, none⟩), .int .i64 who] W fun e w' => e = .returned (.int .u64 ((hbs who s.M).length : Int)) ∧ ∃ v', NIs base w' b v' (drS who s) ∧ FN b v v' W w' := by
  have HH := Lib.hid (held_any h who m hS hm hm9)
  have HX := Lib.hid (And.intro h (And.intro hnd (And.intro hbd hf)))
  clear h hS hm hm9 hnd hbd hf
  go_enter Tryz.func28, Tryz.ntmps28
  go_wp2_with fail
  refine HH.out.mono ?_
  rintro _ w1 ⟨v2, l, rfl, hrow, hlp, hpw, hb1⟩
  obtain ⟨A, c, rfl⟩ := own_form hrow
  have hl := hbs_eq hlp hpw
  have hl2 : l.length ≤ s.M.length := by rw [hl]; exact hbs_len who s.M
  have h1 := HX.out.1.below hb1
  have hmem : ∀ x ∈ l, 0 ≤ x ∧ x ≤ 18446744073709551615 := fun x hx => by
    rw [hl] at hx
    exact HX.out.2.2.1 _ (hbs_mem.1 hx)
  obtain ⟨n, hn⟩ : ∃ n, n = l.length := ⟨_, rfl⟩
  have HY := Lib.hid (And.intro h1 (And.intro hl (And.intro hl2 (And.intro hmem hn))))
  have HR : Hid (w1.ownsRow W.heap.size TU 1 (.slice A n c) n (uc l)) := Lib.hid (by rw [hn]; exact hrow)
  have hfb : FN b v v W w1 := FN.of_below hb1
  have HB := Lib.hid hfb
  have hn9 : n ≤ 900 := by have := HX.out.2.2.2; omega
  rw [← hn]
  clear hrow hlp hpw hb1 h1 hl hl2 hmem hn hfb HH
  go_wp2_with fail
  go_loopw [13] (fun iv wr => ∃ (k : Nat) (v' : Value), iv = .int .i64 (k : Int) ∧ k ≤ n ∧ NIs base wr b v' ⟨s.ep, s.nx, foldL (l.take k) s.L, foldM (l.take k) s.M⟩ ∧ FN b v v' w1 wr) (fun iv _ => n - (intOf iv).toNat)
  case atStart => exact ⟨0, v, rfl, Nat.zero_le _, by simpa [foldL, foldM] using HY.out.1, FN.refl⟩
  case round =>
    obtain ⟨k, v', rfl, hk, hN, hF⟩ := hrel
    by_cases hkn : k < n
    · obtain ⟨g, rfl, hg1, hg2, hgc⟩ := own_cellU HR.out HY.out.2.2.2.2 k hkn
      have hkl : k < l.length := by have := HY.out.2.2.2.2; omega
      have hgd : l.getD k 0 = l[k] := by simp [List.getD_eq_getElem?_getD, hkl]
      have hgo : Off b v g := HX.out.1.off_new hg1
      have hgc2 : wr.cell? ⟨g, k, none⟩ = some (.int .u64 l[k]) := by
        rw [← hgd, ← hgc]
        exact World.cell?_of_block (w := w1) (hF.block g hg2 hgo)
      have hx := HY.out.2.2.2.1 l[k] (List.getElem_mem hkl)
      have hft := foldL_take hkl s.L
      have hfm := foldM_take hkl s.M
      generalize l[k] = x at hgc2 hx hft hfm
      have hnd := nodup_sub (foldM_sub (l.take k) s.M) HX.out.2.1
      have hll := foldL_le (l.take k) s.L
      rw [List.length_take] at hll
      have c3 := hN.cells.2.2.2.1
      obtain ⟨w4, hr4, hm4, ho4⟩ := del_run x b.B _ 0 wr hN.map hnd
      have n4 := hN.onB hm4 ho4
      have f4 := hF.trans (FN.of_onB ho4)
      have c2 := n4.cells.2.2.1
      have H4 := Lib.hid (And.intro n4 (And.intro f4 (And.intro hx (And.intro hft (And.intro hfm hll)))))
      have hk0 : (0 : Int) ≤ (k : Int) := by omega
      have hk1 : (k : Int) < (n : Int) := by omega
      clear hN hF hnd hm4 ho4 n4 f4 hx hft hfm hll hgc hg1 hg2 hgo hgd
      go_wp2_with fail
      refine (Gp.gput_any base b.H v' _ x w4 H4.out.1.gh (by have := H4.out.1.lt.1; have := H4.out.1.low.1; omega) H4.out.2.2.1.1 H4.out.2.2.1.2 (by have := H4.out.2.2.2.2.2; have := HX.out.2.2.2; have := HY.out.2.2.1; have := HY.out.2.2.2.2; show (foldL (l.take k) s.L).length < 900; omega)).mono ?_
      rintro _ w6 ⟨rfl, v6, hg6, -, hf6⟩
      have H6 := Lib.hid (And.intro (H4.out.1.onH hg6 hf6) (H4.out.2.1.trans (FN.of_fr hf6)))
      clear hg6 hf6
      go_wp2
      go_roundw
      case rel =>
        refine ⟨k + 1, v6, by go_num, hkn, ?_, H6.out.2⟩
        rw [H4.out.2.2.2.1, H4.out.2.2.2.2.1]
        exact H6.out.1
      case measure => simp [intOf]; omega
    · obtain rfl : k = n := by omega
      have hfin : NIs base wr b v' (drS who s) := by
        have e1 : l.take k = l := List.take_of_length_le (by have := HY.out.2.2.2.2; omega)
        rw [e1, HY.out.2.1] at hN
        exact hN
      have hlen : ((k : Nat) : Int) = ((hbs who s.M).length : Int) := by rw [← HY.out.2.1, ← HY.out.2.2.2.2]
      have HF := Lib.hid (And.intro hfin (And.intro (HB.out.trans hF) hlen))
      have hwr : IntKind.u64.wrap (k : Int) = (k : Int) := wrap_u (by omega) (by omega)
      clear hfin hlen hN hF
      go_wp2
      go_ret
      exact ⟨by rw [HF.out.2.2]; rfl, _, HF.out.1, HF.out.2.1⟩
end
end Go.Proofs.YtpkkomifenlkaaaGreat.Au
/- An account's numbers as plain sums: what an operation answers, and what they are behind it. -/
namespace Go.Proofs.YtpkkomifenlkaaaGreat.Au
open Go Go.RowKit
set_option linter.unusedVariables false

theorem lng_at : ∀ (L : List Int) (i : Nat), i < Gm.lng L → L[i]? = some (L.headD 0 + (i : Int))
  | [], i, h => by simp [Gm.lng] at h
  | [a], i, h => by
    have : i = 0 := by simp [Gm.lng] at h; omega
    subst this; simp
  | a :: b :: r, i, h => by
    unfold Gm.lng at h
    cases i with
    | zero => simp
    | succ j =>
      by_cases e : b - a = 1
      · rw [if_pos e] at h
        have := lng_at (b :: r) j (by omega)
        simp only [List.getElem?_cons_succ, List.headD_cons] at this ⊢
        rw [this]
        congr 1
        push_cast
        omega
      · rw [if_neg e] at h; omega
theorem lng_le : ∀ (L : List Int), Gm.lng L ≤ L.length
  | [] => by simp [Gm.lng]
  | [a] => by simp [Gm.lng]
  | a :: b :: r => by
    unfold Gm.lng
    have := lng_le (b :: r)
    split
    · simp at *; omega
    · simp
theorem lng_pos : ∀ {L : List Int}, L ≠ [] → 1 ≤ Gm.lng L
  | [], h => absurd rfl h
  | [a], _ => by simp [Gm.lng]
  | a :: b :: r, _ => by unfold Gm.lng; split <;> omega
def top : Int := 18446744073709551615
/-- so they are always; no more than k are given back or held -/
structure NOk (s : Nu) (k : Nat) : Prop where
  ep : 0 ≤ s.ep ∧ s.ep ≤ 18446744073709551615
  nx : 0 ≤ s.nx ∧ s.nx ≤ 18446744073709551615
  L : ∀ x ∈ s.L, 0 ≤ x ∧ x < s.nx
  rise : s.L.Pairwise (· < ·)
  M : ∀ x ∈ s.M, 0 ≤ x.1 ∧ x.1 < s.nx ∧ x.1 ∉ s.L
  nd : (s.M.map (·.1)).Nodup
  len : s.L.length + s.M.length ≤ k
theorem NOk.more {s : Nu} {k m : Nat} (h : NOk s k) (hm : k ≤ m) : NOk s m := ⟨h.ep, h.nx, h.L, h.rise, h.M, h.nd, Nat.le_trans h.len hm⟩
theorem NOk.new (f : Int) (h : 0 ≤ f ∧ f ≤ 18446744073709551615) : NOk ⟨0, f, [], []⟩ 0 := ⟨by simp, h, by simp, by simp, by simp, by simp, by simp⟩
/-- what is reserved: the first number, how many -/
def rsF (nn : Int) (s : Nu) : Int := if s.L = [] then s.nx else Gp.tkF nn s.L
def rsM (nn : Int) (s : Nu) : Nat := if s.L = [] then (if 18446744073709551615 - s.nx < nn then 18446744073709551615 - s.nx else nn).toNat else (Gp.tkM nn s.L).toNat
def rsS (nn who : Int) (s : Nu) : Nu := ⟨s.ep, if s.L = [] then s.nx + (rsM nn s : Int) else s.nx, if s.L = [] then [] else s.L.drop (Gp.tkM nn s.L).toNat, s.M ++ nums (rsF nn s) (rsM nn s) who⟩
/-- is nothing left? -/
def rsE (s : Nu) : Bool := decide (s.L = []) && decide (s.nx = 18446744073709551615)
theorem tkM_eq {nn : Int} {L : List Int} (h1 : 1 ≤ nn) (hL : L ≠ []) : Gp.tkM nn L = min (Gm.lng L : Int) nn := by unfold Gp.tkM; rw [if_neg (by rintro (e | e); omega; exact hL e)]
theorem tkF_eq {nn : Int} {L : List Int} (h1 : 1 ≤ nn) (hL : L ≠ []) : Gp.tkF nn L = L.headD 0 := by unfold Gp.tkF; rw [if_neg (by rintro (e | e); omega; exact hL e)]
/-- all that reserve's walk asks -/
structure RsOk (nn who : Int) (s : Nu) : Prop where
  hc : (s.L ≠ [] ∧ rsF nn s = Gp.tkF nn s.L ∧ (rsM nn s : Int) = Gp.tkM nn s.L ∧ (if s.L = [] then s.nx + (rsM nn s : Int) else s.nx) = s.nx ∧ (if s.L = [] then [] else s.L.drop (Gp.tkM nn s.L).toNat) = s.L.drop (Gp.tkM nn s.L).toNat) ∨ (s.L = [] ∧ rsF nn s = s.nx ∧ (rsM nn s : Int) = (if 18446744073709551615 - s.nx < nn then 18446744073709551615 - s.nx else nn) ∧ (if s.L = [] then s.nx + (rsM nn s : Int) else s.nx) = s.nx + (rsM nn s : Int) ∧ (if s.L = [] then [] else s.L.drop (Gp.tkM nn s.L).toNat) = [])
  f0 : 0 ≤ rsF nn s
  fm : rsF nn s + (rsM nn s : Int) ≤ 18446744073709551615
  m0 : 0 < rsM nn s
  mm : (rsM nn s : Int) ≤ 8
  mn : (rsM nn s : Int) ≤ nn
  new : ∀ i, i < rsM nn s → lk (rsF nn s + (i : Int)) s.M = none
  ok : ∀ k, NOk s k → NOk (rsS nn who s) (k + 8)
theorem rs_ok {nn : Int} {s : Nu} {k : Nat} (h : NOk s k) (h1 : 1 ≤ nn) (h8 : nn ≤ 8) (he : rsE s = false) (who : Int) : RsOk nn who s := by
  by_cases hL : s.L = []
  · have hx : s.nx ≠ 18446744073709551615 := fun e => by unfold rsE at he; simp [hL, e] at he
    have hx9 := h.nx
    have eM : rsM nn s = (if 18446744073709551615 - s.nx < nn then 18446744073709551615 - s.nx else nn).toNat := by unfold rsM; rw [if_pos hL]
    have eF : rsF nn s = s.nx := by unfold rsF; rw [if_pos hL]
    have hm : (rsM nn s : Int) = if 18446744073709551615 - s.nx < nn then 18446744073709551615 - s.nx else nn := by rw [eM]; split <;> omega
    have hb : 1 ≤ (rsM nn s : Int) ∧ (rsM nn s : Int) ≤ nn ∧ s.nx + (rsM nn s : Int) ≤ 18446744073709551615 := by rw [hm]; split <;> omega
    have hnew : ∀ i, i < rsM nn s → lk (rsF nn s + (i : Int)) s.M = none := fun i hi => by
      rw [lk_none]
      intro x hx' e
      have := h.M x hx'
      rw [eF] at e
      omega
    refine ⟨Or.inr ⟨hL, eF, hm, by rw [if_pos hL], by rw [if_pos hL]⟩, by rw [eF]; omega, by rw [eF]; omega, by omega, by omega, by omega, hnew, fun k h => ?_⟩
    unfold rsS
    rw [if_pos hL, if_pos hL]
    refine ⟨h.ep, ⟨by show 0 ≤ s.nx + _; omega, hb.2.2⟩, by simp, by simp, fun x hx' => ?_, ?_, ?_⟩
    · rcases List.mem_append.1 hx' with q | q
      · have := h.M x q
        exact ⟨this.1, by show x.1 < s.nx + _; omega, by simp⟩
      · have := nums_mem.1 q
        rw [eF] at this
        exact ⟨by omega, by show x.1 < s.nx + _; omega, by simp⟩
    · show ((s.M ++ nums (rsF nn s) (rsM nn s) who).map (·.1)).Nodup
      rw [List.map_append, List.nodup_append]
      refine ⟨h.nd, ?_, fun a ha b hb' => ?_⟩
      · unfold nums
        rw [List.map_map, List.Nodup, List.pairwise_map]
        refine List.nodup_range.imp fun hab => ?_
        show rsF nn s + _ ≠ rsF nn s + _
        omega
      · obtain ⟨x, hx', rfl⟩ := List.mem_map.1 ha
        obtain ⟨z, hz, rfl⟩ := List.mem_map.1 hb'
        have := h.M x hx'
        have := nums_mem.1 hz
        rw [eF] at this
        omega
    · show ([] : List Int).length + (s.M ++ _).length ≤ _
      have := h.len
      rw [List.length_append, nums_len]
      simp
      omega
  · have eM : rsM nn s = (Gp.tkM nn s.L).toNat := by unfold rsM; rw [if_neg hL]
    have eF : rsF nn s = s.L.headD 0 := by unfold rsF; rw [if_neg hL, tkF_eq h1 hL]
    have tM := tkM_eq h1 hL
    have l1 := lng_pos hL
    have l2 := lng_le s.L
    have hm : (rsM nn s : Int) = min (Gm.lng s.L : Int) nn := by rw [eM, tM]; omega
    have hat : ∀ i, i < rsM nn s → s.L[i]? = some (rsF nn s + (i : Int)) := fun i hi => by rw [eF]; exact lng_at s.L i (by omega)
    have hin : ∀ i, i < rsM nn s → rsF nn s + (i : Int) ∈ s.L := fun i hi => List.mem_of_getElem? (hat i hi)
    have hmb : 1 ≤ rsM nn s := by omega
    have hnew : ∀ i, i < rsM nn s → lk (rsF nn s + (i : Int)) s.M = none := fun i hi => by
      rw [lk_none]
      intro x hx' e
      exact (h.M x hx').2.2 (by rw [e]; exact hin i hi)
    have hF := h.L _ (hin 0 (by omega))
    have hE := h.L _ (hin (rsM nn s - 1) (by omega))
    have hnx := h.nx
    refine ⟨Or.inl ⟨hL, by unfold rsF; rw [if_neg hL], by rw [eM, tM]; omega, by rw [if_neg hL], by rw [if_neg hL]⟩, by omega, by omega, by omega, by omega, by omega, hnew, fun k h => ?_⟩
    unfold rsS
    rw [if_neg hL, if_neg hL, ← eM]
    have hd : ∀ x ∈ s.L.drop (rsM nn s), x ∈ s.L := fun x hx => List.mem_of_mem_drop hx
    refine ⟨h.ep, h.nx, fun x hx => h.L x (hd x hx), List.Pairwise.sublist (List.drop_sublist _ _) h.rise, fun x hx' => ?_, ?_, ?_⟩
    · rcases List.mem_append.1 hx' with q | q
      · have := h.M x q
        exact ⟨this.1, this.2.1, fun e => this.2.2 (hd _ e)⟩
      · have hq := nums_mem.1 q
        obtain ⟨i, hi, e⟩ : ∃ i : Nat, i < rsM nn s ∧ x.1 = rsF nn s + (i : Int) := ⟨(x.1 - rsF nn s).toNat, by omega, by omega⟩
        have hb := h.L _ (hin i hi)
        refine ⟨by omega, by show x.1 < s.nx; omega, fun e2 => ?_⟩
        have e2' : x.1 ∈ s.L.drop (rsM nn s) := e2
        obtain ⟨j, hj⟩ := List.getElem?_of_mem e2'
        rw [List.getElem?_drop] at hj
        have hr := List.pairwise_iff_getElem.1 h.rise i (rsM nn s + j) (by omega) (List.getElem?_eq_some_iff.1 hj).1 (by omega)
        have g1 := (List.getElem?_eq_some_iff.1 (hat i hi)).2
        have g2 := (List.getElem?_eq_some_iff.1 hj).2
        rw [g1, g2] at hr
        omega
    · show ((s.M ++ nums (rsF nn s) (rsM nn s) who).map (·.1)).Nodup
      rw [List.map_append, List.nodup_append]
      refine ⟨h.nd, ?_, fun a ha b hb' => ?_⟩
      · unfold nums
        rw [List.map_map, List.Nodup, List.pairwise_map]
        refine List.nodup_range.imp fun hab => ?_
        show rsF nn s + _ ≠ rsF nn s + _
        omega
      · obtain ⟨x, hx', rfl⟩ := List.mem_map.1 ha
        obtain ⟨z, hz, rfl⟩ := List.mem_map.1 hb'
        have hq := nums_mem.1 hz
        obtain ⟨i, hi, e⟩ : ∃ i : Nat, i < rsM nn s ∧ z.1 = rsF nn s + (i : Int) := ⟨(z.1 - rsF nn s).toNat, by omega, by omega⟩
        intro e2
        exact (h.M x hx').2.2 (by rw [e2, e]; exact hin i hi)
    · show (s.L.drop (rsM nn s)).length + (s.M ++ _).length ≤ _
      have := h.len
      rw [List.length_append, nums_len, List.length_drop]
      omega
theorem mem_putS {n m : Int} {L : List Int} (hn : n ≠ 18446744073709551615) : m ∈ Gm.putS n L ↔ m = n ∨ m ∈ L := by
  unfold Gm.putS
  by_cases h : n ∈ L
  · rw [if_pos (Or.inr h)]
    exact ⟨Or.inr, fun q => q.elim (fun e => e ▸ h) id⟩
  · rw [if_neg (by rintro (e | e); exact hn e; exact h e), Gm.mem_putL]
theorem putS_rise {n : Int} {L : List Int} (h : L.Pairwise (· < ·)) : (Gm.putS n L).Pairwise (· < ·) := by
  unfold Gm.putS
  split
  · exact h
  · rename_i hc
    exact Gm.putL_rise h fun e => hc (Or.inr e)
theorem mem_dl {k : Int} {M : List (Int × Int)} {x : Int × Int} : x ∈ dl k M ↔ x ∈ M ∧ x.1 ≠ k := by
  unfold dl; rw [List.mem_filter]; simp
theorem dl_len {k v : Int} {M : List (Int × Int)} (h : (k, v) ∈ M) : (dl k M).length + 1 ≤ M.length := by
  induction M with
  | nil => cases h
  | cons x M ih =>
    unfold dl at *
    rw [List.filter_cons]
    by_cases e : x.1 = k
    · rw [if_neg (by simp [e])]
      have : (M.filter fun x => !decide (x.1 = k)).length ≤ M.length := List.length_filter_le _ _
      simp; omega
    · rw [if_pos (by simp [e])]
      have hm : (k, v) ∈ M := by
        rcases List.mem_cons.1 h with q | q
        · rw [← q] at e; exact absurd rfl e
        · exact q
      have := ih hm
      simp; omega
theorem lv_ok {s : Nu} {k : Nat} {o : Oq} (h : NOk s k) (hf : k ≤ 1000) : NOk (lvS o s) k := by
  unfold lvS
  by_cases hc : lvC o s = 0
  · rw [if_pos hc]
    have hl : ∃ v, lk o.nn s.M = some v := by
      unfold lvC at hc
      split at hc
      · cases hc
      · cases hq : lk o.nn s.M with
        | none => rw [hq] at hc; cases hc
        | some v => exact ⟨v, rfl⟩
    obtain ⟨v, hv⟩ := hl
    have hm := lk_some hv
    have hb := h.M _ hm
    have hnt : o.nn ≠ 18446744073709551615 := by have := h.nx; have := hb.2.1; dsimp only at this; omega
    have hll := dl_len hm
    have hlen := h.len
    by_cases h8 : o.kd = 8
    · rw [if_pos h8]
      refine ⟨h.ep, h.nx, fun x hx => ?_, putS_rise h.rise, fun x hx => ?_, nodup_sub (dl_sub _ _) h.nd, ?_⟩
      · rcases (mem_putS hnt).1 hx with rfl | q
        · exact ⟨hb.1, hb.2.1⟩
        · exact h.L x q
      · obtain ⟨q1, q2⟩ := mem_dl.1 hx
        have := h.M x q1
        refine ⟨this.1, this.2.1, fun e => ?_⟩
        rcases (mem_putS hnt).1 e with q | q
        · exact q2 q
        · exact this.2.2 q
      · show (Gm.putS o.nn s.L).length + (dl o.nn s.M).length ≤ k
        have := putS_le o.nn s.L
        omega
    · rw [if_neg h8]
      refine ⟨h.ep, h.nx, h.L, h.rise, fun x hx => h.M x (mem_dl.1 hx).1, nodup_sub (dl_sub _ _) h.nd, ?_⟩
      show s.L.length + (dl o.nn s.M).length ≤ k
      omega
  · rw [if_neg hc]; exact h
theorem mem_foldL : ∀ {l L : List Int} {m : Int}, (∀ x ∈ l, x ≠ 18446744073709551615) → (m ∈ foldL l L ↔ m ∈ l ∨ m ∈ L)
  | [], L, m, _ => by simp [foldL]
  | x :: l, L, m, h => by
    show m ∈ foldL l (Gm.putS x L) ↔ _
    rw [mem_foldL fun y hy => h y (by simp [hy]), mem_putS (h x (by simp)), List.mem_cons]
    constructor
    · rintro (q | q | q)
      · exact Or.inl (Or.inr q)
      · exact Or.inl (Or.inl q)
      · exact Or.inr q
    · rintro ((q | q) | q)
      · exact Or.inr (Or.inl q)
      · exact Or.inl q
      · exact Or.inr (Or.inr q)
theorem foldL_rise : ∀ {l L : List Int}, L.Pairwise (· < ·) → (foldL l L).Pairwise (· < ·)
  | [], L, h => h
  | x :: l, L, h => foldL_rise (l := l) (putS_rise h)
theorem mem_foldM : ∀ {l : List Int} {M : List (Int × Int)} {x : Int × Int}, x ∈ foldM l M ↔ x ∈ M ∧ x.1 ∉ l
  | [], M, x => by simp [foldM]
  | y :: l, M, x => by
    show x ∈ foldM l (dl y M) ↔ _
    rw [mem_foldM, mem_dl, List.mem_cons]
    constructor
    · rintro ⟨⟨a, b⟩, c⟩
      exact ⟨a, fun q => q.elim b c⟩
    · rintro ⟨a, b⟩
      exact ⟨⟨a, fun e => b (Or.inl e)⟩, fun e => b (Or.inr e)⟩
theorem foldM_len : ∀ {l : List Int} {M : List (Int × Int)}, l.Nodup → (∀ x ∈ l, ∃ v, (x, v) ∈ M) → (foldM l M).length + l.length ≤ M.length
  | [], M, _, _ => by simp [foldM]
  | x :: l, M, hn, h => by
    obtain ⟨hx, hn'⟩ := List.nodup_cons.1 hn
    obtain ⟨v, hv⟩ := h x (by simp)
    have h1 := dl_len hv
    have h2 := foldM_len (l := l) (M := dl x M) hn' fun y hy => by
      obtain ⟨u, hu⟩ := h y (by simp [hy])
      exact ⟨u, mem_dl.2 ⟨hu, fun e => hx (by have e' : y = x := e; rw [← e']; exact hy)⟩⟩
    show (foldM l (dl x M)).length + _ ≤ _
    simp only [List.length_cons]
    omega
theorem hbs_nodup {who : Int} {M : List (Int × Int)} (h : (M.map (·.1)).Nodup) : (hbs who M).Nodup := by
  refine ((hbs_perm who M).nodup_iff).2 ?_
  unfold hb
  exact (List.filter_sublist.map _).nodup h
theorem dr_ok {s : Nu} {k : Nat} (h : NOk s k) (who : Int) : NOk (drS who s) k := by
  have hne : ∀ x ∈ hbs who s.M, x ≠ 18446744073709551615 := fun x hx e => by
    have h1 := h.M _ (hbs_mem.1 hx)
    have h2 := h.nx
    have h3 := h1.2.1
    dsimp only at h3
    omega
  refine ⟨h.ep, h.nx, fun x hx => ?_, foldL_rise h.rise, fun x hx => ?_, nodup_sub (foldM_sub _ _) h.nd, ?_⟩
  · rcases (mem_foldL hne).1 hx with q | q
    · have := h.M _ (hbs_mem.1 q)
      exact ⟨this.1, this.2.1⟩
    · exact h.L x q
  · obtain ⟨q1, q2⟩ := mem_foldM.1 hx
    have := h.M x q1
    refine ⟨this.1, this.2.1, fun e => ?_⟩
    rcases (mem_foldL hne).1 e with q | q
    · exact q2 q
    · exact this.2.2 q
  · have h1 := foldL_le (hbs who s.M) s.L
    have h2 := foldM_len (hbs_nodup (who := who) h.nd) fun x hx => ⟨who, hbs_mem.1 hx⟩
    have h3 := h.len
    show (foldL (hbs who s.M) s.L).length + (foldM (hbs who s.M) s.M).length ≤ k
    omega
/-- what an operation answers -/
def nuR (o : Oq) (s : Nu) : Int × Int × Int × Int :=
  if o.kd = 6 then (if o.nn < 1 ∨ 8 < o.nn then (1, 0, 0, 0) else if rsE s = true then (11, 0, 0, 0) else (0, s.ep, rsF o.nn s, (rsM o.nn s : Int)))
  else if o.kd = 9 then (if s.ep = 18446744073709551615 then (11, 0, 0, 0) else (0, s.ep + 1, 0, 0))
  else if o.kd = 10 then (0, 0, ((hbs o.who s.M).length : Int), 0)
  else (lvC o s, 0, 0, 0)
/-- what the numbers are behind it -/
def nuS (o : Oq) (s : Nu) : Nu :=
  if o.kd = 6 then (if o.nn < 1 ∨ 8 < o.nn then s else if rsE s = true then s else rsS o.nn o.who s)
  else if o.kd = 9 then (if s.ep = 18446744073709551615 then s else ⟨s.ep + 1, o.nn, [], []⟩)
  else if o.kd = 10 then drS o.who s
  else lvS o s
theorem nuS_ok {o : Oq} {s : Nu} {k : Nat} (h : NOk s k) (hk : k ≤ 1000) (hn : 0 ≤ o.nn ∧ o.nn ≤ 18446744073709551615) : NOk (nuS o s) (k + 8) := by
  unfold nuS
  split
  · split
    · exact h.more (by omega)
    · split
      · exact h.more (by omega)
      · rename_i h1 h2
        exact (rs_ok h (by omega) (by omega) (by simpa using h2) o.who).ok k h
  · split
    · split
      · exact h.more (by omega)
      · have := h.ep
        exact ⟨⟨by show 0 ≤ s.ep + 1; omega, by show s.ep + 1 ≤ _; omega⟩, hn, by simp, by simp, by simp, by simp, by simp⟩
    · split
      · exact (dr_ok h _).more (by omega)
      · exact (lv_ok h hk).more (by omega)
end Go.Proofs.YtpkkomifenlkaaaGreat.Au
