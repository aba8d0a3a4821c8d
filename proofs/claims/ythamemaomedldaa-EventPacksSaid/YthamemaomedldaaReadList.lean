/- A reader's lists: list, List. -/
import Derived.Test.YthamemaomedldaaReadBack
import Derived.Test.YthamemaomedldaaOnlyOwn
import Derived.WalkMore
namespace Go.Proofs.Ythamemaomedldaa.Rd
open Go Go.RowKit Num Texts

/-- n texts that are read one behind the other: all, or none and why -/
def textsN : Nat → ByteArray → List ByteArray × Int × ByteArray
  | 0, s => ([], 0, s)
  | n + 1, s => if (textR 18446744073709551615 s).2.1 ≠ 0 then ([], (textR 18446744073709551615 s).2) else if (textsN n (textR 18446744073709551615 s).2.2).2.1 ≠ 0 then ([], (textsN n (textR 18446744073709551615 s).2.2).2) else ((textR 18446744073709551615 s).1 :: (textsN n (textR 18446744073709551615 s).2.2).1, (textsN n (textR 18446744073709551615 s).2.2).2)
def listR (m : Nat) (s : ByteArray) : List ByteArray × Int × ByteArray := if (numR 18446744073709551615 s).2.1 ≠ 0 then ([], (numR 18446744073709551615 s).2) else if m < (numR 18446744073709551615 s).1 then ([], 4, (numR 18446744073709551615 s).2.2) else textsN (numR 18446744073709551615 s).1 (numR 18446744073709551615 s).2.2
def glue (xs : List ByteArray) (y : List ByteArray × Int × ByteArray) : List ByteArray × Int × ByteArray := if y.2.1 ≠ 0 then ([], y.2) else (xs ++ y.1, y.2)
theorem glue_nil : ∀ (n : Nat) (s : ByteArray), glue [] (textsN n s) = textsN n s
  | 0, s => rfl
  | n + 1, s => by
    unfold glue
    split
    · rename_i h
      unfold textsN at h ⊢
      split
      · rfl
      · rename_i h1
        rw [if_neg h1] at h
        split
        · rfl
        · rename_i h2; rw [if_neg h2] at h; exact absurd h h2
    · rfl
theorem glue_ok (xs : List ByteArray) (n : Nat) (s d s' : ByteArray) (h : textR 18446744073709551615 s = (d, 0, s')) : glue xs (textsN (n + 1) s) = glue (xs ++ [d]) (textsN n s') := by
  have e : textsN (n + 1) s = if (textsN n s').2.1 ≠ 0 then ([], (textsN n s').2) else (d :: (textsN n s').1, (textsN n s').2) := by
    rw [textsN, h]; rfl
  rw [e]
  unfold glue
  by_cases h0 : (textsN n s').2.1 ≠ 0
  · rw [if_pos h0, if_pos h0, if_pos h0]
  · rw [if_neg h0, if_neg h0, if_neg h0]; simp
theorem glue_bad (xs : List ByteArray) (n : Nat) (s d s' : ByteArray) (e : Int) (he : e ≠ 0) (h : textR 18446744073709551615 s = (d, e, s')) : glue xs (textsN (n + 1) s) = ([], e, s') := by
  have e1 : textsN (n + 1) s = ([], e, s') := by
    rw [textsN, h]; dsimp only; rw [if_pos he]
  rw [e1]
  unfold glue
  rw [if_pos he]
theorem glue_end (xs : List ByteArray) (s : ByteArray) : glue xs (textsN 0 s) = (xs, 0, s) := by
  unfold glue textsN
  rw [if_neg (by simp)]; simp
theorem infoS : (Try.prog.info? 9).map (fun i => (i.zero, i.size, i.bytes)) = some (some (.string ⟨#[]⟩), 1, 16) := by kernel_rfl
theorem news1 (W : World) (x : Value) (t : TypeId) : ∀ j u, [x][j]? = some u → (W.alloc (.cells #[x] t)).cell? ((⟨W.heap.size, 0, none⟩ : Addr).add j) = some u := by
  intro j u hj
  have : (⟨W.heap.size, 0, none⟩ : Addr).add j = ⟨W.heap.size, j, none⟩ := by unfold Addr.add; by_cases h : j = 0 <;> simp [h]
  rw [this, cell_of_row _ _ _ _ _ (0, 0) (heap_alloc_new W _), ← Array.getElem?_toList]
  exact hj

set_option maxRecDepth 20000 in
set_option maxHeartbeats 2000000 in
theorem list_any (R : Nat) (r : R2) (m : Nat) (hm : m ≤ 1000000) (hs : r.s.size ≤ 1099511627776) (W : World) (hR : Lies W R r) :
    Calls Try.prog 50 #[.pointer (some ⟨R, 0, none⟩), .int .u64 (m : Int)] W
      fun e w' => (∃ v, e = .returned (.tuple #[v, .int .i64 (listR m r.s).2.1]) ∧ w'.ownsRow W.heap.size 9 1 v (listR m r.s).1.length ((listR m r.s).1.map Value.string)) ∧ Lies w' R ⟨(listR m r.s).2.2, r.b⟩ ∧ Only R W w' := by
  obtain ⟨i0, hinf, hy0, hy1, hy2⟩ := info_parts infoS
  have hlt := (Array.getElem?_eq_some_iff.1 hR).1
  have hnum := number_any R r 18446744073709551615 (by decide) hs W hR
  have hsz := numR_rest 18446744073709551615 r.s
  have hv := numR_val 18446744073709551615 r.s
  obtain ⟨s, b⟩ := r
  have hl : listR m s = if (numR 18446744073709551615 s).2.1 ≠ 0 then ([], (numR 18446744073709551615 s).2) else if m < (numR 18446744073709551615 s).1 then ([], 4, (numR 18446744073709551615 s).2.2) else textsN (numR 18446744073709551615 s).1 (numR 18446744073709551615 s).2.2 := rfl
  dsimp only at hnum hsz hs hv ⊢
  generalize listR m s = L at *
  generalize numR 18446744073709551615 s = x at *
  obtain ⟨n, e, s1⟩ := x
  dsimp only at hnum hsz hl hv
  have HNum := Lib.hid hnum
  have HL := Lib.hid hl
  have HI := Lib.hid (And.intro hinf (And.intro hy0 (And.intro hy1 hy2)))
  clear hnum hl hR hinf hy0 hy1 hy2
  have hs1 : s1.size ≤ 1099511627776 := by omega
  have hvi : (n : Int) ≤ 18446744073709551615 := by omega
  go_enter Try.func50, Try.ntmps50
  go_wp2_with fail
  refine HNum.out.mono ?_
  rintro e1 w1 ⟨rfl, hR1, hO1⟩
  have HR1 := Lib.hid hR1
  have HO1 := Lib.hid hO1
  clear hR1 hO1 HNum
  by_cases he : e = 0
  · subst he
    by_cases hmn : m < n
    · have hmi : (m : Int) < (n : Int) := by omega
      have HL2 : Hid (L = ([], 4, s1)) := Lib.hid (by rw [HL.out, if_neg (by simp), if_pos hmn])
      clear hmn HL
      go_wp2
      go_ret2
      exact ⟨⟨.slice none 0 0, by rw [HL2.out]; rfl, by rw [HL2.out]; exact World.ownsRow_nil _ _ _ _⟩, by rw [HL2.out]; exact HR1.out, HO1.out⟩
    · have hmi : ¬ (m : Int) < (n : Int) := by omega
      have HL2 : Hid (L = textsN n s1) := Lib.hid (by rw [HL.out, if_neg (by simp), if_neg hmn])
      have hn6 : n ≤ 1000000 := by omega
      clear HL
      go_wp2
      go_loopw [6, 8] (fun i l wr => ∃ (j : Nat) (xs : List ByteArray) (s' : ByteArray), i = .int .u64 (j : Int) ∧ j ≤ n ∧ xs.length = n - j ∧ Hid (textsN n s1 = glue xs (textsN j s')) ∧ s'.size ≤ 1099511627776 ∧ Lies wr R ⟨s', b⟩ ∧ wr.ownsRow W.heap.size 9 1 l xs.length (xs.map Value.string) ∧ Only R W wr) (fun i _ _ => (intOf i).toNat)
      case atStart => exact ⟨n, [], s1, rfl, Nat.le_refl _, by simp, Lib.hid (glue_nil n s1).symm, hs1, HR1.out, World.ownsRow_nil _ _ _ _, HO1.out⟩
      case round =>
        obtain ⟨j, xs, s', rfl, hj, hxl, hG, hs', hR', hown, hO'⟩ := hrel
        obtain ⟨A1, c1, rfl⟩ := own_form hown
        by_cases hpos : 0 < j
        · obtain ⟨k, rfl⟩ : ∃ k, j = k + 1 := ⟨j - 1, by omega⟩
          have ht := text_any R ⟨s', b⟩ 18446744073709551615 hs' wr hR'
          have htr := textR_rest 18446744073709551615 s'
          dsimp only at ht
          have hok := fun d s'' h => glue_ok xs k s' d s'' h
          have hbd := fun d s'' e he h => glue_bad xs k s' d s'' e he h
          generalize textR 18446744073709551615 s' = y at *
          obtain ⟨d, e2, s2⟩ := y
          dsimp only at ht htr
          have HTx := Lib.hid ht
          have HOk := Lib.hid hok
          have HBd := Lib.hid hbd
          have HW := Lib.hid hown
          have HO := Lib.hid hO'
          have hp0 : (0 : Int) < (k : Int) + 1 := by omega
          have hp1 : (k : Int) + 1 ≤ 1000000 := by omega
          have HXL := Lib.hid (show xs.length = n - (k + 1) from hxl)
          have hxb : xs.length ≤ 1000000 := by omega
          clear ht hok hbd hown hO' hR' hxl
          go_wp2_with fail
          refine HTx.out.mono ?_
          rintro _ w2 ⟨rfl, hR2, hO2⟩
          have HW2 := Lib.hid (own_only HW.out hO2 hlt)
          have HO2 := Lib.hid (HO.out.trans hO2)
          have HR2 := Lib.hid hR2
          clear HTx HW HO hR2 hO2
          by_cases he2 : e2 = 0
          · subst he2
            have hsz2 : W.heap.size ≤ w2.heap.size := HO2.out.size
            go_wp2_with (at_builtin; refine wpList_append_own _ rfl _ _ 24 rfl W.heap.size 9 i0 (.string ⟨#[]⟩) 1 16 Try.underlying24 HI.out.1 HI.out.2.1 HI.out.2.2.1 HI.out.2.2.2 rfl (by decide) _ _ _ rfl (HW2.out.alloc _) ⟨w2.heap.size, 0, none⟩ 1 1 [.string d] rfl rfl (news1 w2 _ _) (one_one rfl) (by unfold maxLen; omega) (by omega) (by simp; omega) ?_; intro v3 w3 hown3 hg3 _)
            have hwa := HW2.out.alloc (.cells #[.string d] 9)
            have hR3 := grown_off ((Below.heap_alloc _ _ _ (Array.getElem?_eq_some_iff.1 HR2.out).1).trans HR2.out) hg3 hwa (by decide)
            have hO3 := (HO2.out.alloc _).push hwa (Nat.le_refl _) hg3
            refine ⟨⟨k, xs ++ [d], s2, by go_num, by omega, by rw [List.length_append, HXL.out]; simp; omega, Lib.hid (hG.out.trans (HOk.out d s2 rfl)), by omega, hR3, by rw [List.length_append, List.map_append]; exact hown3, hO3⟩, by simp [intOf]⟩
          · have he3 : (e2 == 0) = false := by simpa using he2
            have HX : Hid (L = ([], e2, s2)) := Lib.hid (by rw [HL2.out, hG.out]; exact HBd.out d s2 e2 he2 rfl)
            clear HL2 HOk HBd hG HXL hxb htr hn6 hj hp1 hp0 hvi hv hsz
            go_wp2
            go_ret2
            exact ⟨⟨.slice none 0 0, by rw [HX.out]; rfl, by rw [HX.out]; exact World.ownsRow_nil _ _ _ _⟩, by rw [HX.out]; exact HR2.out, HO2.out⟩
        · obtain rfl : j = 0 := by omega
          have HX : Hid (L = (xs, 0, s')) := Lib.hid (by rw [HL2.out, hG.out]; exact glue_end xs s')
          have HW := Lib.hid hown
          have HO := Lib.hid hO'
          have HR := Lib.hid hR'
          clear HL2 hown hO' hR'
          go_wp2
          go_ret2
          exact ⟨⟨.slice A1 xs.length c1, by rw [HX.out]; rfl, by rw [HX.out]; exact HW.out⟩, by rw [HX.out]; exact HR.out, HO.out⟩
  · have he2 : (e == 0) = false := by simpa using he
    have HL2 : Hid (L = ([], e, s1)) := Lib.hid (by rw [HL.out, if_pos he])
    go_wp2
    go_ret2
    exact ⟨⟨.slice none 0 0, by rw [HL2.out]; rfl, by rw [HL2.out]; exact World.ownsRow_nil _ _ _ _⟩, by rw [HL2.out]; exact HR1.out, HO1.out⟩
end Go.Proofs.Ythamemaomedldaa.Rd
