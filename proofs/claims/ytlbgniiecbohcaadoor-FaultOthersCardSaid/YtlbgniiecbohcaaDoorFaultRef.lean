/- The page's own name, word and text of faults; turned, same; errors.New; fault.Places of no error. -/
import Derived.Test.YtlbgniiecbohcaaDoorFaultLaw
import Derived.Test.YtlbgniiecbohcaaDoorNums
namespace Go.Proofs.YtlbgniiecbohcaaDoor.Errs
open Go Go.RowKit Go.Shelf Go.Extern.Stop Go.Stop Go.Extern
attribute [local go_sem] Oper.semAt_some

theorem hasP_any (x : Int) : ∀ l : List Int, hasP x l = l.any (· == x)
  | [] => rfl
  | y :: l => by rw [hasP, hasP_any x l, List.any_cons]
theorem hasP_reverse (x : Int) (l : List Int) : hasP x l.reverse = hasP x l := by rw [hasP_any, hasP_any, List.any_reverse]
theorem hasP_take (x : Int) (l : List Int) (k : Nat) (h : k < l.length) : hasP x (l.take (k + 1)) = (hasP x (l.take k) || l.getD k 0 == x) := by
  rw [hasP_any, hasP_any, List.take_succ_eq_append_getElem h, List.any_append, List.getD_eq_getElem?_getD, List.getElem?_eq_getElem h]
  simp

theorem new_any (s : ByteArray) (w : World) : Calls Tryd.prog 15 #[.string s] w fun e w' => e = .returned (Base.val (.text ⟨w.heap.size, 0, none⟩)) ∧ Below w.heap.size w w' := by
  go_enter Tryd.func15, Tryd.ntmps15
  go_wp2
  go_ret
  exact ⟨rfl, (Below.refl _ _).alloc (Nat.le_refl _) _⟩

set_option maxHeartbeats 1000000 in
theorem name_r (k : Int) (w : World) : Calls Tryd.prog 20 #[.int .i64 k] w fun e w' => e = .returned (.string (nameP k)) ∧ Below w.heap.size w w' := by
  have hk : k = 0 ∨ k = 1 ∨ k = 2 ∨ k = 3 ∨ k = 4 ∨ k = 5 ∨ k = 6 ∨ k = 7 ∨ k = 8 ∨ k = 9 ∨ k < 0 ∨ 9 < k := by omega
  rcases hk with rfl | rfl | rfl | rfl | rfl | rfl | rfl | rfl | rfl | rfl | hk | hk
  · go_enter Tryd.func20, Tryd.ntmps20
    go_wp2
    go_ret
    exact ⟨rfl, (Below.refl _ _).alloc (Nat.le_refl _) _⟩
  · go_enter Tryd.func20, Tryd.ntmps20
    go_wp2
    go_ret
    exact ⟨rfl, (Below.refl _ _).alloc (Nat.le_refl _) _⟩
  · go_enter Tryd.func20, Tryd.ntmps20
    go_wp2
    go_ret
    exact ⟨rfl, (Below.refl _ _).alloc (Nat.le_refl _) _⟩
  · go_enter Tryd.func20, Tryd.ntmps20
    go_wp2
    go_ret
    exact ⟨rfl, (Below.refl _ _).alloc (Nat.le_refl _) _⟩
  · go_enter Tryd.func20, Tryd.ntmps20
    go_wp2
    go_ret
    exact ⟨rfl, (Below.refl _ _).alloc (Nat.le_refl _) _⟩
  · go_enter Tryd.func20, Tryd.ntmps20
    go_wp2
    go_ret
    exact ⟨rfl, (Below.refl _ _).alloc (Nat.le_refl _) _⟩
  · go_enter Tryd.func20, Tryd.ntmps20
    go_wp2
    go_ret
    exact ⟨rfl, (Below.refl _ _).alloc (Nat.le_refl _) _⟩
  · go_enter Tryd.func20, Tryd.ntmps20
    go_wp2
    go_ret
    exact ⟨rfl, (Below.refl _ _).alloc (Nat.le_refl _) _⟩
  · go_enter Tryd.func20, Tryd.ntmps20
    go_wp2
    go_ret
    exact ⟨rfl, (Below.refl _ _).alloc (Nat.le_refl _) _⟩
  · go_enter Tryd.func20, Tryd.ntmps20
    go_wp2
    go_ret
    exact ⟨rfl, (Below.refl _ _).alloc (Nat.le_refl _) _⟩
  · have he := Lib.hid (show nameP k = ⟨#[]⟩ by unfold nameP; rw [if_neg (by omega), if_neg (by omega), if_neg (by omega), if_neg (by omega), if_neg (by omega), if_neg (by omega), if_neg (by omega), if_neg (by omega), if_neg (by omega)])
    go_enter Tryd.func20, Tryd.ntmps20
    go_wp2
    go_ret
    exact ⟨by rw [he.out]; rfl, (Below.refl _ _).alloc (Nat.le_refl _) _⟩
  · have he := Lib.hid (show nameP k = ⟨#[]⟩ by unfold nameP; rw [if_neg (by omega), if_neg (by omega), if_neg (by omega), if_neg (by omega), if_neg (by omega), if_neg (by omega), if_neg (by omega), if_neg (by omega), if_neg (by omega)])
    go_enter Tryd.func20, Tryd.ntmps20
    go_wp2
    go_ret
    exact ⟨by rw [he.out]; rfl, (Below.refl _ _).alloc (Nat.le_refl _) _⟩

set_option maxRecDepth 100000 in
theorem word_r (c : Int) (w : World) : Calls Tryd.prog 26 #[.int .i64 c] w fun e w' => e = .returned (.string (wordC c)) ∧ Below w.heap.size w w' := by
  obtain ⟨A, hA⟩ : ∃ A, A = words.map Value.string := ⟨_, rfl⟩
  go_enter Tryd.func26, Tryd.ntmps26
  go_upto_region 1 with fail
  refine wp_region_lit ?_
  refine Great.wpList_buildSliceTo rfl 62 9 26 _ rfl w.heap.size rfl (some 4) rfl Tryd.underlying62 A (by rw [hA]; kernel_rfl) ?_
  have hcell : ∀ k : Nat, k < 26 → (w.alloc (.cells A 9)).cell? ⟨w.heap.size, k, none⟩ = some (.string (wordC (k : Int))) := fun k hk => (cell_of_row _ _ k _ _ (0, 0) (heap_alloc_new w _)).trans (by rw [hA]; exact words_at k hk)
  clear hA
  simp only [Act.put, List.setIfInBounds_toArray, List.set_cons_zero, List.set_cons_succ]
  by_cases h0 : c < 0
  · have HE := Lib.hid (show wordC c = ⟨#[117, 110, 107, 110, 111, 119, 110]⟩ by unfold wordC; rw [if_neg (by omega)])
    clear hcell
    go_wp2
    go_ret
    exact ⟨by rw [HE.out]; rfl, (Below.refl _ _).alloc (Nat.le_refl _) _⟩
  · by_cases h1 : 26 ≤ c
    · have HE := Lib.hid (show wordC c = ⟨#[117, 110, 107, 110, 111, 119, 110]⟩ by unfold wordC; rw [if_neg (by omega)])
      have h2 : 25 < c := by omega
      clear hcell
      go_wp2
      go_ret
      exact ⟨by rw [HE.out]; rfl, (Below.refl _ _).alloc (Nat.le_refl _) _⟩
    · obtain ⟨k, rfl⟩ := Int.eq_ofNat_of_zero_le (by omega : 0 ≤ c)
      have hk : (k : Int) < 26 := by omega
      have hk2 : ¬ (25 < (k : Int)) := by omega
      have hc := hcell k (by omega)
      clear hcell
      go_wp2
      go_ret
      exact ⟨rfl, (Below.refl _ _).alloc (Nat.le_refl _) _⟩

def textR (c : Int) (ps : List Int) : ByteArray := ps.foldl (fun s p => (nameP p ++ sep) ++ s) (wordC c)
theorem textR_take (c : Int) (xs : List Int) (k : Nat) (h : k < xs.length) : textR c (xs.take (k + 1)) = (nameP (xs.getD k 0) ++ sep) ++ textR c (xs.take k) := by
  rw [List.take_succ_eq_append_getElem h, textR, List.foldl_append, List.getD_eq_getElem?_getD, List.getElem?_eq_getElem h]
  rfl
theorem textR_size (c : Int) (xs : List Int) : (textR c xs).size ≤ 11 + 10 * xs.length := by
  have : ∀ (l : List Int) (s : ByteArray), (l.foldl (fun s p => (nameP p ++ sep) ++ s) s).size ≤ s.size + 10 * l.length := by
    intro l
    induction l with
    | nil => intro s; simp
    | cons x l ih =>
      intro s
      rw [List.foldl_cons]
      have h1 := ih ((nameP x ++ sep) ++ s)
      have h2 := nameP_size x
      have h3 : sep.size = 2 := rfl
      rw [size_append, size_append] at h1
      rw [List.length_cons]
      omega
  have h1 := this xs (wordC c)
  have h2 := wordC_size c
  unfold textR
  omega

set_option maxHeartbeats 1000000 in
theorem text_r (c : Int) (xs : List Int) (hn : xs.length ≤ 1000) (v : Value) (w : World) (h : Nums w v xs) :
    Calls Tryd.prog 13 #[.int .i64 c, v] w fun e w' => e = .returned (.string (textR c xs)) ∧ Below w.heap.size w w' := by
  obtain ⟨A, cap, rfl, hr⟩ := h
  have HR := Lib.hid hr
  clear hr
  go_enter Tryd.func13, Tryd.ntmps13
  go_wp2_with fail
  refine (word_r c w).mono ?_
  rintro e w1 ⟨rfl, hb⟩
  have HB := Lib.hid hb
  clear hb
  go_wp2_with fail
  go_loopw [5, 6] (fun s i wr => ∃ k : Nat, i = .int .i64 (k : Int) ∧ k ≤ xs.length ∧ s = .string (textR c (xs.take k)) ∧ Hid (Below w.heap.size w wr)) (fun _ i _ => xs.length - (intOf i).toNat)
  case atStart => exact ⟨0, rfl, Nat.zero_le _, rfl, HB⟩
  case round =>
    obtain ⟨k, rfl, hk, rfl, hB⟩ := hrel
    by_cases hlt : k < xs.length
    · have hlt1 : (k : Int) < (xs.length : Int) := by omega
      obtain ⟨b, off, rfl, hbl, hcs⟩ := HR.out (by omega)
      have hck := (hB.out.cell (p := ⟨b, off + k, none⟩) hbl).trans (hcs k hlt)
      have HT := Lib.hid (textR_take c xs k hlt)
      have hsz := textR_size c (xs.take k)
      have hsl : (xs.take k).length ≤ 1000 := by rw [List.length_take]; omega
      generalize xs.getD k 0 = x at *
      generalize textR c (xs.take k) = s at *
      have hnx := nameP_size x
      have hadd : (nameP x).size + 2 ≤ 9223372036854775807 := by omega
      have hadd2 : (nameP x).size + 2 + s.size ≤ 9223372036854775807 := by omega
      clear hcs hbl hsz hsl hnx
      go_wp2_with (go_at_call 20; refine (name_r _ _).mono ?_; rintro e w2 ⟨rfl, hb⟩; have HB2 := Lib.hid (hB.out.trans (hb.mono hB.out.size)); clear hb)
      exact ⟨⟨k + 1, by go_num, by omega, by rw [HT.out]; rfl, HB2⟩, by simp [intOf]; omega⟩
    · obtain rfl : k = xs.length := by omega
      rw [List.take_length]
      go_wp2
      go_ret
      exact ⟨rfl, hB.out⟩

theorem strOfNums_append (a b : List Int) : strOfNums (a ++ b) = strOfNums a ++ strOfNums b := by
  unfold strOfNums
  rw [List.map_append]
  apply ByteArray.ext
  simp
theorem strOfNums_nb (s : ByteArray) : strOfNums (nb s) = s := by
  unfold strOfNums nb
  rw [List.map_map]
  apply ByteArray.ext
  apply Array.toList_inj.1
  simp [Function.comp_def]
theorem text_same (c : Int) (xs : List Int) : textB xs.reverse (.num c) = textR c xs := by
  have h : ∀ (l : List Int) (s : ByteArray), strOfNums (tx l) ++ s = l.foldr (fun p s => (nameP p ++ sep) ++ s) s := by
    intro l
    induction l with
    | nil => intro s; show strOfNums [] ++ s = s; apply ByteArray.ext; simp [strOfNums]
    | cons x l ih =>
      intro s
      have h1 : tx (x :: l) = nb (nameP x ++ sep) ++ tx l := by simp [tx]
      rw [List.foldr_cons, ← ih s, h1, strOfNums_append, strOfNums_nb, ByteArray.append_assoc]
  unfold textB textR Base.code
  rw [h, List.foldr_reverse]

set_option maxHeartbeats 1000000 in
theorem same_n (u v : Value) (xs : List Int) (hn : xs.length ≤ 9223372036854775807) (w : World) (ha : Nums w u xs) (hb : Nums w v xs) :
    Calls Tryd.prog 11 #[u, v] w fun e w' => e = .returned (.bool true) ∧ Below w.heap.size w w' := by
  obtain ⟨A, c, rfl, ha⟩ := ha
  obtain ⟨B, d, rfl, hb⟩ := hb
  generalize hnn : xs.length = n at *
  go_enter Tryd.func11, Tryd.ntmps11
  go_wp2
  go_loopw [5] (fun i wr => ∃ k : Nat, i = .int .i64 (k : Int) ∧ k ≤ n ∧ ∃ q, wr = w.drewN q) (fun i _ => n - (intOf i).toNat)
  case atStart => exact ⟨0, rfl, Nat.zero_le _, 0, rfl⟩
  case round =>
    obtain ⟨k, rfl, hk, q, rfl⟩ := hrel
    by_cases hlt : k < n
    · obtain ⟨b, off, rfl, _, hc⟩ := ha (by omega)
      obtain ⟨b', off', rfl, _, hc'⟩ := hb (by omega)
      have hc := hc k hlt
      have hc' := hc' k hlt
      have hi0 : (0 : Int) ≤ (k : Int) := by omega
      have hi1 : (k : Int) < (n : Int) := by omega
      generalize xs.getD k 0 = z at hc hc'
      go_wp2
      go_quiet (fail)
      go_wp2
      exact ⟨⟨k + 1, by go_num, by omega, _, rfl⟩, by simp [intOf]; omega⟩
    · obtain rfl : k = n := by omega
      go_wp2
      go_ret
      exact ⟨rfl, rfl, rfl, rfl, Nat.le_refl _, fun _ _ => rfl⟩

theorem nums_of_own {w : World} {B n : Nat} {v : Value} {xs : List Int} (h : w.ownsRow B 3 1 v n (ints xs)) : Nums w v xs := by
  have hl : xs.length = n := by have := h.1; simp [ints] at this; omega
  obtain ⟨A, c, rfl⟩ := own_form h
  refine ⟨A, c, by rw [hl], fun h0 => ?_⟩
  obtain ⟨g, cap, hv, _, hgl⟩ := h.form (by omega)
  injection hv with hA _ hcc
  subst hA hcc
  exact ⟨g, 0, rfl, hgl, fun i hi => by rw [Nat.zero_add]; exact (h.cellAt i (by omega)).trans (ints_at xs i hi)⟩

set_option maxHeartbeats 1000000 in
theorem turned_n (xs : List Int) (hn : xs.length ≤ 1000) (v : Value) (w : World) (h : Nums w v xs) :
    Calls Tryd.prog 12 #[v] w fun e w' => ∃ u, e = .returned u ∧ w'.ownsRow w.heap.size 3 1 u xs.length (ints xs.reverse) ∧ Below w.heap.size w w' := by
  obtain ⟨A, cap, rfl, hr⟩ := h
  have HR := Lib.hid hr
  clear hr
  have hl1 : wrap64 ((xs.length : Int) - 1) = (xs.length : Int) - 1 := IntWalk.wrap64_in _ ⟨by omega, by omega⟩
  go_enter Tryd.func12, Tryd.ntmps12
  go_wp2
  go_loopw [3, 4] (fun o i wr => ∃ (m k : Nat), m + k = xs.length ∧ i = .int .i64 ((m : Int) - 1) ∧ Hid (Below w.heap.size w wr) ∧ wr.ownsRow w.heap.size 3 1 o k (ints (xs.reverse.take k))) (fun _ i _ => (intOf i + 1).toNat)
  case atStart => exact ⟨xs.length, 0, rfl, rfl, Lib.hid (Below.refl _ _), World.ownsRow_nil _ _ _ _⟩
  case round =>
    obtain ⟨m, k, hmk, rfl, hB, hown⟩ := hrel
    cases m with
    | zero =>
      obtain rfl : k = xs.length := by omega
      obtain ⟨D, dc, rfl⟩ := own_form hown
      go_wp2
      go_ret
      rw [List.take_of_length_le (by simp)] at hown
      exact ⟨_, rfl, hown, hB.out⟩
    | succ m =>
      obtain ⟨D, dc, rfl⟩ := own_form hown
      have hm : ((m + 1 : Nat) : Int) - 1 = (m : Int) := by omega
      rw [hm]
      obtain ⟨b, off, rfl, hbl, hcs⟩ := HR.out (by omega)
      have hck := (hB.out.cell (p := ⟨b, off + m, none⟩) hbl).trans (hcs m (by omega))
      have hm0 : (0 : Int) ≤ (m : Int) := by omega
      have hm1 : (m : Int) < (xs.length : Int) := by omega
      have hw1 : wrap64 ((m : Int) - 1) = (m : Int) - 1 := IntWalk.wrap64_in _ ⟨by omega, by omega⟩
      have hx := Lib.hid (show xs.reverse.take (k + 1) = xs.reverse.take k ++ [xs.getD m 0] by
        rw [List.take_succ_eq_append_getElem (by simp; omega), List.getElem_reverse, List.getD_eq_getElem?_getD, List.getElem?_eq_getElem (by omega)]
        have : xs.length - 1 - k = m := by omega
        simp [this])
      generalize xs.getD m 0 = x at *
      obtain ⟨i0, hi, hz0, hz1, hz2⟩ := info_parts infoI
      have hbase := Lib.hid hB.out.size
      have hk1 : k + 1 ≤ maxLen := by simp only [maxLen]; omega
      have hk2 : (k + 1) * 8 ≤ 140737488355328 := by omega
      clear hcs hbl
      go_wp2_with (at_builtin; refine wpList_append_own _ rfl _ _ 23 rfl w.heap.size 3 i0 (.int .i64 0) 1 8 Tryd.underlying23 hi hz0 hz1 hz2 rfl (by decide) _ _ _ rfl (hown.alloc _) ⟨wr.heap.size, 0, none⟩ 1 1 [.int .i64 x] rfl rfl (cell_one_new _ _ _) (one_one rfl) hk1 hk2 (by have := hbase.out; simp; omega) ?_)
      intro v1 w1 hown1 hgr _
      have HW := Lib.hid (show w1.ownsRow w.heap.size 3 1 v1 (k + 1) (ints (xs.reverse.take (k + 1))) by rw [hx.out]; simpa [ints] using hown1)
      have HB := Lib.hid (below_push hB.out hB.out.size hown hgr)
      clear hown1 hgr hown hck hk1 hk2
      go_wp2
      exact ⟨⟨m, k + 1, by omega, by first | rfl | (congr 1), HB, HW.out⟩, by simp [intOf] <;> omega⟩

/-! ### fault.Places of no error -/
theorem toFn (xT : TypeId) (w : World) : (Instr.typeAssert .nilIface xT 39 true).run Tryd.prog w = .ok (.tuple #[.pointer none, .bool false]) w := by kernel_rfl

set_option maxRecDepth 100000 in
set_option maxHeartbeats 1000000 in
theorem faults_nil (n : Nat) (w w' : World) (Bn : Nat) (hBn : w'.cell? ⟨Bn, 0, none⟩ = some .nilIface) (hlt : Bn < w'.heap.size) (J : List (El w) → World → Prop) :
    Iter Fence.wide n Tryd.prog 34 #[.pointer (some ⟨Bn, 0, none⟩)] (fun x : El w => #[.pointer (some ⟨x.1.1, 0, none⟩)]) J (fun xs => xs = []) 0 w' := by
  have t1 := toFn
  intro k W1 R hB1 hR hY h0 hr0
  have hc1 : W1.cell? ⟨Bn, 0, none⟩ = some .nilIface := (hB1.cell (p := ⟨Bn, 0, none⟩) hlt).trans hBn
  clear hR hY
  have H0 := Lib.hid (And.intro h0 hr0)
  clear h0 hr0
  refine callsIn_of_wp Tryd.func34 rfl trivial ?_
  simp only [Tryd.ntmps34, List.size_toArray, List.length_cons, List.length_nil, Nat.reduceAdd, Nat.reduceSub, Array.replicate_succ, Array.replicate_zero, List.push_toArray, List.append_toArray, List.nil_append, List.cons_append]
  gi_wp2
  gi_loopw [3] (fun _ wr => wr = W1) (fun _ _ => 0)
  case atStart => rfl
  case round =>
    obtain rfl := hrel
    gi_wp2
    refine ⟨fun _ h => (by cases h), ?_⟩
    gi_wp2
    refine bodyPost_ret (results_none rfl _ _ _) rfl ?_
    exact ⟨⟨_, rfl⟩, [], rfl, H0.out⟩

set_option maxRecDepth 100000 in
set_option maxHeartbeats 1000000 in
theorem places_nil (w : World) : Calls Tryd.prog 8 #[.nilIface] w fun e w' => e = .returned (.slice none 0 0) ∧ Below w.heap.size w w' := by
  refine (callsIn_wide (n := 6)).1 ?_
  refine callsIn_of_wp_marks Tryd.func8 rfl trivial ?_
  simp only [Tryd.ntmps8, List.size_toArray, List.length_cons, List.length_nil, Nat.reduceAdd, Nat.reduceSub, Array.replicate_succ, Array.replicate_zero, List.push_toArray, List.append_toArray, List.nil_append, List.cons_append]
  gi_wp2_with (refine ⟨trivial, ?_⟩; gi_at_call 24; refine (callsIn_wide.2 (faults_any _ rfl _)).mono ?_; rintro e w' ⟨rfl, rfl⟩)
  have hB1 : Below w.heap.size w ((w.alloc (.cells #[.slice none 0 0] 23)).alloc (.cells #[.nilIface] 26)) := ((Below.refl _ w).alloc (Nat.le_refl _) _).alloc (by simp) _
  refine range_round (gf := 34) (lb := #[.pointer (some ⟨w.heap.size + 1, 0, none⟩)]) rfl (by decide) rfl trivial (enters_of Tryd.func34 (by kernel_rfl) rfl)
    (encs := fun x : El w => #[.pointer (some ⟨x.1.1, 0, none⟩)]) (fun _ => rfl) (fun _ W => W.heap[w.heap.size]? = some (.cells #[.slice none 0 0] 23 (0, 0)) ∧ Below w.heap.size w W)
    (faults_nil 5 w _ (w.heap.size + 1) (by simp) (by simp) _) ?_ ?_
    (fun x => { tmps := #[.nilIface, undef, .slice none 0 0, .pointer (some ⟨w.heap.size, 0, none⟩), .pointer (some ⟨x.1.1, 0, none⟩), .nilIface, .func (.func 34) #[] #[.pointer (some ⟨w.heap.size + 1, 0, none⟩)], .pointer (some ⟨x.1.1, 0, none⟩), undef, undef, undef, undef, undef, undef, undef, undef, undef, undef, undef], defers := [] }) ?assign ?body ?done
  · rintro pre W k o' ⟨hb, hB⟩ hk ⟨o, ho, hoc⟩
    exact ⟨(World.putObj_heap_other (fun e => by subst e; rw [ho] at hb; cases hb; cases hoc)).trans hb, hB.trans ((Below.refl _ _).grown (grownBy_putObj' W k o') hB.size (fun j e => by cases e; simp at hk; omega))⟩
  · intro o o'
    refine ⟨?_, (hB1.alloc (by simp; omega) _).alloc (by simp; omega) _⟩
    rw [Below.heap_alloc _ _ _ (by simp; omega), Below.heap_alloc _ _ _ (by simp; omega), Below.heap_alloc _ _ _ (by simp)]
    exact heap_alloc_new w _
  case assign =>
    intro l x W K hK
    gi_wp2
    exact hK
  case body =>
    rintro k pre x W _ hlen
    exact absurd hlen (Nat.not_lt_zero _)
  case done =>
    rintro D xs W hD _ ⟨hb, hB⟩ hK
    have hc0 := cell_of_row _ _ 0 _ _ _ hb
    gi_wp2
    refine ⟨by simp, .inl ⟨_, _, rfl, run_takeDeferred hK, ?_⟩⟩
    exact ⟨_, results_tmp rfl _ _ _, rfl, hB.trans (belowK_b (w := w) (Nat.le_refl _) W D _ _ (by simp at hD; omega) hK rfl rfl)⟩

theorem text_nil (w : World) : Calls Tryd.prog 9 #[.nilIface] w fun e w' => e = .returned (.string ⟨#[]⟩) ∧ w' = w := by
  go_enter Tryd.func9, Tryd.ntmps9
  go_wp2
  go_ret
  exact ⟨rfl, rfl⟩
theorem fis_nil0 (w : World) : Calls Tryd.prog 10 #[.nilIface, .int .i64 0] w fun e w' => e = .returned (.bool true) ∧ w' = w := by
  go_enter Tryd.func10, Tryd.ntmps10
  go_wp2
  go_ret
  exact ⟨rfl, rfl⟩
theorem fis_nil1 (w : World) : Calls Tryd.prog 10 #[.nilIface, .int .i64 1] w fun e w' => e = .returned (.bool false) ∧ w' = w := by
  go_enter Tryd.func10, Tryd.ntmps10
  go_wp2
  go_ret
  exact ⟨rfl, rfl⟩

end Go.Proofs.YtlbgniiecbohcaaDoor.Errs
