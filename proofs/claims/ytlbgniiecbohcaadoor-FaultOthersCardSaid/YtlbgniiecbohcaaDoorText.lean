/- fault.Name, a number's name, fault.Text. -/
import Derived.Test.YtlbgniiecbohcaaDoorPlaces
import Derived.Lib.AppendStr
import Derived.Deep.WholeRow
import Derived.Great.BuildSlice
import Derived.Great.Walk
import Derived.Deep.Cut
namespace Go.Proofs.YtlbgniiecbohcaaDoor.Errs
open Go Go.RowKit Go.Extern.Stop Go.Stop Go.Extern

def nameP (k : Int) : ByteArray := if k = 1 then ⟨#[108, 111, 119]⟩ else if k = 2 then ⟨#[104, 105, 103, 104]⟩ else if k = 3 then ⟨#[97, 99, 99, 111, 117, 110, 116, 115]⟩ else if k = 4 then ⟨#[112, 111, 111, 108]⟩ else if k = 5 then ⟨#[108, 105, 110, 101]⟩ else if k = 6 then ⟨#[108, 101, 100, 103, 101, 114]⟩ else if k = 7 then ⟨#[119, 111, 114, 108, 100]⟩ else if k = 8 then ⟨#[110, 117, 109, 98, 101, 114, 115]⟩ else if k = 9 then ⟨#[115, 117, 98, 109, 105, 116]⟩ else ⟨#[]⟩
theorem nameP_size (k : Int) : (nameP k).size ≤ 8 := by
  unfold nameP
  repeat' split
  all_goals decide
set_option maxHeartbeats 1000000 in
theorem name_p (k : Int) (w : World) : Calls Tryd.prog 19 #[.int .i64 k] w fun e w' => e = .returned (.string (nameP k)) ∧ w' = w := by
  have hk : k = 1 ∨ k = 2 ∨ k = 3 ∨ k = 4 ∨ k = 5 ∨ k = 6 ∨ k = 7 ∨ k = 8 ∨ k = 9 ∨ k < 1 ∨ 9 < k := by omega
  rcases hk with rfl | rfl | rfl | rfl | rfl | rfl | rfl | rfl | rfl | hk | hk
  · go_enter Tryd.func19, Tryd.ntmps19
    go_wp2
    go_ret
    exact ⟨rfl, rfl⟩
  · go_enter Tryd.func19, Tryd.ntmps19
    go_wp2
    go_ret
    exact ⟨rfl, rfl⟩
  · go_enter Tryd.func19, Tryd.ntmps19
    go_wp2
    go_ret
    exact ⟨rfl, rfl⟩
  · go_enter Tryd.func19, Tryd.ntmps19
    go_wp2
    go_ret
    exact ⟨rfl, rfl⟩
  · go_enter Tryd.func19, Tryd.ntmps19
    go_wp2
    go_ret
    exact ⟨rfl, rfl⟩
  · go_enter Tryd.func19, Tryd.ntmps19
    go_wp2
    go_ret
    exact ⟨rfl, rfl⟩
  · go_enter Tryd.func19, Tryd.ntmps19
    go_wp2
    go_ret
    exact ⟨rfl, rfl⟩
  · go_enter Tryd.func19, Tryd.ntmps19
    go_wp2
    go_ret
    exact ⟨rfl, rfl⟩
  · go_enter Tryd.func19, Tryd.ntmps19
    go_wp2
    go_ret
    exact ⟨rfl, rfl⟩
  · have he : nameP k = ⟨#[]⟩ := by unfold nameP; rw [if_neg (by omega), if_neg (by omega), if_neg (by omega), if_neg (by omega), if_neg (by omega), if_neg (by omega), if_neg (by omega), if_neg (by omega), if_neg (by omega)]
    rw [he]
    have e1 : (k == 1) = false := by simp; omega
    have e2 : (k == 2) = false := by simp; omega
    have e3 : (k == 3) = false := by simp; omega
    have e4 : (k == 4) = false := by simp; omega
    have e5 : (k == 5) = false := by simp; omega
    have e6 : (k == 6) = false := by simp; omega
    have e7 : (k == 7) = false := by simp; omega
    have e8 : (k == 8) = false := by simp; omega
    have e9 : (k == 9) = false := by simp; omega
    go_enter Tryd.func19, Tryd.ntmps19
    go_wp2
    go_ret
    exact ⟨rfl, rfl⟩
  · have he : nameP k = ⟨#[]⟩ := by unfold nameP; rw [if_neg (by omega), if_neg (by omega), if_neg (by omega), if_neg (by omega), if_neg (by omega), if_neg (by omega), if_neg (by omega), if_neg (by omega), if_neg (by omega)]
    rw [he]
    have e1 : (k == 1) = false := by simp; omega
    have e2 : (k == 2) = false := by simp; omega
    have e3 : (k == 3) = false := by simp; omega
    have e4 : (k == 4) = false := by simp; omega
    have e5 : (k == 5) = false := by simp; omega
    have e6 : (k == 6) = false := by simp; omega
    have e7 : (k == 7) = false := by simp; omega
    have e8 : (k == 8) = false := by simp; omega
    have e9 : (k == 9) = false := by simp; omega
    go_enter Tryd.func19, Tryd.ntmps19
    go_wp2
    go_ret
    exact ⟨rfl, rfl⟩

def words : Array ByteArray := #[⟨#[111, 107]⟩, ⟨#[97, 114, 103]⟩, ⟨#[115, 104, 111, 114, 116]⟩, ⟨#[102, 111, 114, 109]⟩, ⟨#[108, 111, 110, 103]⟩, ⟨#[114, 97, 110, 103, 101]⟩, ⟨#[102, 117, 108, 108]⟩, ⟨#[101, 120, 105, 115, 116, 115]⟩, ⟨#[110, 111, 110, 101]⟩, ⟨#[110, 111, 116, 32, 111, 119, 110, 101, 114]⟩, ⟨#[115, 116, 97, 116, 101]⟩, ⟨#[101, 120, 104, 97, 117, 115, 116, 101, 100]⟩, ⟨#[101, 112, 111, 99, 104]⟩, ⟨#[110, 111, 110, 99, 101]⟩, ⟨#[112, 111, 111, 108]⟩, ⟨#[114, 101, 100, 117, 110, 100, 97, 110, 116]⟩, ⟨#[114, 101, 106, 101, 99, 116, 101, 100]⟩, ⟨#[99, 108, 111, 115, 101, 100]⟩, ⟨#[112, 114, 111, 111, 102]⟩, ⟨#[111, 114, 100, 101, 114]⟩, ⟨#[108, 97, 116, 101]⟩, ⟨#[101, 97, 114, 108, 121]⟩, ⟨#[99, 114, 97, 115, 104]⟩, ⟨#[115, 116, 111, 112, 112, 101, 100]⟩, ⟨#[97, 99, 99, 111, 117, 110, 116]⟩, ⟨#[99, 104, 97, 110, 110, 101, 108]⟩]
def wordC (c : Int) : ByteArray := if 0 ≤ c ∧ c < 26 then words.getD c.toNat ⟨#[]⟩ else ⟨#[117, 110, 107, 110, 111, 119, 110]⟩
theorem words_at (k : Nat) (h : k < 26) : (words.map Value.string)[k]? = some (.string (wordC (k : Int))) := by
  rw [Array.getElem?_map]
  have h2 : k < words.size := h
  rw [Array.getElem?_eq_getElem h2]
  unfold wordC
  rw [if_pos ⟨by omega, by omega⟩]
  simp [Array.getD, h2]
set_option maxRecDepth 100000 in
theorem word_p (c : Int) (w : World) : Calls Tryd.prog 25 #[.int .i64 c] w fun e w' => e = .returned (.string (wordC c)) ∧ Below w.heap.size w w' := by
  obtain ⟨A, hA⟩ : ∃ A, A = words.map Value.string := ⟨_, rfl⟩
  have hA1 : A.all (·.oneCell') = true := by rw [hA]; simp [Value.oneCell']
  have hA2 : A.size = 26 := by rw [hA]; simp [words]
  go_enter Tryd.func25, Tryd.ntmps25
  go_upto_region 1 with fail
  refine wp_region_lit ?_
  refine wpList_buildTo rfl 77 _ rfl (some 4) rfl A (by rw [hA]; kernel_rfl) ?_
  refine Great.wpList_allocTo rfl (some 3) rfl (.pointer (some ⟨w.heap.size, 0, none⟩)) (.cells (Array.replicate 26 (.string ⟨#[]⟩)) 77) (by kernel_rfl) ?_
  refine wpList_store_rowTo rfl 77 _ _ rfl rfl w.heap.size A rfl rfl 77 _ (heap_alloc_new w _) (by rw [hA2]; kernel_rfl) (by rw [hA2]; rfl) hA1 ?_
  rw [World.setRow_alloc_new]
  refine wpList_nil ?_
  have hcell : ∀ k : Nat, k < 26 → (w.alloc (.cells A 77)).cell? ⟨w.heap.size, k, none⟩ = some (.string (wordC (k : Int))) := fun k hk => (cell_of_row _ _ k _ _ (0, 0) (heap_alloc_new w _)).trans (by rw [hA]; exact words_at k hk)
  clear hA1 hA2 hA
  simp only [Act.put, List.setIfInBounds_toArray, List.set_cons_zero, List.set_cons_succ]
  by_cases h0 : c < 0
  · have he : wordC c = ⟨#[117, 110, 107, 110, 111, 119, 110]⟩ := by unfold wordC; rw [if_neg (by omega)]
    have HE := Lib.hid he
    clear he hcell
    go_wp2
    go_ret
    exact ⟨by rw [HE.out]; rfl, (Below.refl _ _).alloc (Nat.le_refl _) _⟩
  · by_cases h1 : 26 ≤ c
    · have he : wordC c = ⟨#[117, 110, 107, 110, 111, 119, 110]⟩ := by unfold wordC; rw [if_neg (by omega)]
      have HE := Lib.hid he
      clear he hcell
      go_wp2
      go_ret
      exact ⟨by rw [HE.out]; rfl, (Below.refl _ _).alloc (Nat.le_refl _) _⟩
    · obtain ⟨k, rfl⟩ := Int.eq_ofNat_of_zero_le (by omega : 0 ≤ c)
      have hk : (k : Int) < 26 := by omega
      have hc := hcell k (by omega)
      clear hcell
      go_wp2
      go_ret
      exact ⟨rfl, (Below.refl _ _).alloc (Nat.le_refl _) _⟩

/-! ### fault.Text -/
def nb (s : ByteArray) : List Int := s.data.toList.map fun b => (b.toNat : Int)
def vals (l : List Int) : List Value := l.map (Value.int .u8)
theorem strCells_nb (s : ByteArray) : Lib.strCells s = vals (nb s) := by unfold Lib.strCells vals nb; rw [List.map_map]; rfl
theorem nb_length (s : ByteArray) : (nb s).length = s.size := by unfold nb; rw [List.length_map, Array.length_toList]; rfl
def sep : ByteArray := ⟨#[58, 32]⟩
def tx (l : List Int) : List Int := l.flatMap fun x => nb (nameP x ++ sep)
theorem tx_append (a b : List Int) : tx (a ++ b) = tx a ++ tx b := by simp [tx]
theorem size_append (a b : ByteArray) : (a ++ b).size = a.size + b.size := by first | exact ByteArray.size_append | simp [ByteArray.size]
theorem tx_length (l : List Int) : (tx l).length ≤ 10 * l.length := by
  induction l with
  | nil => simp [tx]
  | cons x l ih =>
    have h1 : tx (x :: l) = nb (nameP x ++ sep) ++ tx l := by simp [tx]
    have h2 := nameP_size x
    have h3 : sep.size = 2 := rfl
    rw [h1, List.length_append, nb_length, size_append, List.length_cons]
    omega

/-- One row of the bytes' type as a text. -/
theorem own_text {w : World} {base n : Nat} {v : Value} {xs : List Int} (h : w.ownsRow base 5 1 v n (vals xs)) :
    (convert 53 9 v).run Tryd.prog w = .ok (.string (strOfNums xs)) w := by
  have hl : xs.length = n := by have := h.1; simp [vals] at this; omega
  rcases h.2 with ⟨rfl, rfl⟩ | ⟨g, cap, cur, rfl, _⟩
  · have hx : xs = [] := List.eq_nil_of_length_eq_zero hl
    subst hx
    exact run_convert_bytes_nil w 53 5 Tryd.underlying53 Tryd.underlying5 _ _ 9 Tryd.underlying9
  · refine run_convert_bytes_arg w 53 5 Tryd.underlying53 Tryd.underlying5 g 0 n cap xs hl (fun i hi => ?_) 9 Tryd.underlying9
    have hx : (vals xs)[i]? = some (.int .u8 (xs.getD i 0)) := by
      unfold vals
      rw [List.getElem?_map, List.getElem?_eq_getElem (by omega), List.getD_eq_getElem?_getD, List.getElem?_eq_getElem (by omega)]
      rfl
    have := h.cells (g := g) rfl i _ hx
    rw [← this]
    unfold Addr.add
    by_cases h0 : i = 0 <;> simp [h0]

theorem info5 : (Tryd.prog.info? 5).map (fun i => (i.zero, i.size, i.bytes)) = some (some (.int .u8 0), 1, 1) := by kernel_rfl
def textB (l : List Int) (b : Base) : ByteArray := strOfNums (tx l) ++ wordC b.code
theorem words_size : ∀ k, k < 26 → (words.getD k ⟨#[]⟩).size ≤ 11 := by decide
theorem wordC_size (c : Int) : (wordC c).size ≤ 11 := by
  unfold wordC
  split
  · exact words_size _ (by omega)
  · decide
theorem ints_at (xs : List Int) (j : Nat) (h : j < xs.length) : (ints xs)[j]? = some (.int .i64 (xs.getD j 0)) := by
  unfold ints
  rw [List.getElem?_map, List.getElem?_eq_getElem h, List.getD_eq_getElem?_getD, List.getElem?_eq_getElem h]; rfl

set_option maxRecDepth 100000 in
set_option maxHeartbeats 1000000 in
theorem text_any (l : List Int) (b : Base) (v : Value) (w : World) (h : Ch w l b v) (hl : l.length ≤ 1000) (hg : Hg w) :
    Calls Tryd.prog 9 #[v] w fun e w' => e = .returned (.string (textB l b)) ∧ Below w.heap.size w w' := by
  obtain ⟨t, z, rfl⟩ := h.iface
  have HP := Lib.hid (places_any l b t z w h hl)
  have HC := Lib.hid (show ∀ w2, Below w.heap.size w w2 → _ from fun w2 hb => code_any l b (.iface t z) w2 (h.below hb) hl (hg.below hb hg.lt))
  clear h hg
  go_enter Tryd.func9, Tryd.ntmps9
  go_wp2_with fail
  refine HP.out.mono ?_
  rintro e w2 ⟨u, rfl, hown, hb⟩
  obtain ⟨A, c, rfl⟩ := own_form hown
  have HO := Lib.hid hown
  have HB := Lib.hid hb
  clear hown hb
  go_wp2_with fail
  go_loopw [3, 11] (fun v i wr => ∃ k : Nat, i = .int .i64 (k : Int) ∧ k ≤ l.length ∧ wr.ownsRow w2.heap.size 5 1 v (tx (l.take k)).length (vals (tx (l.take k))) ∧ Hid (Below w2.heap.size w2 wr)) (fun _ i _ => l.length - (intOf i).toNat)
  case atStart => exact ⟨0, rfl, Nat.zero_le _, World.ownsRow_nil _ _ _ _, Lib.hid (Below.refl _ _)⟩
  case round =>
    obtain ⟨k, rfl, hk, hown, hB⟩ := hrel
    obtain ⟨D, dc, rfl⟩ := own_form hown
    by_cases hlt : k < l.length
    · have hlt1 : (k : Int) < (l.length : Int) := by omega
      obtain ⟨g, cap, hv, hbg, hgl⟩ : ∃ g cap, Value.slice A l.length c = .slice (some ⟨g, 0, none⟩) l.length cap ∧ w.heap.size ≤ g ∧ g < w2.heap.size := HO.out.form (by omega)
      injection hv with hA _ hcc
      subst hA hcc
      have hck : wr.cell? ⟨g, k, none⟩ = some (.int .i64 (l.getD k 0)) := (hB.out.cell (p := ⟨g, k, none⟩) hgl).trans ((HO.out.cellAt k (by simpa [ints] using hlt)).trans (ints_at l k hlt))
      have htk := Lib.hid (show tx (l.take (k + 1)) = tx (l.take k) ++ nb (nameP (l.getD k 0) ++ sep) by
        rw [List.take_succ_eq_append_getElem hlt, tx_append, List.getD_eq_getElem?_getD, List.getElem?_eq_getElem hlt]; simp [tx])
      have hn1 := tx_length (l.take k)
      have hn2 : (l.take k).length ≤ 1000 := by rw [List.length_take]; omega
      have hn3 : (nameP (l.getD k 0) ++ sep).size ≤ 10 := by have := nameP_size (l.getD k 0); rw [size_append]; have h3 : sep.size = 2 := rfl; omega
      have HN := Lib.hid (name_p (l.getD k 0))
      generalize l.getD k 0 = x at *
      obtain ⟨i0, hi, hz0, hz1, hz2⟩ := info_parts info5
      have hbase := Lib.hid hB.out.size
      have hb1 : (tx (List.take k l)).length + (nameP x ++ sep).size ≤ maxLen := by simp only [maxLen]; omega
      have hb2 : (tx (List.take k l)).length + (nameP x ++ sep).size ≤ 140737488355328 := by omega
      clear hn1 hn2 hn3
      have hadd : (nameP x).size + 2 ≤ 9223372036854775807 := by have := nameP_size x; omega
      go_wp2_with (first
        | (go_at_call 19; refine (HN.out _).mono ?_; rintro e w3 ⟨rfl, hw3⟩; obtain rfl := hw3.symm)
        | (at_builtin; refine Lib.wpList_append_own_string _ rfl _ _ 53 9 rfl w2.heap.size 5 i0 Tryd.underlying53 Tryd.underlying9 hi hz0 hz1 hz2 _ _ _ rfl hown (nameP x ++ sep) rfl hb1 hb2 hbase.out ?_))
      intro v' w1 hown' hgr _
      rw [strCells_nb] at hown'
      have HB1 := Lib.hid (hB.out.grown hgr hB.out.size (own_ge hown))
      have hown2 : w1.ownsRow w2.heap.size 5 1 v' (tx (l.take (k + 1))).length (vals (tx (l.take (k + 1)))) := by
        rw [htk.out, List.length_append, nb_length]
        simpa [vals] using hown'
      have HW1 := Lib.hid hown2
      clear hown' hgr hown hb1 hb2 hck hown2
      go_wp2
      exact ⟨⟨k + 1, by go_num, by omega, HW1.out, HB1⟩, by simp [intOf]; omega⟩
    · obtain rfl : k = l.length := by omega
      simp only [List.take_length] at hown ⊢
      have HV := Lib.hid (show ∀ W', Below wr.heap.size wr.drew W' → (convert 53 9 (.slice D (tx l).length dc)).run Tryd.prog W' = .ok (.string (strOfNums (tx l))) W' from fun W' hb => own_text (own_below (w := wr.drew) hown.drew hb))
      have HD := Lib.hid (show Below w.heap.size w wr.drew from (HB.out.trans (hB.out.mono HB.out.size)).drew)
      have HCd := Lib.hid (HC.out wr.drew HD.out)
      have HS := Lib.hid (show (0 : Nat) < 1 from by decide)
      have hv0 := HV.out wr.drew (Below.refl _ _)
      have hadd2 : (strOfNums (tx l)).size + (wordC b.code).size ≤ 9223372036854775807 := by
        have h1 := tx_length l
        have h2 := wordC_size b.code
        rw [strOfNums_size]
        omega
      clear hown
      go_wp2
      go_region_with (first
        | (go_at_call 7; refine HCd.out.mono ?_; rintro e w3 ⟨rfl, hb3⟩; have hv3 := HV.out w3 hb3; have HB3 := Lib.hid hb3; clear hb3)
        | (go_at_call 25; refine (word_p _ _).mono ?_; rintro e w4 ⟨rfl, hb4⟩; have HB4 := Lib.hid (HB3.out.trans (hb4.mono HB3.out.size)); have hv4 := HV.out w4 HB4.out; clear hb4))
      all_goals go_wp2
      all_goals go_ret
      all_goals exact ⟨rfl, HD.out.trans (HB4.out.mono HD.out.size)⟩


end Go.Proofs.YtlbgniiecbohcaaDoor.Errs
