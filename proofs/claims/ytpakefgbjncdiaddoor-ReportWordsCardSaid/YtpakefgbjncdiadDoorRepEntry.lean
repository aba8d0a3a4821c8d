/- An entry's words, by the program and by the page. -/
import Derived.Test.YtpakefgbjncdiadDoorRepSmall
namespace Go.Proofs.YtpakefgbjncdiadDoor.Rep
open Go Go.RowKit Num Dec packetKeys

def entryW (k : K3) (st own : Int) : ByteArray := if st = 1 then nameB k ++ ⟨#[32, 112, 101, 110, 100, 105, 110, 103]⟩ else if st = 2 then nameB k ++ ⟨#[32, 99, 108, 97, 105, 109, 101, 100, 32]⟩ ++ intW own else if st = 3 then nameB k ++ ⟨#[32, 100, 111, 110, 101]⟩ else nameB k ++ ⟨#[32, 108, 111, 115, 116]⟩
theorem nameB_size (k : K3) (hk : k.ok) : (nameB k).size ≤ 42 := by
  have h1 := intW_size k.c hk.1 hk.2.1
  have h2 := decW_size k.s hk.2.2
  have e : nameB k = (intW k.c ++ (if k.f = 0 then ⟨#[97]⟩ else ⟨#[98]⟩)) ++ decW k.s := rfl
  have h3 : (if k.f = 0 then (⟨#[97]⟩ : ByteArray) else ⟨#[98]⟩).size = 1 := by split <;> rfl
  rw [e, ByteArray.size_append, ByteArray.size_append, h3]
  omega

set_option maxRecDepth 100000 in
set_option maxHeartbeats 1000000 in
theorem entry_any (k : K3) (hk : k.ok) (st own : Int) (hw : -9223372036854775808 ≤ own ∧ own ≤ 9223372036854775807) (w : World) (ht : Tab w) :
    Calls Tryd.prog 9 #[.agg #[.int .i64 k.c, .int .i64 k.f, .int .u64 (k.s : Int), .int .i64 st, .int .i64 own]] w fun e w' => e = .returned (.string (entryW k st own)) ∧ Below w.heap.size w w' := by
  have HN := Lib.hid (fun W h => name_any k hk W h)
  have HI := Lib.hid (fun W h => itoa_any own hw.1 hw.2 W h)
  have HT := Lib.hid ht
  have hns := nameB_size k hk
  have his := intW_size own hw.1 hw.2
  obtain ⟨E, hE⟩ : ∃ E, E = entryW k st own := ⟨_, rfl⟩
  rw [← hE]
  unfold entryW at hE
  have HE := Lib.hid hE
  clear hE
  rw [show (⟨(Lib.itoa own).toArray⟩ : ByteArray) = intW own from rfl] at HI
  unfold K3.cells at HN
  generalize nameB k = A at *
  generalize intW own = B at *
  clear ht hk hw
  have HA := Lib.hid (show (w.alloc (.cells #[.int .i64 k.c, .int .i64 k.f, .int .u64 (k.s : Int), .int .i64 st, .int .i64 own] 31)).heap[w.heap.size]? = some (.cells #[.int .i64 k.c, .int .i64 k.f, .int .u64 (k.s : Int), .int .i64 st, .int .i64 own] 31 (0, 0)) from heap_alloc_new w _)
  have HB := Lib.hid (show Below w.heap.size w (w.alloc (.cells #[.int .i64 k.c, .int .i64 k.f, .int .u64 (k.s : Int), .int .i64 st, .int .i64 own] 31)) from (Below.refl _ _).alloc (Nat.le_refl _) _)
  have c1 : ∀ (n : Nat), n ≤ 9 → ¬ 9223372036854775807 < A.size + n := fun n hn => by omega
  go_enter Tryd.func9, Tryd.ntmps9
  go_wp2_with fail
  refine (HN.out _ (tab_below HT.out HB.out)).mono ?_
  rintro _ w1 ⟨rfl, b1⟩
  have HA1 := (b1.block _ (Array.getElem?_eq_some_iff.1 HA.out).1).trans HA.out
  have HB1 := Lib.hid (HB.out.trans (b1.mono HB.out.size))
  obtain ⟨x3, x4⟩ : _ ∧ _ := ⟨cell_of_row w1 _ 3 _ _ (0, 0) HA1, cell_of_row w1 _ 4 _ _ (0, 0) HA1⟩
  clear HA HB b1
  by_cases h1 : st = 1
  · have HE1 := Lib.hid (show E = A ++ ⟨#[32, 112, 101, 110, 100, 105, 110, 103]⟩ by rw [HE.out, if_pos h1])
    clear HE
    subst h1
    have a1 : ¬ 9223372036854775807 < A.size + 8 := by omega
    have a2 : A.size + 8 ≤ 9223372036854775807 := by omega
    clear c1
    go_wp2
    go_ret
    exact ⟨by rw [HE1.out]; rfl, HB1.out⟩
  · have e1 : (st == 1) = false := by simpa using h1
    by_cases h2 : st = 2
    · have HE1 := Lib.hid (show E = A ++ ⟨#[32, 99, 108, 97, 105, 109, 101, 100, 32]⟩ ++ B by rw [HE.out, if_neg h1, if_pos h2])
      clear HE
      subst h2
      have a1 : ¬ 9223372036854775807 < A.size + 9 := by omega
      have a2 : A.size + 9 ≤ 9223372036854775807 := by omega
      have a3 : ¬ 9223372036854775807 < A.size + 9 + B.size := by omega
      have a4 : A.size + 9 + B.size ≤ 9223372036854775807 := by omega
      clear c1
      go_wp2_with fail
      refine (HI.out _ (tab_below HT.out HB1.out)).mono ?_
      rintro _ w2 ⟨rfl, b2⟩
      have HB2 := Lib.hid (HB1.out.trans (b2.mono HB1.out.size))
      clear b2
      go_wp2
      go_ret
      exact ⟨by rw [HE1.out]; rfl, HB2.out⟩
    · have e2 : (st == 2) = false := by simpa using h2
      by_cases h3 : st = 3
      · have HE1 := Lib.hid (show E = A ++ ⟨#[32, 100, 111, 110, 101]⟩ by rw [HE.out, if_neg h1, if_neg h2, if_pos h3])
        clear HE
        subst h3
        have a1 : ¬ 9223372036854775807 < A.size + 5 := by omega
        have a2 : A.size + 5 ≤ 9223372036854775807 := by omega
        clear c1
        go_wp2
        go_ret
        exact ⟨by rw [HE1.out]; rfl, HB1.out⟩
      · have e3 : (st == 3) = false := by simpa using h3
        have a1 : ¬ 9223372036854775807 < A.size + 5 := by omega
        have a2 : A.size + 5 ≤ 9223372036854775807 := by omega
        have HE1 := Lib.hid (show E = A ++ ⟨#[32, 108, 111, 115, 116]⟩ by rw [HE.out, if_neg h1, if_neg h2, if_neg h3])
        clear c1 HE
        go_wp2
        go_ret
        exact ⟨by rw [HE1.out]; rfl, HB1.out⟩

set_option maxRecDepth 100000 in
set_option maxHeartbeats 1000000 in
theorem rentry_any (k : K3) (hk : k.ok) (st own : Int) (hw : -9223372036854775808 ≤ own ∧ own ≤ 9223372036854775807) (w : World) (ht : Tab w) :
    Calls Tryd.prog 10 #[.agg #[.int .i64 k.c, .int .i64 k.f, .int .u64 (k.s : Int), .int .i64 st, .int .i64 own]] w fun e w' => e = .returned (.string (entryW k st own)) ∧ Below w.heap.size w w' := by
  have HN := Lib.hid (fun W h => rname_any k hk W h)
  have HI := Lib.hid (fun W (_ : Tab W) => rwhole_any own hw.1 hw.2 W)
  have HT := Lib.hid ht
  have hns := nameB_size k hk
  have his := intW_size own hw.1 hw.2
  obtain ⟨E, hE⟩ : ∃ E, E = entryW k st own := ⟨_, rfl⟩
  rw [← hE]
  unfold entryW at hE
  have HE := Lib.hid hE
  clear hE
  rw [show (⟨(Lib.itoa own).toArray⟩ : ByteArray) = intW own from rfl] at HI
  unfold K3.cells at HN
  generalize nameB k = A at *
  generalize intW own = B at *
  clear ht hk hw
  have HA := Lib.hid (show (w.alloc (.cells #[.int .i64 k.c, .int .i64 k.f, .int .u64 (k.s : Int), .int .i64 st, .int .i64 own] 31)).heap[w.heap.size]? = some (.cells #[.int .i64 k.c, .int .i64 k.f, .int .u64 (k.s : Int), .int .i64 st, .int .i64 own] 31 (0, 0)) from heap_alloc_new w _)
  have HB := Lib.hid (show Below w.heap.size w (w.alloc (.cells #[.int .i64 k.c, .int .i64 k.f, .int .u64 (k.s : Int), .int .i64 st, .int .i64 own] 31)) from (Below.refl _ _).alloc (Nat.le_refl _) _)
  have c1 : ∀ (n : Nat), n ≤ 9 → ¬ 9223372036854775807 < A.size + n := fun n hn => by omega
  go_enter Tryd.func10, Tryd.ntmps10
  go_wp2_with fail
  refine (HN.out _ (tab_below HT.out HB.out)).mono ?_
  rintro _ w1 ⟨rfl, b1⟩
  have HA1 := (b1.block _ (Array.getElem?_eq_some_iff.1 HA.out).1).trans HA.out
  have HB1 := Lib.hid (HB.out.trans (b1.mono HB.out.size))
  obtain ⟨x3, x4⟩ : _ ∧ _ := ⟨cell_of_row w1 _ 3 _ _ (0, 0) HA1, cell_of_row w1 _ 4 _ _ (0, 0) HA1⟩
  clear HA HB b1
  by_cases h1 : st = 1
  · have HE1 := Lib.hid (show E = A ++ ⟨#[32, 112, 101, 110, 100, 105, 110, 103]⟩ by rw [HE.out, if_pos h1])
    clear HE
    subst h1
    have a1 : ¬ 9223372036854775807 < A.size + 8 := by omega
    have a2 : A.size + 8 ≤ 9223372036854775807 := by omega
    clear c1
    go_wp2
    go_ret
    exact ⟨by rw [HE1.out]; rfl, HB1.out⟩
  · have e1 : (st == 1) = false := by simpa using h1
    by_cases h2 : st = 2
    · have HE1 := Lib.hid (show E = A ++ ⟨#[32, 99, 108, 97, 105, 109, 101, 100, 32]⟩ ++ B by rw [HE.out, if_neg h1, if_pos h2])
      clear HE
      subst h2
      have a1 : ¬ 9223372036854775807 < A.size + 9 := by omega
      have a2 : A.size + 9 ≤ 9223372036854775807 := by omega
      have a3 : ¬ 9223372036854775807 < A.size + 9 + B.size := by omega
      have a4 : A.size + 9 + B.size ≤ 9223372036854775807 := by omega
      clear c1
      go_wp2_with fail
      refine (HI.out _ (tab_below HT.out HB1.out)).mono ?_
      rintro _ w2 ⟨rfl, b2⟩
      have HB2 := Lib.hid (HB1.out.trans (b2.mono HB1.out.size))
      clear b2
      go_wp2
      go_ret
      exact ⟨by rw [HE1.out]; rfl, HB2.out⟩
    · have e2 : (st == 2) = false := by simpa using h2
      by_cases h3 : st = 3
      · have HE1 := Lib.hid (show E = A ++ ⟨#[32, 100, 111, 110, 101]⟩ by rw [HE.out, if_neg h1, if_neg h2, if_pos h3])
        clear HE
        subst h3
        have a1 : ¬ 9223372036854775807 < A.size + 5 := by omega
        have a2 : A.size + 5 ≤ 9223372036854775807 := by omega
        clear c1
        go_wp2
        go_ret
        exact ⟨by rw [HE1.out]; rfl, HB1.out⟩
      · have e3 : (st == 3) = false := by simpa using h3
        have a1 : ¬ 9223372036854775807 < A.size + 5 := by omega
        have a2 : A.size + 5 ≤ 9223372036854775807 := by omega
        have HE1 := Lib.hid (show E = A ++ ⟨#[32, 108, 111, 115, 116]⟩ by rw [HE.out, if_neg h1, if_neg h2, if_neg h3])
        clear c1 HE
        go_wp2
        go_ret
        exact ⟨by rw [HE1.out]; rfl, HB1.out⟩

end Go.Proofs.YtpakefgbjncdiadDoor.Rep
