/- The words of the errors, by the program and by the page. -/
import Derived.Test.YtpakefgbjncdiadDoorCommon
import Derived.Deep.WholeRow
import Derived.Great.BuildSlice
import Derived.Great.Walk
import Derived.Deep.Cut
namespace Go.Proofs.YtpakefgbjncdiadDoor.Rep
open Go Go.RowKit

def words : Array ByteArray := #[⟨#[111, 107]⟩, ⟨#[97, 114, 103]⟩, ⟨#[115, 104, 111, 114, 116]⟩, ⟨#[102, 111, 114, 109]⟩, ⟨#[108, 111, 110, 103]⟩, ⟨#[114, 97, 110, 103, 101]⟩, ⟨#[102, 117, 108, 108]⟩, ⟨#[101, 120, 105, 115, 116, 115]⟩, ⟨#[110, 111, 110, 101]⟩, ⟨#[110, 111, 116, 32, 111, 119, 110, 101, 114]⟩, ⟨#[115, 116, 97, 116, 101]⟩, ⟨#[101, 120, 104, 97, 117, 115, 116, 101, 100]⟩, ⟨#[101, 112, 111, 99, 104]⟩, ⟨#[110, 111, 110, 99, 101]⟩, ⟨#[112, 111, 111, 108]⟩, ⟨#[114, 101, 100, 117, 110, 100, 97, 110, 116]⟩, ⟨#[114, 101, 106, 101, 99, 116, 101, 100]⟩, ⟨#[99, 108, 111, 115, 101, 100]⟩, ⟨#[112, 114, 111, 111, 102]⟩, ⟨#[111, 114, 100, 101, 114]⟩, ⟨#[108, 97, 116, 101]⟩, ⟨#[101, 97, 114, 108, 121]⟩, ⟨#[99, 114, 97, 115, 104]⟩, ⟨#[115, 116, 111, 112, 112, 101, 100]⟩, ⟨#[97, 99, 99, 111, 117, 110, 116]⟩, ⟨#[99, 104, 97, 110, 110, 101, 108]⟩]
def wordC (c : Int) : ByteArray := if 0 ≤ c ∧ c < 26 then words.getD c.toNat ⟨#[]⟩ else ⟨#[117, 110, 107, 110, 111, 119, 110]⟩
theorem words_at (k : Nat) (h : k < 26) : (words.map Value.string)[k]? = some (.string (wordC (k : Int))) := by
  rw [Array.getElem?_map]
  have h2 : k < words.size := h
  rw [Array.getElem?_eq_getElem h2]
  unfold wordC
  rw [if_pos ⟨by omega, by omega⟩]
  simp [Array.getD, h2]
set_option maxRecDepth 100000 in
theorem word_p (c : Int) (w : World) : Calls Tryd.prog 21 #[.int .i64 c] w fun e w' => e = .returned (.string (wordC c)) ∧ Below w.heap.size w w' := by
  obtain ⟨A, hA⟩ : ∃ A, A = words.map Value.string := ⟨_, rfl⟩
  have hA1 : A.all (·.oneCell') = true := by rw [hA]; simp [Value.oneCell']
  have hA2 : A.size = 26 := by rw [hA]; simp [words]
  go_enter Tryd.func21, Tryd.ntmps21
  go_upto_region 1 with fail
  refine wp_region_lit ?_
  refine wpList_buildTo rfl 55 _ rfl (some 4) rfl A (by rw [hA]; kernel_rfl) ?_
  refine Great.wpList_allocTo rfl (some 3) rfl (.pointer (some ⟨w.heap.size, 0, none⟩)) (.cells (Array.replicate 26 (.string ⟨#[]⟩)) 55) (by kernel_rfl) ?_
  refine wpList_store_rowTo rfl 55 _ _ rfl rfl w.heap.size A rfl rfl 55 _ (heap_alloc_new w _) (by rw [hA2]; kernel_rfl) (by rw [hA2]; rfl) hA1 ?_
  rw [World.setRow_alloc_new]
  refine wpList_nil ?_
  have hcell : ∀ k : Nat, k < 26 → (w.alloc (.cells A 55)).cell? ⟨w.heap.size, k, none⟩ = some (.string (wordC (k : Int))) := fun k hk => (cell_of_row _ _ k _ _ (0, 0) (heap_alloc_new w _)).trans (by rw [hA]; exact words_at k hk)
  clear hA1 hA2 hA
  simp only [Act.put, List.setIfInBounds_toArray, List.set_cons_zero, List.set_cons_succ]
  by_cases h0 : c < 0
  · have he : wordC c = ⟨#[117, 110, 107, 110, 111, 119, 110]⟩ := by unfold wordC; rw [if_neg (by omega)]
    have HE := Lib.hid he
    clear he hcell
    go_wp2
    go_ret
    exact ⟨by rw [HE.out]; rfl, (Below.refl _ _).alloc (Nat.le_refl _) _⟩
  · by_cases h1 : 26 ≤ c
    · have he : wordC c = ⟨#[117, 110, 107, 110, 111, 119, 110]⟩ := by unfold wordC; rw [if_neg (by omega)]
      have HE := Lib.hid he
      clear he hcell
      go_wp2
      go_ret
      exact ⟨by rw [HE.out]; rfl, (Below.refl _ _).alloc (Nat.le_refl _) _⟩
    · obtain ⟨k, rfl⟩ := Int.eq_ofNat_of_zero_le (by omega : 0 ≤ c)
      have hk : (k : Int) < 26 := by omega
      have hc := hcell k (by omega)
      clear hcell
      go_wp2
      go_ret
      exact ⟨rfl, (Below.refl _ _).alloc (Nat.le_refl _) _⟩

theorem words_size : ∀ k, k < 26 → (words.getD k ⟨#[]⟩).size ≤ 11 := by decide
theorem wordC_size (c : Int) : (wordC c).size ≤ 11 := by
  unfold wordC
  split
  · exact words_size _ (by omega)
  · decide
set_option maxRecDepth 100000 in
theorem word_r (c : Int) (w : World) : Calls Tryd.prog 22 #[.int .i64 c] w fun e w' => e = .returned (.string (wordC c)) ∧ Below w.heap.size w w' := by
  obtain ⟨A, hA⟩ : ∃ A, A = words.map Value.string := ⟨_, rfl⟩
  go_enter Tryd.func22, Tryd.ntmps22
  go_upto_region 1 with fail
  refine wp_region_lit ?_
  refine Great.wpList_buildSliceTo rfl 38 9 26 _ rfl w.heap.size rfl (some 4) rfl Tryd.underlying38 A (by rw [hA]; kernel_rfl) ?_
  have hcell : ∀ k : Nat, k < 26 → (w.alloc (.cells A 9)).cell? ⟨w.heap.size, k, none⟩ = some (.string (wordC (k : Int))) := fun k hk => (cell_of_row _ _ k _ _ (0, 0) (heap_alloc_new w _)).trans (by rw [hA]; exact words_at k hk)
  clear hA
  simp only [Act.put, List.setIfInBounds_toArray, List.set_cons_zero, List.set_cons_succ]
  by_cases h0 : c < 0
  · have HE := Lib.hid (show wordC c = ⟨#[117, 110, 107, 110, 111, 119, 110]⟩ by unfold wordC; rw [if_neg (by omega)])
    clear hcell
    go_wp2
    go_ret
    exact ⟨by rw [HE.out]; rfl, (Below.refl _ _).alloc (Nat.le_refl _) _⟩
  · by_cases h1 : 26 ≤ c
    · have HE := Lib.hid (show wordC c = ⟨#[117, 110, 107, 110, 111, 119, 110]⟩ by unfold wordC; rw [if_neg (by omega)])
      have h2 : 25 < c := by omega
      clear hcell
      go_wp2
      go_ret
      exact ⟨by rw [HE.out]; rfl, (Below.refl _ _).alloc (Nat.le_refl _) _⟩
    · obtain ⟨k, rfl⟩ := Int.eq_ofNat_of_zero_le (by omega : 0 ≤ c)
      have hk : (k : Int) < 26 := by omega
      have hk2 : ¬ (25 < (k : Int)) := by omega
      have hc := hcell k (by omega)
      clear hcell
      go_wp2
      go_ret
      exact ⟨rfl, (Below.refl _ _).alloc (Nat.le_refl _) _⟩

end Go.Proofs.YtpakefgbjncdiadDoor.Rep
