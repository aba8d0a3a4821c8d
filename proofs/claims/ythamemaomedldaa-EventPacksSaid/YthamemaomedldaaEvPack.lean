/- wire.Pack of events, event.Pack: the bytes of a log; what was packed is unpacked as it was. -/
import Derived.Test.YthamemaomedldaaEvPut
import Derived.Test.YthamemaomedldaaEvUnpack
import Derived.Test.YthamemaomedldaaPackBase
import Derived.Test.YthamemaomedldaaListBack
namespace Go.Proofs.Ythamemaomedldaa.Ev
open Go Go.RowKit Num Texts
open _root_.Go.Proofs.Ythamemaomedldaa.Rd (infoS news1 own_rds R2 getE getE_back eachE unpackE)
open _root_.Go.Proofs.Ythamemaomedldaa.Msg (textsL_len list_back)

def allE (qs : List E8) : Bool := qs.all eright
def packE (qs : List E8) : ByteArray := if allE qs then ⟨(listL (qs.map E8.bytes)).toArray⟩ else ⟨#[]⟩

set_option maxRecDepth 20000 in
set_option maxHeartbeats 2000000 in
theorem wepack_any (A : Option Addr) (n c : Nat) (qs : List E8) (W : World) (hr : Rd W A n qs) (hq : ∀ q ∈ qs, q.wf) (hn : n ≤ 1024) :
    Calls Try.prog 16 #[.slice A n c, .func (.func 17) #[] #[]] W fun e w' => e = .returned (.tuple #[.string (packE qs), .int .i64 (if allE qs then 0 else 1)]) ∧ Below W.heap.size W w' := by
  obtain ⟨i0, hi1, hy0, hy1, hy2⟩ := info_parts infoS
  have HI := Lib.hid (And.intro hi1 (And.intro hy0 (And.intro hy1 hy2)))
  have HR := Lib.hid hr
  have HQ := Lib.hid hq
  have hni : ¬ (1024 : Int) < (n : Int) := by omega
  obtain ⟨S, hS⟩ : ∃ S, S = packE qs := ⟨_, rfl⟩
  obtain ⟨E, hE⟩ : ∃ E : Int, E = if allE qs then 0 else 1 := ⟨_, rfl⟩
  rw [← hS, ← hE]
  have HS := Lib.hid (And.intro hS hE)
  clear hr hq hi1 hy0 hy1 hy2 hS hE
  go_enter Try.func16, Try.ntmps16
  go_wp2
  go_loopw [6, 16] (fun l i wr => ∃ k : Nat, i = .int .i64 (k : Int) ∧ k ≤ n ∧ Hid (∀ q ∈ qs.take k, eright q = true) ∧ wr.ownsRow W.heap.size 9 1 l k (((qs.take k).map E8.bytes).map Value.string) ∧ Below W.heap.size W wr) (fun _ i _ => n - (intOf i).toNat)
  case atStart => exact ⟨0, rfl, Nat.zero_le _, Lib.hid (fun q hq => by simp at hq), World.ownsRow_nil _ _ _ _, Below.refl _ _⟩
  case round =>
    obtain ⟨k, rfl, hk, hG, hown, hB⟩ := hrel
    obtain ⟨Al, cl, rfl⟩ := own_form hown
    have HO := Lib.hid hown
    have HB := Lib.hid hB
    clear hown hB
    by_cases hlt : k < n
    · have hkq : k < qs.length := by have := HR.out.1; omega
      obtain ⟨b, off, hAe, hbl, hat⟩ := HR.out.at HB.out (by omega)
      subst hAe
      have hqa := hat k hlt
      have hgd : qs.getD k e0 = qs[k] := by rw [List.getD_eq_getElem?_getD, List.getElem?_eq_getElem hkq]; rfl
      rw [hgd] at hqa
      have hqk := HQ.out _ (List.getElem_mem hkq)
      have htk : qs.take (k + 1) = qs.take k ++ [qs[k]] := List.take_succ_eq_append_getElem hkq
      have hmem : qs[k] ∈ qs := List.getElem_mem hkq
      generalize qs[k] = q at hqa hqk htk hmem
      obtain ⟨c0, c1, c2, c3, c4, c5, c6, c7⟩ := hqa
      have HT := Lib.hid htk
      have HM := Lib.hid hmem
      have HQk := Lib.hid hqk
      have hi0 : (0 : Int) ≤ (k : Int) := by omega
      have hi2 : (k : Int) < (n : Int) := by omega
      have hi3 : (k : Int) ≤ 1024 := by omega
      clear hqk htk hmem hat hgd
      go_upto_region 7 with fail
      obtain ⟨W3, hW3⟩ : ∃ X, X = wr.alloc (.cells #[.int .i64 q.k, .int .u64 q.h, .int .i64 q.c, .int .i64 q.f, .int .u64 q.s, .int .u64 q.t, .string q.d, .string q.a] 30) := ⟨_, rfl⟩
      rw [← hW3]
      have hb3 : Below wr.heap.size wr W3 := by rw [hW3]; exact (Below.refl _ _).alloc (Nat.le_refl _) _
      have hQ := heap_alloc_new wr (.cells #[.int .i64 q.k, .int .u64 q.h, .int .i64 q.c, .int .i64 q.f, .int .u64 q.s, .int .u64 q.t, .string q.d, .string q.a] 30)
      rw [← hW3] at hQ
      have HO3 := Lib.hid (own_below HO.out hb3)
      have HB3 := Lib.hid (HB.out.trans (hb3.mono HB.out.size))
      obtain ⟨Q, hQe⟩ : ∃ Q, Q = wr.heap.size := ⟨_, rfl⟩
      rw [← hQe] at hQ ⊢
      obtain ⟨x0, x1, x2, x3, x4, x5, x6, x7⟩ : _ ∧ _ ∧ _ ∧ _ ∧ _ ∧ _ ∧ _ ∧ _ := ⟨cell_of_row W3 _ 0 _ _ (0, 0) hQ, cell_of_row W3 _ 1 _ _ (0, 0) hQ, cell_of_row W3 _ 2 _ _ (0, 0) hQ, cell_of_row W3 _ 3 _ _ (0, 0) hQ, cell_of_row W3 _ 4 _ _ (0, 0) hQ, cell_of_row W3 _ 5 _ _ (0, 0) hQ, cell_of_row W3 _ 6 _ _ (0, 0) hQ, cell_of_row W3 _ 7 _ _ (0, 0) hQ⟩
      clear hW3 hb3 hQ hQe HO HB c0 c1 c2 c3 c4 c5 c6 c7
      by_cases hgd : eright q = true
      · have hpt := eput_yes q hgd HQk.out W3
        obtain ⟨D, hD⟩ : ∃ D, D = E8.bytes q := ⟨_, rfl⟩
        rw [← hD] at hpt
        have HPt := Lib.hid hpt
        have HTb := Lib.hid hD
        clear hpt hD
        go_wp2_with fail
        refine HPt.out.mono ?_
        rintro _ w4 ⟨rfl, b4⟩
        have HO4 := Lib.hid (own_below HO3.out b4)
        have HB4 := Lib.hid (HB3.out.trans (b4.mono HB3.out.size))
        have hz4 : W.heap.size ≤ w4.heap.size := HB4.out.size
        clear b4 x0 x1 x2 x3 x4 x5 x6 x7 HO3 HB3 HPt
        go_wp2_with (at_builtin; refine wpList_append_own _ rfl _ _ 24 rfl W.heap.size 9 i0 (.string ⟨#[]⟩) 1 16 Try.underlying24 HI.out.1 HI.out.2.1 HI.out.2.2.1 HI.out.2.2.2 rfl (by decide) _ _ _ rfl (HO4.out.alloc _) ⟨w4.heap.size, 0, none⟩ 1 1 [.string D] rfl rfl (news1 w4 _ _) (one_one rfl) (by unfold maxLen; omega) (by omega) (by simp; omega) ?_; intro v5 w5 hown5 hg5 _)
        have hB5 := below_push HB4.out hz4 HO4.out hg5
        refine ⟨⟨k + 1, by go_num, by omega, Lib.hid (fun q' hq => ?_), ?_, hB5⟩, by simp [intOf]; omega⟩
        · rw [HT.out] at hq
          rcases List.mem_append.1 hq with hq | hq
          · exact hG.out q' hq
          · simp at hq; subst hq; exact hgd
        · rw [HT.out, List.map_append, List.map_append]
          have e : ([q].map E8.bytes).map Value.string = [.string D] := by rw [HTb.out]; rfl
          rw [e]
          exact hown5
      · have hgf : eright q = false := by simpa using hgd
        have hpt := eput_no q hgf W3
        have hall : allE qs = false := by
          cases ha : allE qs with
          | false => rfl
          | true => exact absurd ((List.all_eq_true.1 ha) _ HM.out) hgd
        have HX : Hid (S = ⟨#[]⟩ ∧ E = 1) := Lib.hid (by rw [HS.out.1, HS.out.2, packE, hall]; exact ⟨rfl, rfl⟩)
        have HPt := Lib.hid hpt
        clear hpt hall HS hgd hgf
        go_wp2_with fail
        refine HPt.out.mono ?_
        rintro _ w4 ⟨rfl, b4⟩
        have HB4 := Lib.hid (HB3.out.trans (b4.mono HB3.out.size))
        clear b4 x0 x1 x2 x3 x4 x5 x6 x7 HO3 HB3 HPt
        go_wp2
        go_ret2
        exact ⟨by rw [HX.out.1, HX.out.2]; rfl, HB4.out⟩
    · obtain rfl : k = n := by omega
      have hlen := HR.out.1
      have htake : qs.take k = qs := List.take_of_length_le (by omega)
      have hall : allE qs = true := List.all_eq_true.2 (fun q hq => hG.out q (by rw [htake]; exact hq))
      have HX : Hid (S = ⟨(listL (qs.map E8.bytes)).toArray⟩ ∧ E = 0) := Lib.hid (by rw [HS.out.1, HS.out.2, packE, hall]; exact ⟨rfl, rfl⟩)
      have hszs : ∀ x ∈ qs.map E8.bytes, x.size ≤ 200 := fun x hx => by
        obtain ⟨q, hq, rfl⟩ := List.mem_map.1 hx
        exact ebytes_size ((List.all_eq_true.1 hall) q hq)
      have hrow := HO.out
      rw [htake] at hrow
      have hk2 : k = (qs.map E8.bytes).length := by simp [hlen]
      have hrd : RdS wr Al (qs.map E8.bytes).length (qs.map E8.bytes) := by
        have h9 := hrow
        rw [hk2] at h9
        exact own_rds h9
      have hl := list_any Al (qs.map E8.bytes).length cl (qs.map E8.bytes) wr hrd (by omega) (fun i => by
        rw [List.getD_eq_getElem?_getD]
        by_cases hi : i < (qs.map E8.bytes).length
        · rw [List.getElem?_eq_getElem hi]
          have := hszs _ (List.getElem_mem hi)
          show ((qs.map E8.bytes)[i]).size ≤ _
          omega
        · rw [List.getElem?_eq_none (by omega)]; exact Nat.zero_le _) (by
        have := textsL_len 200 (by omega) (qs.map E8.bytes) hszs
        have h8 : (qs.map E8.bytes).length * (200 + 9) ≤ 1024 * 209 := Nat.mul_le_mul (by omega) (by omega)
        omega)
      rw [← hk2] at hl
      generalize (⟨(listL (qs.map E8.bytes)).toArray⟩ : ByteArray) = D at hl HX
      have HLi := Lib.hid hl
      clear hl hrd hrow hszs hall htake hlen hk2 HS hG HO
      go_wp2_with fail
      refine HLi.out.mono ?_
      rintro _ w4 ⟨rfl, b4⟩
      have HB4 := Lib.hid (HB.out.trans (b4.mono HB.out.size))
      clear b4 HLi
      go_wp2
      go_ret2
      exact ⟨by rw [HX.out.1, HX.out.2]; rfl, HB4.out⟩
set_option maxRecDepth 20000 in
theorem epack_any (A : Option Addr) (n c : Nat) (qs : List E8) (W : World) (hr : Rd W A n qs) (hq : ∀ q ∈ qs, q.wf) (hn : n ≤ 1024) :
    Calls Try.prog 7 #[.slice A n c] W fun e w' => e = .returned (.tuple #[.string (packE qs), .int .i64 (if allE qs then 0 else 1)]) ∧ Below W.heap.size W w' := by
  have HU := Lib.hid (wepack_any A n c qs W hr hq hn)
  obtain ⟨S, hS⟩ : ∃ S, S = packE qs := ⟨_, rfl⟩
  obtain ⟨E, hE⟩ : ∃ E : Int, E = if allE qs then 0 else 1 := ⟨_, rfl⟩
  rw [← hS, ← hE] at HU ⊢
  clear hr hq hS hE
  go_enter Try.func7, Try.ntmps7
  go_wp2_with fail
  refine HU.out.mono ?_
  rintro _ w4 ⟨rfl, b4⟩
  go_wp2
  go_ret2
  exact ⟨rfl, b4⟩
theorem eeach_back : ∀ (qs : List E8) (i : Nat), (∀ q ∈ qs, eright q = true ∧ q.wf) → eachE i (qs.map E8.bytes) = (qs, 0, 0)
  | [], i, _ => rfl
  | q :: qs, i, h => by
    obtain ⟨a, b⟩ := h q (by simp)
    have h1 := getE_back q a b
    have h2 := eeach_back qs (i + 1) (fun x hx => h x (by simp [hx]))
    show eachE i (E8.bytes q :: qs.map E8.bytes) = _
    rw [eachE, h1]
    dsimp only
    rw [if_neg (by simp), h2]
    dsimp only
    rw [if_neg (by simp)]
theorem eunpack_back (qs : List E8) (ha : allE qs = true) (h : ∀ q ∈ qs, q.wf) (hl : qs.length ≤ 1024) : unpackE (packE qs) = (qs, 0, 0) := by
  have hg : ∀ q ∈ qs, eright q = true := List.all_eq_true.1 ha
  have e : packE qs = ⟨(listL (qs.map E8.bytes)).toArray⟩ := by rw [packE, ha]; rfl
  have h1 := list_back 1024 (qs.map E8.bytes) (fun x hx => by
    obtain ⟨q, hq, rfl⟩ := List.mem_map.1 hx
    have := ebytes_size (hg q hq)
    omega) (by simpa using hl) (by simpa using hl)
  have h2 : (R2.mk (packE qs) 0).list 1024 = (qs.map E8.bytes, ⟨⟨#[]⟩, 0⟩) := by
    rw [e]
    unfold R2.list
    dsimp only
    rw [if_pos rfl, h1]
    rfl
  unfold unpackE
  rw [h2]
  dsimp only
  rw [if_neg (fun h => h rfl)]
  exact eeach_back qs 0 (fun q hq => ⟨hg q hq, h q hq⟩)
end Go.Proofs.Ythamemaomedldaa.Ev
