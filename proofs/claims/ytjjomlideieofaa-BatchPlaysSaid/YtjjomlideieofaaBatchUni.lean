/- A batch and the page's: Add in one, Clear, All, and what one that nobody made does. -/
import Derived.Test.YtjjomlideieofaaBatchQAdd
import Derived.Test.YtjjomlideieofaaBatchQDue
namespace Go.Proofs.Ytjjomlideieofaa.Msg
open Go Go.RowKit

def addCode (sz : Int) (ms : List M7) (x : M7) : Int := if mright x = false then 1 else if place ms x ms.length 0 ≠ -1 then 7 else if sz ≤ (ms.length : Int) then 6 else 0
def addMs (sz : Int) (ms : List M7) (x : M7) : List M7 := if addCode sz ms x = 0 then ms ++ [x] else ms
def addSince (sz since now : Int) (ms : List M7) (x : M7) : Int := if addCode sz ms x = 0 ∧ ms = [] then now else since

def Adds (w : World) (base g : Nat) (sz wt : Int) (v : Value) (since now : Int) (ms : List M7) (x : M7) (e : Ending) (w' : World) : Prop :=
  e = .returned (.int .i64 (addCode sz ms x)) ∧ ∃ v', Bt w' base g sz wt v' (addSince sz since now ms x) (addMs sz ms x) ∧ Fr g v.ownBlock w w' ∧ New w v.ownBlock v'.ownBlock ∧ Below base w w'
def QAdds (w : World) (base g : Nat) (sz wt : Int) (v : Value) (since now : Int) (ms : List M7) (x : M7) (e : Ending) (w' : World) : Prop :=
  e = .returned (.int .i64 (addCode sz ms x)) ∧ ∃ v', Qt w' base g sz wt v' (addSince sz since now ms x) (addMs sz ms x) ∧ Fr g v.ownBlock w w' ∧ New w v.ownBlock v'.ownBlock ∧ Below base w w'

theorem same_frame {w w' : World} {base g : Nat} {v : Value} (hb : Below w.heap.size w w') (hB : base ≤ w.heap.size) : Fr g v.ownBlock w w' ∧ New w v.ownBlock v.ownBlock ∧ Below base w w' :=
  ⟨(Fr.refl g v.ownBlock w).below' hb, .inl rfl, hb.mono hB⟩

theorem add_any {w : World} {base g : Nat} {sz wt since : Int} {v : Value} {ms : List M7} (h : Bt w base g sz wt v since ms) (x : M7) (now : Int) (hl : ms.length ≤ 1000000) :
    Calls Try.prog 29 #[.pointer (some ⟨g, 0, none⟩), .agg #[.int .i64 x.k, .int .i64 x.c, .int .i64 x.f, .int .u64 x.s, .int .u64 x.t, .string x.d, .string x.a], .int .u64 now] w (Adds w base g sz wt v since now ms x) := by
  have hB : base ≤ w.heap.size := by have := h.1; have := lt_blk h.2.1; omega
  by_cases hm : mright x = false
  · have hc : addCode sz ms x = 1 := by unfold addCode; rw [if_pos hm]
    refine (add_bad h x now hm).mono ?_
    rintro e w' ⟨rfl, hb⟩
    exact ⟨by rw [hc], v, by rw [show addSince sz since now ms x = since by simp [addSince, hc], show addMs sz ms x = ms by simp [addMs, hc]]; exact h.below hb, same_frame hb hB⟩
  · by_cases hp : place ms x ms.length 0 ≠ -1
    · have hc : addCode sz ms x = 7 := by unfold addCode; rw [if_neg hm, if_pos hp]
      refine (add_dup h x now (by simpa using hm) hl hp).mono ?_
      rintro e w' ⟨rfl, hb⟩
      exact ⟨by rw [hc], v, by rw [show addSince sz since now ms x = since by simp [addSince, hc], show addMs sz ms x = ms by simp [addMs, hc]]; exact h.below hb, same_frame hb hB⟩
    · have hp' : place ms x ms.length 0 = -1 := by simpa using hp
      by_cases hs : sz ≤ (ms.length : Int)
      · have hc : addCode sz ms x = 6 := by unfold addCode; rw [if_neg hm, if_neg hp, if_pos hs]
        refine (add_full h x now (by simpa using hm) hl hp' hs).mono ?_
        rintro e w' ⟨rfl, hb⟩
        exact ⟨by rw [hc], v, by rw [show addSince sz since now ms x = since by simp [addSince, hc], show addMs sz ms x = ms by simp [addMs, hc]]; exact h.below hb, same_frame hb hB⟩
      · have hc : addCode sz ms x = 0 := by unfold addCode; rw [if_neg hm, if_neg hp, if_neg hs]
        by_cases hn : ms = []
        · refine (add_first h x now (by simpa using hm) hl hp' (by omega) hn).mono ?_
          rintro e w' ⟨rfl, hr⟩
          exact ⟨by rw [hc], by rw [show addSince sz since now ms x = now from if_pos ⟨hc, hn⟩, show addMs sz ms x = ms ++ [x] by simp [addMs, hc]]; exact hr⟩
        · have hpos : 0 < ms.length := by
            cases ms with
            | nil => exact absurd rfl hn
            | cons _ _ => simp
          refine (add_more h x now (by simpa using hm) hl hp' (by omega) hpos).mono ?_
          rintro e w' ⟨rfl, hr⟩
          exact ⟨by rw [hc], by rw [show addSince sz since now ms x = since by simp [addSince, hn], show addMs sz ms x = ms ++ [x] by simp [addMs, hc]]; exact hr⟩

theorem qadd_any {w : World} {base g : Nat} {sz wt since : Int} {v : Value} {ms : List M7} (h : Qt w base g sz wt v since ms) (x : M7) (now : Int) (hl : ms.length ≤ 1000000) :
    Calls Try.prog 30 #[.pointer (some ⟨g, 0, none⟩), .agg #[.int .i64 x.k, .int .i64 x.c, .int .i64 x.f, .int .u64 x.s, .int .u64 x.t, .string x.d, .string x.a], .int .u64 now] w (QAdds w base g sz wt v since now ms x) := by
  have hB : base ≤ w.heap.size := by have := h.1; have := lt_blk h.2.1; omega
  by_cases hm : mright x = false
  · have hc : addCode sz ms x = 1 := by unfold addCode; rw [if_pos hm]
    refine (qadd_bad h x now hm).mono ?_
    rintro e w' ⟨rfl, hb⟩
    exact ⟨by rw [hc], v, by rw [show addSince sz since now ms x = since by simp [addSince, hc], show addMs sz ms x = ms by simp [addMs, hc]]; exact h.below hb, same_frame hb hB⟩
  · by_cases hp : place ms x ms.length 0 ≠ -1
    · have hc : addCode sz ms x = 7 := by unfold addCode; rw [if_neg hm, if_pos hp]
      refine (qadd_dup h x now (by simpa using hm) hl hp).mono ?_
      rintro e w' ⟨rfl, hb⟩
      exact ⟨by rw [hc], v, by rw [show addSince sz since now ms x = since by simp [addSince, hc], show addMs sz ms x = ms by simp [addMs, hc]]; exact h.below hb, same_frame hb hB⟩
    · have hp' : place ms x ms.length 0 = -1 := by simpa using hp
      by_cases hs : sz ≤ (ms.length : Int)
      · have hc : addCode sz ms x = 6 := by unfold addCode; rw [if_neg hm, if_neg hp, if_pos hs]
        refine (qadd_full h x now (by simpa using hm) hl hp' hs).mono ?_
        rintro e w' ⟨rfl, hb⟩
        exact ⟨by rw [hc], v, by rw [show addSince sz since now ms x = since by simp [addSince, hc], show addMs sz ms x = ms by simp [addMs, hc]]; exact h.below hb, same_frame hb hB⟩
      · have hc : addCode sz ms x = 0 := by unfold addCode; rw [if_neg hm, if_neg hp, if_neg hs]
        by_cases hn : ms = []
        · refine (qadd_first h x now (by simpa using hm) hl hp' (by omega) hn).mono ?_
          rintro e w' ⟨rfl, hr⟩
          exact ⟨by rw [hc], by rw [show addSince sz since now ms x = now from if_pos ⟨hc, hn⟩, show addMs sz ms x = ms ++ [x] by simp [addMs, hc]]; exact hr⟩
        · have hpos : 0 < ms.length := by
            cases ms with
            | nil => exact absurd rfl hn
            | cons _ _ => simp
          refine (qadd_more h x now (by simpa using hm) hl hp' (by omega) hpos).mono ?_
          rintro e w' ⟨rfl, hr⟩
          exact ⟨by rw [hc], by rw [show addSince sz since now ms x = since by simp [addSince, hn], show addMs sz ms x = ms ++ [x] by simp [addMs, hc]]; exact hr⟩


set_option maxHeartbeats 1000000 in
theorem clear_any {w : World} {base g : Nat} {sz wt since : Int} {v : Value} {ms : List M7} (h : Bt w base g sz wt v since ms) :
    Calls Try.prog 28 #[.pointer (some ⟨g, 0, none⟩)] w fun e w' => e = .returned (.tuple #[]) ∧ w' = w.setCell ⟨g, 2, none⟩ (.slice none 0 0) := by
  obtain ⟨_, _, c2, _⟩ := h.cells
  have f2 := h.free 2
  clear h
  go_enter Try.func28, Try.ntmps28
  go_wp2
  go_end0
  exact ⟨rfl, rfl⟩
theorem Bt.wipe {W : World} {base g : Nat} {sz wt since : Int} {v : Value} {ms : List M7} (h : Bt W base g sz wt v since ms) : Bt (W.setCell ⟨g, 2, none⟩ (.slice none 0 0)) base g sz wt (.slice none 0 0) since [] :=
  ⟨h.1, set2_blk h.2.1, World.ownsRow_nil _ _ _ _⟩
theorem Qt.wipe {W : World} {base g : Nat} {sz wt since : Int} {v : Value} {ms : List M7} (h : Qt W base g sz wt v since ms) : Qt (W.setCell ⟨g, 3, none⟩ (.slice none 0 0)) base g sz wt (.slice none 0 0) since [] :=
  ⟨h.1, set3_blk h.2.1, World.ownsRow_nil _ _ _ _⟩

set_option maxHeartbeats 1000000 in
theorem all_any {w : World} {base g : Nat} {sz wt since : Int} {v : Value} {ms : List M7} (h : Bt w base g sz wt v since ms) (hl : ms.length ≤ 1000000) :
    Calls Try.prog 36 #[.pointer (some ⟨g, 0, none⟩)] w fun e w' => (∃ u, e = .returned u ∧ w'.ownsRow w.heap.size TM 7 u ms.length (mevs ms)) ∧ Below w.heap.size w w' := by
  obtain ⟨A, c, rfl⟩ := own_formN h.2.2
  have hrd := Lib.hid (row_at h.2.2 rfl)
  obtain ⟨_, _, c2, _⟩ := h.cells
  clear h
  go_enter Try.func36, Try.ntmps36
  go_wp2_with fail
  refine (clone_msgs A ms.length c ms hl w hrd.out).mono ?_
  rintro e w1 ⟨⟨u, rfl, hown⟩, hb⟩
  have H := Lib.hid (And.intro hown hb)
  clear hown hb
  go_wp2
  go_ret
  exact ⟨⟨_, rfl, H.out.1⟩, H.out.2⟩

/- One that nobody made. -/
theorem nclear (w : World) : Calls Try.prog 28 #[.pointer none] w fun e w' => e = .returned (.tuple #[]) ∧ w' = w := by
  go_enter Try.func28, Try.ntmps28
  go_wp2
  go_end0
  exact ⟨rfl, rfl⟩
theorem nadd (x : M7) (now : Int) (w : World) : Calls Try.prog 29 #[.pointer none, .agg #[.int .i64 x.k, .int .i64 x.c, .int .i64 x.f, .int .u64 x.s, .int .u64 x.t, .string x.d, .string x.a], .int .u64 now] w fun e w' => e = .returned (.int .i64 1) ∧ Below w.heap.size w w' := by
  go_enter Try.func29, Try.ntmps29
  go_wp2
  go_ret
  exact ⟨rfl, (Below.refl _ _).alloc (Nat.le_refl _) _⟩
theorem nlen (w : World) : Calls Try.prog 33 #[.pointer none] w fun e w' => e = .returned (.int .i64 0) ∧ w' = w := by
  go_enter Try.func33, Try.ntmps33
  go_wp2
  go_ret
  exact ⟨rfl, rfl⟩
theorem ndue (now : Int) (w : World) : Calls Try.prog 31 #[.pointer none, .int .u64 now] w fun e w' => e = .returned (.bool false) ∧ w' = w := by
  go_enter Try.func31, Try.ntmps31
  go_wp2_with fail
  refine (nlen w).mono ?_
  rintro e w' ⟨rfl, rfl⟩
  go_wp2
  go_ret
  exact ⟨rfl, rfl⟩
theorem nall (w : World) : Calls Try.prog 36 #[.pointer none] w fun e w' => e = .returned (.slice none 0 0) ∧ w' = w := by
  go_enter Try.func36, Try.ntmps36
  go_wp2
  go_ret
  exact ⟨rfl, rfl⟩
set_option maxHeartbeats 1000000 in
theorem nhas (x : M7) (w : World) : Calls Try.prog 34 #[.pointer none, .agg #[.int .i64 x.k, .int .i64 x.c, .int .i64 x.f, .int .u64 x.s, .int .u64 x.t, .string x.d, .string x.a]] w fun e w' => e = .returned (.bool false) ∧ Below w.heap.size w w' := by
  go_enter Try.func34, Try.ntmps34
  go_wp2
  go_quiet (fail)
  go_wp2
  go_ret
  exact ⟨rfl, below_drewN ((Below.refl _ _).alloc (Nat.le_refl _) _) _⟩
set_option maxHeartbeats 1000000 in
theorem new_bad (sz wt : Int) (w : World) (h : sz < 1 ∨ 32 < sz ∨ wt < 0 ∨ 8 < wt) :
    Calls Try.prog 25 #[.int .i64 sz, .int .i64 wt] w fun e w' => e = .returned (.tuple #[.pointer none, .int .i64 1]) ∧ w' = w := by
  by_cases h0 : sz < 1
  · clear h
    go_enter Try.func25, Try.ntmps25
    go_wp2
    go_ret2
    exact ⟨rfl, rfl⟩
  · by_cases h1 : 32 < sz
    · clear h
      go_enter Try.func25, Try.ntmps25
      go_wp2
      go_ret2
      exact ⟨rfl, rfl⟩
    · by_cases h2 : wt < 0
      · clear h
        go_enter Try.func25, Try.ntmps25
        go_wp2
        go_ret2
        exact ⟨rfl, rfl⟩
      · have h3 : 8 < wt := by omega
        clear h
        go_enter Try.func25, Try.ntmps25
        go_wp2
        go_ret2
        exact ⟨rfl, rfl⟩
end Go.Proofs.Ytjjomlideieofaa.Msg
