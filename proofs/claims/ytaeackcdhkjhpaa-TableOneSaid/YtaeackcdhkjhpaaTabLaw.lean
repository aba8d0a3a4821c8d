/- The world of 'TableOne': a table whose one entry belongs to whoever claimed it first. -/
import Derived.Test.YtaeackcdhkjhpaaTabOps
import Derived.Test.YtaeackcdhkjhpaaTabNew
namespace Go.Proofs.Ytaeackcdhkjhpaa.Mk
open Go Go.RowKit Go.MuLone Conf

abbrev TKy : Nat := 24
def keyB (k : K3) : Obj := .cells #[.int .i64 k.c, .int .i64 k.f, .int .u64 k.s] TKy (0, 0)
/-- the law's world: its key's box, its table, the key's shard -/
structure LW (W V : World) (k : K3) (T g cap n : Nat) (sh : Nat → Nat) (S B : Nat) (l : List Ms) (clock : Nat) : Prop where
  key : V.heap[W.heap.size]? = some (keyB k)
  tn : TN V T g cap n sh
  is : ShIs V S B 8 l clock 0
  bel : Below W.heap.size W V
  low : W.heap.size < S ∧ W.heap.size < B ∧ 0 < n ∧ n ≤ 8
  ne : T ≠ S ∧ T ≠ B ∧ g ≠ S ∧ g ≠ B
  own : ∃ j : Nat, j < n ∧ sh j = S ∧ Fnv.keyH k.c k.f k.s % (n : Int) = (j : Int)
  ok : 0 ≤ k.s ∧ k.s < 18446744073709551616
section
variable {W V V' : World} {k : K3} {T g cap n : Nat} {sh : Nat → Nat} {S B : Nat} {l l' : List Ms} {clock clock' : Nat}
theorem LW.call (h : LW W V k T g cap n sh S B l clock) (hs : ShIs V' S B 8 l' clock' 0) (hO : Only2 S B V V') : LW W V' k T g cap n sh S B l' clock' :=
  ⟨box_off h.key hO (by have := h.low; omega) (by have := h.low; omega), h.tn.only h.low.2.2.1 hO h.ne.1 h.ne.2.1 h.ne.2.2.1 h.ne.2.2.2, hs, Only2.below h.bel hO (by have := h.low; omega) (by have := h.low; omega) h.bel.size, h.low, h.ne, h.own, h.ok⟩
theorem LW.below (h : LW W V k T g cap n sh S B l clock) (hb : Below V.heap.size V V') : LW W V' k T g cap n sh S B l clock :=
  ⟨(hb.block _ (Array.getElem?_eq_some_iff.1 h.key).1).trans h.key, h.tn.below h.low.2.2.1 hb, h.is.below hb, h.bel.trans (hb.mono h.bel.size), h.low, h.ne, h.own, h.ok⟩
theorem LW.drew (h : LW W V k T g cap n sh S B l clock) : LW W V.drew k T g cap n sh S B l clock :=
  ⟨h.key, ⟨h.tn.tab, h.tn.cell⟩, ⟨h.is.box, h.is.map⟩, h.bel.drew, h.low, h.ne, h.own, h.ok⟩
theorem LW.of (h : LW W V k T g cap n sh S B l clock) : ∀ V', Below V.heap.size V V' → Calls Try.prog 11 #[.pointer (some ⟨T, 0, none⟩), k.val] V' fun e w' => e = .returned (.pointer (some ⟨S, 0, none⟩)) ∧ Below V'.heap.size V' w' := fun V' hb => by
  obtain ⟨j, hj, hS, hk⟩ := h.own
  rw [← hS]
  exact of_n (h.below hb).tn k h.ok.1 h.ok.2 h.low.2.2.1 h.low.2.2.2 j hk hj
end
/-- the entry, belonging to o (to nobody: 0) -/
def ent (k : K3) (o : Int) : En := ⟨k, if o = 0 then 1 else 2, o⟩
def one (k : K3) (o : Int) : List Ms := [(k, ent k o, 0)]
theorem ent_one (k : K3) (o : Int) : entM k (one k o) = some (ent k o) := by simp [entM, one]
theorem put_one (k : K3) (o p : Int) (hp : p ≠ 0) : putM k ⟨k, 2, p⟩ (one k o) 1 = (one k p, 1) := by
  simp [putM, one, at?, ent, hp]
set_option maxRecDepth 20000 in
theorem claim_low (S : Nat) (who : Int) (k : K3) (W : World) (hw : who < 1) : Calls Try.prog 24 #[.pointer (some ⟨S, 0, none⟩), k.val, .int .i64 who] W fun e w' => e = .returned (.int .i64 1) ∧ Below W.heap.size W w' := by
  obtain ⟨kc, kf, ks⟩ := k
  unfold K3.val
  have b2 := ((Below.refl W.heap.size W).alloc (Nat.le_refl _) (.cells #[.pointer (some ⟨S, 0, none⟩)] 50)).alloc (by simp) (.cells #[.int .i64 kc, .int .i64 kf, .int .u64 ks] 24)
  have b3 := b2.alloc (by simp; try omega) (.cells #[.int .i64 who] 3)
  go_enter Try.func24, Try.ntmps24
  go_wp2
  go_ret
  exact ⟨rfl, b3⟩
def claimR (o x : Int) : Int := if x < 1 then 1 else if o = 0 then 0 else 10
def claimO (o x : Int) : Int := if x < 1 then o else if o = 0 then x else o
section
variable {W V : World} {k : K3} {T g cap n : Nat} {sh : Nat → Nat} {S B : Nat}
theorem law_ins (h : LW W V k T g cap n sh S B [] 0) :
    Calls Try.prog 7 #[.pointer (some ⟨T, 0, none⟩), opV 1 0 k 0 0 0 0] V fun e w' => e = .returned (retV 0) ∧ LW W w' k T g cap n sh S B (one k 0) 1 := by
  refine (xdo_ins 0 k 0 0 0 0 S B 8 [] 0 h.of h.is).mono ?_
  rintro e w' ⟨rfl, hs, hO⟩
  refine ⟨?_, h.call hs hO⟩
  rfl
theorem law_claim {o : Int} (h : LW W V k T g cap n sh S B (one k o) 1) (x : Int) :
    Calls Try.prog 7 #[.pointer (some ⟨T, 0, none⟩), opV 2 x k 0 0 0 0] V fun e w' => e = .returned (retV (claimR o x)) ∧ LW W w' k T g cap n sh S B (one k (claimO o x)) 1 := by
  by_cases hx : x < 1
  · have e1 : claimR o x = 1 := if_pos hx
    have e2 : claimO o x = o := if_pos hx
    rw [e1, e2]
    refine (xdo_claim x k 0 0 0 0 S B 8 (one k o) 1 1 (one k o, 1) h.of (fun U hU => (claim_low S x k U hx).mono fun e w' hb => ⟨hb.1, hU.below hb.2, Only2.of_below hb.2⟩) h.is).mono ?_
    rintro e w' ⟨rfl, hs, hO⟩
    exact ⟨rfl, h.call hs hO⟩
  · have e3 : chgR 1 x k (one k o) = claimR o x := by
      unfold chgR claimR
      rw [ent_one, if_neg hx]
      by_cases ho : o = 0 <;> simp [ent, ho]
    have e4 : chgL 1 x k (one k o) 1 (putM k ⟨k, 2, x⟩ (one k o) 1) = (one k (claimO o x), 1) := by
      unfold chgL
      rw [e3]
      unfold claimR claimO
      rw [if_neg hx, if_neg hx]
      by_cases ho : o = 0
      · rw [if_pos ho, if_pos rfl, if_pos ho, put_one k o x (by omega)]
      · simp [ho]
    refine (xdo_claim x k 0 0 0 0 S B 8 (one k o) 1 _ _ h.of (fun U hU => claim_any S B 8 x (one k o) 1 k U hU (by omega)) h.is).mono ?_
    rintro e w' ⟨rfl, hs, hO⟩
    rw [e4] at hs
    exact ⟨by rw [e3], h.call hs hO⟩
theorem law_release {o : Int} (h : LW W V k T g cap n sh S B (one k o) 1) (x : Int) (hx : x ≠ o) :
    Calls Try.prog 7 #[.pointer (some ⟨T, 0, none⟩), opV 3 x k 0 0 0 0] V fun e w' => e = .returned (retV (if o = 0 then 10 else 9)) ∧ LW W w' k T g cap n sh S B (one k o) 1 := by
  have e3 : chgR 2 x k (one k o) = if o = 0 then 10 else 9 := by
    unfold chgR
    rw [ent_one]
    by_cases ho : o = 0
    · simp [ent, ho]
    · have : ¬ o = x := fun e => hx e.symm
      simp [ent, ho, this]
  have e4 : chgL 2 x k (one k o) 1 (putM k ⟨k, 1, 0⟩ (one k o) 1) = (one k o, 1) := by
    unfold chgL
    rw [e3]
    by_cases ho : o = 0 <;> simp [ho]
  refine (xdo_release x k 0 0 0 0 S B 8 (one k o) 1 _ _ h.of (fun U hU => release_any S B 8 x (one k o) 1 k U hU) h.is).mono ?_
  rintro e w' ⟨rfl, hs, hO⟩
  rw [e4] at hs
  exact ⟨by rw [e3], h.call hs hO⟩
theorem law_get {o : Int} (h : LW W V k T g cap n sh S B (one k o) 1) :
    Calls Try.prog 8 #[.pointer (some ⟨T, 0, none⟩), k.val] V fun e w' => e = .returned (.tuple #[.agg (ent k o).cells, .bool true]) ∧ w'.heap[W.heap.size]? = some (keyB k) ∧ Below W.heap.size W w' := by
  refine (xget k S B 8 (one k o) 1 h.of h.is).mono ?_
  rintro e w' ⟨rfl, hO⟩
  rw [ent_one]
  exact ⟨rfl, box_off h.key hO (by have := h.low; omega) (by have := h.low; omega), Only2.below h.bel hO (by have := h.low; omega) (by have := h.low; omega) h.bel.size⟩
end
/-- a table made, and where its shards lie -/
theorem tn_of {w wr : World} {T n : Nat} {v : Value} {ss : List (Nat × Nat)} {c : Cfg} (h : TB w wr T v ss c) (hn : ss.length = n) (h0 : 0 < n) :
    ∃ g cap, v = .slice (some ⟨g, 0, none⟩) n cap ∧ TN wr T g cap n (fun i => (ss.getD i (0, 0)).1) ∧ ∀ x ∈ ss, g ≠ x.1 ∧ g ≠ x.2 := by
  rcases h.row.2 with ⟨_, h2⟩ | ⟨g, cap, cur, hv, hg, hh, h1, h2, h3, h4⟩
  · simp at h2; rw [h2] at hn; simp at hn; omega
  · rw [hn] at hv
    refine ⟨g, cap, hv, ⟨by rw [← hv]; exact h.tab, fun i hi => ?_⟩, fun x hx => ?_⟩
    · have hc := World.ownsRow.cells h.row (g := g) (by rw [hv]; rfl) i (.pointer (some ⟨(ss.getD i (0, 0)).1, 0, none⟩)) (by
        rw [List.getElem?_map, List.getElem?_eq_getElem (by omega)]
        simp [ptrS, List.getD_eq_getElem?_getD, List.getElem?_eq_getElem (show i < ss.length by omega)])
      have ea : (⟨g, 0, none⟩ : Addr).add i = ⟨g, i, none⟩ := by unfold Addr.add; by_cases h : i = 0 <;> simp [h]
      rwa [ea] at hc
    · have hs := (h.sh x hx).1
      refine ⟨fun e => ?_, fun e => ?_⟩
      · exact own_apart9 h.row hs.box (by decide) (by rw [hv, e]; rfl)
      · exact own_apartM h.row hs.map (by rw [hv, e]; rfl)
end Go.Proofs.Ytaeackcdhkjhpaa.Mk
