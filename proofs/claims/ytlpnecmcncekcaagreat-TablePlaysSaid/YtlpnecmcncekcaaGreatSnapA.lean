import Derived.Test.YtlpnecmcncekcaaGreatSnapSort
import Derived.Test.YtlpnecmcncekcaaGreatMapIter
import Derived.Test.YtlpnecmcncekcaaGreatBlocks
import Derived.Deep.AppendLies
/- Snapshot's loop over the map: the world in it. -/
namespace Go.Proofs.YtlpnecmcncekcaaGreat.Mk
open Go Go.RowKit

/-- stamps that were handed out -/
abbrev isIn (seen : Array Nat) (x : Ms) : Bool := seen.contains x.2.2
def outE (l : List Ms) (seen : Array Nat) : List En := (l.filter (isIn seen)).map (·.2.1)
theorem filter_push {seen : Array Nat} : ∀ {l : List Ms}, (l.map (·.2.2)).Nodup → ∀ x ∈ l, seen.contains x.2.2 = false → ((l.filter (isIn (seen.push x.2.2))).Perm (x :: l.filter (isIn seen)))
  | [], _, _, h, _ => by cases h
  | y :: l, hn, x, hx, hs => by
    have hn' : y.2.2 ∉ l.map (·.2.2) ∧ (l.map (·.2.2)).Nodup := List.nodup_cons.1 hn
    simp only [List.filter_cons, isIn, contains_push]
    rcases List.mem_cons.1 hx with rfl | hm
    · have hl : l.filter (isIn (seen.push x.2.2)) = l.filter (isIn seen) := by
        apply List.filter_congr
        intro z hz
        have : (z.2.2 == x.2.2) = false := by
          simp only [beq_eq_false_iff_ne]
          exact fun e => hn'.1 (by rw [← e]; exact List.mem_map.2 ⟨z, hz, rfl⟩)
        simp only [isIn, contains_push, this, Bool.or_false]
      rw [beq_self_eq_true, Bool.or_true, if_pos rfl, if_neg (by rw [hs]; decide), hl]
    · have hy : (y.2.2 == x.2.2) = false := by
        simp only [beq_eq_false_iff_ne]
        exact fun e => hn'.1 (by rw [e]; exact List.mem_map.2 ⟨x, hm, rfl⟩)
      rw [hy, Bool.or_false]
      have ih := filter_push hn'.2 x hm hs
      by_cases hc : seen.contains y.2.2 = true
      · rw [if_pos hc, if_pos hc]
        exact (List.Perm.cons y ih).trans (List.Perm.swap x y _)
      · rw [if_neg hc, if_neg hc]
        exact ih
theorem left_toM (l : List Ms) (seen : Array Nat) : (leftOf (l.map toM).toArray seen).toList = (l.filter fun x => !isIn seen x).map toM := by
  unfold leftOf
  rw [Array.toList_filter]
  simp only [List.filter_map]
  rfl
/-- Snapshot's world: l's box in X, the iterator in I; acc was handed out. -/
structure SnapW (W V : World) (S B : Nat) (room : Int) (l : List Ms) (clock X I : Nat) (seen : Array Nat) (v : Value) (acc : List En) : Prop where
  sh : ShIs V S B room l clock 1
  box : V.heap[X]? = some (.cells #[v] TLn (0, 0))
  it : V.heap[I]? = some (.mapIter (some B) clock seen clock)
  row : V.ownsRow (I + 1) TEn 5 v acc.length (ecs acc)
  only : Only2 S B W V
  lo : W.heap.size ≤ X ∧ X < I ∧ S < X ∧ B < X
section
variable {W V V' : World} {S B : Nat} {room : Int} {l : List Ms} {clock X I : Nat} {seen : Array Nat} {v : Value} {acc : List En}
theorem own_keep5 {base n : Nat} {xs : List Value} (h : V.ownsRow base TEn 5 v n xs) (hb : ∀ k, base ≤ k → k < V.heap.size → V'.heap[k]? = V.heap[k]?) : V'.ownsRow base TEn 5 v n xs := by
  refine ⟨h.1, ?_⟩
  rcases h.2 with h2 | ⟨g, cap, cur, hv, hg, hh, r⟩
  · exact Or.inl h2
  · exact Or.inr ⟨g, cap, cur, hv, hg, (hb g hg (Array.getElem?_eq_some_iff.1 hh).1).trans hh, r⟩
theorem SnapW.ltI (h : SnapW W V S B room l clock X I seen v acc) : I < V.heap.size := (Array.getElem?_eq_some_iff.1 h.it).1
theorem SnapW.below (h : SnapW W V S B room l clock X I seen v acc) (hb : Below V.heap.size V V') : SnapW W V' S B room l clock X I seen v acc :=
  ⟨h.sh.below hb, (hb.block _ (Array.getElem?_eq_some_iff.1 h.box).1).trans h.box, (hb.block _ h.ltI).trans h.it, own_keep5 h.row fun k _ hk => hb.block k hk, h.only.trans (Only2.of_below hb), h.lo⟩
/-- the iterator goes on -/
theorem SnapW.step (h : SnapW W V S B room l clock X I seen v acc) (b : Nat) (V1 : World) (h1 : V1 = V ∨ V1 = V.drew) :
    SnapW W { V1 with heap := V1.heap.setIfInBounds I (.mapIter (some B) clock (seen.push b) clock) } S B room l clock X I (seen.push b) v acc := by
  have hI := h.ltI
  have hlo := h.lo
  have hV : V1.heap = V.heap ∧ V1.os = V.os ∧ V1.tape = V.tape ∧ V1.output = V.output := by rcases h1 with rfl | rfl <;> exact ⟨rfl, rfl, rfl, rfl⟩
  have hk : ∀ k, k ≠ I → (V1.heap.setIfInBounds I (.mapIter (some B) clock (seen.push b) clock))[k]? = V.heap[k]? := fun k hk => by
    rw [hV.1]; simp [Ne.symm hk]
  refine ⟨⟨(hk S (by omega)).trans h.sh.box, (hk B (by omega)).trans h.sh.map⟩, (hk X (by omega)).trans h.box, ?_, own_keep5 h.row fun k hb _ => hk k (by omega), ?_, hlo⟩
  · show (V1.heap.setIfInBounds I _)[I]? = _
    rw [hV.1]; simp [hI]
  · refine ⟨hV.2.1.trans h.only.os, hV.2.2.1.trans h.only.tape, hV.2.2.2.trans h.only.output, ?_, fun k hkW hS hB => (hk k (by omega)).trans (h.only.block k hkW hS hB)⟩
    show _ ≤ (V1.heap.setIfInBounds I _).size
    rw [hV.1]; simpa using h.only.size
/-- an entry behind the others -/
theorem SnapW.push (h : SnapW W V S B room l clock X I seen v acc) (e : En) (v' : Value) (w : World) (hown : w.ownsRow (I + 1) TEn 5 v' (acc.length + 1) (ecs acc ++ encE e)) (hg : V.grownBy w v.ownBlock) :
    w.heap[X]? = some (.cells #[v] TLn (0, 0)) ∧ SnapW W (w.setCell ⟨X, 0, none⟩ v') S B room l clock X I seen v' (acc ++ [e]) := by
  have hlo := h.lo
  have hge : ∀ k, k ≤ I → some k ≠ v.ownBlock := fun k hk e1 => by
    rcases h.row.2 with ⟨h2, -⟩ | ⟨g, cap, cur, hv, hgg, hh, r⟩
    · rw [h2] at e1; cases e1
    · rw [hv] at e1
      have : k = g := by injection e1
      omega
  have hI := h.ltI
  have hk : ∀ k, k ≤ I → w.heap[k]? = V.heap[k]? := fun k hk => hg.block k (by omega) (hge k hk)
  have hk2 : ∀ k, k ≤ I → k ≠ X → (w.setCell ⟨X, 0, none⟩ v').heap[k]? = V.heap[k]? := fun k h1 h2 => (Below.heap_setCell _ _ _ _ h2).trans (hk k h1)
  have hX := (hk X (by omega)).trans h.box
  refine ⟨hX, ⟨(hk2 S (by omega) (by omega)).trans h.sh.box, (hk2 B (by omega) (by omega)).trans h.sh.map⟩, (setCell_at v' hX).trans rfl, (hk2 I (Nat.le_refl _) (by omega)).trans h.it, ?_, ?_, hlo⟩
  · have e1 : ecs (acc ++ [e]) = ecs acc ++ encE e := by simp [ecs]
    rw [e1, List.length_append, List.length_singleton]
    exact own_keep5 hown fun k hb _ => Below.heap_setCell _ _ _ _ (show k ≠ X by omega)
  · refine ⟨hg.os.trans h.only.os, hg.tape.trans h.only.tape, hg.output.trans h.only.output, ?_, fun k hkW hS hB => (hk2 k (by omega) (by omega)).trans (h.only.block k hkW hS hB)⟩
    simpa using Nat.le_trans h.only.size hg.size
end
/-- how much is left -/
theorem left_dec (l : List Ms) (seen : Array Nat) {x : Ms} (hx : x ∈ l) (hs : isIn seen x = false) : (l.filter fun y => !isIn (seen.push x.2.2) y).length < (l.filter fun y => !isIn seen y).length := by
  refine filter_lt (fun y : Ms => !isIn seen y) (fun y => !isIn (seen.push x.2.2) y) (fun y hy => ?_) x (by show (!isIn seen x) = true; rw [hs]; rfl) ?_ l hx
  · simp only [isIn, contains_push, Bool.not_eq_true', Bool.or_eq_false_iff] at hy ⊢
    exact hy.1
  · simp only [isIn, contains_push, beq_self_eq_true, Bool.or_true, Bool.not_true]
theorem outE_all (l : List Ms) (seen : Array Nat) (h : (l.filter fun x => !isIn seen x) = []) : outE l seen = ens l := by
  unfold outE ens
  congr 1
  rw [List.filter_eq_self]
  intro x hx
  have := List.filter_eq_nil_iff.1 h x hx
  simpa using this
end Go.Proofs.YtlpnecmcncekcaaGreat.Mk
/- sort.Slice of a row of entries that the call owns, of whatever length. -/
namespace Go.Proofs.YtlpnecmcncekcaaGreat.Mk
open Go Go.RowKit Go.MuLone

/-- A row of entries, in memory from block 'base' on. -/
def RowE (base : Nat) (V : World) (v : Value) (ls : List En) : Prop :=
  (v = .slice none 0 0 ∧ ls = []) ∨ ∃ g c, v = .slice (some ⟨g, 0, none⟩) ls.length c ∧ base ≤ g ∧ g < V.heap.size ∧ Sort.HoldsK encE 5 V g 0 ls.toArray
theorem rowE_of_own {base : Nat} {V : World} {v : Value} {ls : List En} (h : V.ownsRow base TEn 5 v ls.length (ecs ls)) : RowE base V v ls := by
  rcases h.2 with ⟨h1, h2⟩ | ⟨g, cap, cur, hv, hg, hh, r⟩
  · exact Or.inl ⟨h1, List.length_eq_zero_iff.1 h2⟩
  · subst hv
    exact Or.inr ⟨g, cap, rfl, hg, (Array.getElem?_eq_some_iff.1 hh).1, holds_of_own h⟩
theorem pw_small {α : Type} {R : α → α → Prop} : ∀ {l : List α}, l.length ≤ 1 → l.Pairwise R
  | [], _ => List.Pairwise.nil
  | [_], _ => List.pairwise_singleton _ _
  | _ :: _ :: _, h => by simp at h
theorem grown_of_grow (w : World) (os : Array Obj) (r : Option Nat) : w.grownBy (Sort.grow w os) r :=
  ⟨(grow_below w os).os, (grow_below w os).tape, (grow_below w os).output, (grow_below w os).size, fun k hk _ => (grow_below w os).block k hk⟩
theorem sort_any (X base : Nat) (v : Value) (acc : List En) (V : World) (hrow : V.ownsRow base TEn 5 v acc.length (ecs acc)) (hX : V.heap[X]? = some (.cells #[v] TLn (0, 0))) (hXb : X < base) (hlen : acc.length ≤ 1000) :
    Calls Tryz.prog 38 #[.iface TLn v, .func (.func 48) #[] #[.pointer (some ⟨X, 0, none⟩)]] V fun e w' => e = .returned (.tuple #[]) ∧ ∃ ls, ls.Perm acc ∧ ls.Pairwise (fun a b => ltE b a = false) ∧ RowE base w' v ls ∧ w'.heap[X]? = some (.cells #[v] TLn (0, 0)) ∧ V.grownBy w' v.ownBlock := by
  rcases hrow.2 with ⟨hv, hn⟩ | ⟨g, cap, cur, hv, hg, hh, hnc, hcm, r⟩
  · subst hv
    have ha := List.length_eq_zero_iff.1 hn
    subst ha
    refine (sort_none (.func 48) #[] #[.pointer (some ⟨X, 0, none⟩)] V).mono ?_
    rintro e w' ⟨rfl, hb⟩
    exact ⟨rfl, [], List.Perm.refl _, List.Pairwise.nil, Or.inl ⟨rfl, rfl⟩, (hb.block _ (Array.getElem?_eq_some_iff.1 hX).1).trans hX, ⟨hb.os, hb.tape, hb.output, hb.size, fun k hk _ => hb.block k hk⟩⟩
  · subst hv
    have hgl : g < V.heap.size := (Array.getElem?_eq_some_iff.1 hh).1
    have hH := holds_of_own hrow
    by_cases h2 : 2 ≤ acc.length
    · have hs := sort_two X g cap acc.toArray V (by simpa using h2) (by simp; omega) hH hgl (by simpa using hX) (by omega)
      simp only [List.size_toArray] at hs
      refine hs.mono ?_
      rintro e w' ⟨rfl, d', hp, hso, hR⟩
      have hsz : d'.size = acc.length := hR.sz
      refine ⟨rfl, d'.toList, ?_, ?_, Or.inr ⟨g, cap, by simp [hsz], hg, Nat.lt_of_lt_of_le hgl hR.base, by simpa using hR.holds⟩, (hR.rest X (by omega) (by omega)).trans hX,
        ⟨hR.os, hR.tape, hR.output, hR.base, fun k hk hne => hR.rest k hk (fun e => hne (by rw [e]; rfl))⟩⟩
      · have h3 := hp.2.2
        rw [← hsz] at h3
        simp only [Array.extract_size] at h3
        have h4 : (acc.toArray.extract 0 d'.size).toList = acc := by rw [hsz]; simp
        rw [h4] at h3
        exact h3
      · rw [List.pairwise_iff_getElem]
        intro i j hi hj hij
        have := hso i j (Nat.zero_le _) hij (by rw [← hsz]; simpa using hj)
        rw [getElem!_pos d' i (by simpa using hi), getElem!_pos d' j (by simpa using hj)] at this
        simpa using this
    · have h1 : acc.length ≤ 1 := by omega
      have hk : Lib.swapperK acc.length slE 25 = 1 ∨ Lib.swapperK acc.length slE 25 = 2 := by
        rcases Nat.lt_or_ge acc.length 1 with h | h
        · left; have : acc.length = 0 := by omega
          rw [this]; simp [Lib.swapperK]
        · right; have : acc.length = 1 := by omega
          rw [this]; simp [Lib.swapperK]
      have ht : Calls Tryz.prog 38 #[.iface TLn (.slice (some ⟨g, 0, none⟩) acc.length cap), .func (.func 48) #[] #[.pointer (some ⟨X, 0, none⟩)]] V fun e w' => e = .returned (.tuple #[]) ∧ ∃ os, w' = Sort.grow V os := by
        rcases hk with hk | hk
        · exact Any.sort_Slice_tiny laysSl TLn TEn slT slE (by kernel_rfl) (by kernel_rfl) (by kernel_rfl) (by kernel_rfl) 25 (fun _ => by kernel_rfl) (some ⟨g, 0, none⟩) acc.length cap h1 84 (by rw [hk]; kernel_rfl) _ _ _ V
        · exact Any.sort_Slice_tiny laysSl TLn TEn slT slE (by kernel_rfl) (by kernel_rfl) (by kernel_rfl) (by kernel_rfl) 25 (fun _ => by kernel_rfl) (some ⟨g, 0, none⟩) acc.length cap h1 85 (by rw [hk]; kernel_rfl) _ _ _ V
      refine ht.mono ?_
      rintro e w' ⟨rfl, os, rfl⟩
      have hb := grow_below V os
      refine ⟨rfl, acc, List.Perm.refl _, ?_, rowE_of_own (own_keep5 hrow fun k _ hk => hb.block k hk), (hb.block _ (Array.getElem?_eq_some_iff.1 hX).1).trans hX, grown_of_grow V os _⟩
      exact pw_small h1
end Go.Proofs.YtlpnecmcncekcaaGreat.Mk
/- A shard's Snapshot: its entries, by rising keys. -/
namespace Go.Proofs.YtlpnecmcncekcaaGreat.Mk
open Go Go.RowKit Go.MuLone

theorem infoEn : (Tryz.prog.info? TEn).map (fun i => (i.zero, i.size, i.bytes)) = some (some en0.val, 5, 40) := by kernel_rfl
theorem info_partsE {o : Option TypeInfo} {z : Value} {s b : Nat} (h : o.map (fun i => (i.zero, i.size, i.bytes)) = some (some z, s, b)) : ∃ i, o = some i ∧ i.zero = some z ∧ i.size = s ∧ i.bytes = b := by
  cases o with
  | none => cases h
  | some i =>
    injection h with h
    injection h with h1 h
    injection h with h2 h3
    exact ⟨i, rfl, h1, h2, h3⟩
theorem cells5_new (V : World) (e : En) (o : Obj) (ho : o = .cells e.cells TEn (0, 0)) : ∀ j u, (encE e)[j]? = some u → (V.alloc o).cell? ((⟨V.heap.size, 0, none⟩ : Addr).add j) = some u := by
  intro j u h
  have hh := heap_alloc_new V o
  rw [ho] at hh ⊢
  match j, h with
  | 0, h => rw [← h]; exact cell_of_row _ V.heap.size 0 _ _ (0, 0) hh
  | 1, h => rw [← h]; exact cell_of_row _ V.heap.size 1 _ _ (0, 0) hh
  | 2, h => rw [← h]; exact cell_of_row _ V.heap.size 2 _ _ (0, 0) hh
  | 3, h => rw [← h]; exact cell_of_row _ V.heap.size 3 _ _ (0, 0) hh
  | 4, h => rw [← h]; exact cell_of_row _ V.heap.size 4 _ _ (0, 0) hh
theorem iterSeen_of {V : World} {I b c : Nat} {a : Option Nat} {s : Array Nat} (h : V.heap[I]? = some (.mapIter a b s c)) : V.iterSeen I = s := by
  unfold World.iterSeen; rw [h]
set_option maxRecDepth 20000 in
set_option maxHeartbeats 4000000 in
theorem snap_any (S B : Nat) (room : Int) (l : List Ms) (clock : Nat) (W : World) (h : ShIs W S B room l clock 0) (hok : MOk l clock) (hlen : l.length ≤ 1000) :
    Calls Tryz.prog 30 #[.pointer (some ⟨S, 0, none⟩)] W fun e w' => ∃ v ls, e = .returned v ∧ RowE W.heap.size w' v ls ∧ ls.Perm (ens l) ∧ ls.Pairwise (fun a b => ltE b a = false) ∧ ShIs w' S B room l clock 0 ∧ Only2 S B W w' := by
  obtain ⟨i0, hi, hz0, hz1, hz2⟩ := info_partsE infoEn
  obtain ⟨c0, -, -, f0⟩ := h.cells
  have hS := h.ltS
  have hB := h.ltB
  go_enter_defers Tryz.func30, Tryz.ntmps30
  go_wp2_with fail
  refine (lock_free muLib ⟨S, 0, none⟩ _ c0 f0).mono ?_
  rintro _ w1 ⟨rfl, hw⟩
  have h1 : ShIs w1 S B room l clock 1 := by rw [hw]; exact h.lock 1
  have hO1 : Only2 S B W w1 := by rw [hw]; exact (Only2.refl S B W).setS 0 _
  clear hw c0 f0 h
  go_upto_region 6 with fail
  have hX := heap_alloc_new w1 (.cells #[.slice none 0 0] TLn)
  obtain ⟨X, hXd⟩ : ∃ X, X = w1.heap.size := ⟨_, rfl⟩
  obtain ⟨w2, hw2⟩ : ∃ V, V = w1.alloc (.cells #[.slice none 0 0] TLn) := ⟨_, rfl⟩
  have h2 : ShIs w2 S B room l clock 1 := by rw [hw2]; exact h1.new _
  have hs2 : w2.heap.size = X + 1 := by rw [hw2, hXd]; simp
  rw [← hw2, ← hXd] at hX
  have hO2 : Only2 S B W w2 := by rw [hw2]; exact hO1.alloc _
  have hlo : W.heap.size ≤ X := by rw [hXd]; exact hO1.size
  rw [← hw2, ← hXd]
  have hr := run_range_map (P := Tryz.prog) w2 94 41 54 B _ clock Tryz.underlying94 h2.map
  rw [hs2] at hr
  obtain ⟨-, -, c3, -⟩ := h2.cells
  have H3 : SnapW W (w2.alloc (.mapIter (some B) clock #[] clock)) S B room l clock X (X + 1) #[] (.slice none 0 0) [] :=
    ⟨h2.new _, (Below.heap_alloc _ _ _ (Array.getElem?_eq_some_iff.1 hX).1).trans hX, by have := heap_alloc_new w2 (.mapIter (some B) clock #[] clock); rw [hs2] at this; exact this, World.ownsRow_nil _ _ _ _, hO2.alloc _, by omega⟩
  have HS := Lib.hid H3
  clear H3 hO2 hO1 h1 h2 hw2 hXd w1
  go_wp2
  clear hr c3 hX
  obtain ⟨w3, hw3⟩ : ∃ V, V = w2.alloc (.mapIter (some B) clock #[] clock) := ⟨_, rfl⟩
  rw [← hw3] at HS ⊢
  clear hw3 hs2 w2
  go_loopw [] (fun wr => ∃ (seen : Array Nat) (v : Value) (acc : List En), SnapW W wr S B room l clock X (X + 1) seen v acc ∧ Hid ((outE l seen).Perm acc)) (fun wr => (l.filter fun x => !isIn (wr.iterSeen (X + 1)) x).length)
  case atStart => exact ⟨#[], .slice none 0 0, [], HS.out, by show List.Perm _ _; unfold outE; rw [List.filter_eq_nil_iff.2 (fun x _ => by simp [isIn])]; exact List.Perm.refl _⟩
  case round =>
    clear HS
    obtain ⟨seen, v, acc, hsw, hperm⟩ := hrel
    have HSW := Lib.hid hsw
    have law := Mi.next_run (P := Tryz.prog) wr 0 (X + 1) B clock clock seen (l.map toM).toArray clock hsw.it hsw.sh.map (fun x hx => by simp at hx; obtain ⟨a, b, c, hm, rfl⟩ := hx; exact hok.old _ hm) (Nat.le_refl _)
    clear hsw
    rcases law with ⟨h0, hrun⟩ | ⟨e, he, V1, hV1, hrun⟩
    · have hnx : ∀ ty, (Instr.next (.pointer (some ⟨X + 1, 0, none⟩)) false ty).run Tryz.prog wr = _ := fun _ => hrun
      have hall : outE l seen = ens l := by
        refine outE_all l seen ?_
        have : (leftOf (l.map toM).toArray seen).toList = [] := by rw [Array.size_eq_length_toList] at h0; exact List.length_eq_zero_iff.1 h0
        rw [left_toM] at this
        exact List.map_eq_nil_iff.1 this
      have HP : Hid (acc.Perm (ens l)) := by have := hperm.out.symm; rw [hall] at this; exact this
      clear hall h0 hrun
      have hal : acc.length ≤ 1000 := by have := HP.out.length_eq; simp [ens] at this; omega
      have hso := sort_any X (X + 1 + 1) v acc wr HSW.out.row HSW.out.box (by omega) hal
      have hbx := HSW.out.box
      obtain ⟨A, n, c, hv⟩ : ∃ A n c, v = .slice A n c := by
        rcases HSW.out.row.2 with ⟨h1, _⟩ | ⟨g, cap, cur, h1, _⟩
        · exact ⟨_, _, _, h1⟩
        · exact ⟨_, _, _, h1⟩
      rw [hv] at hso hbx
      have bx := cell_of_row wr X 0 _ _ (0, 0) hbx
      clear hbx hal
      go_wp2_with fail
      refine hso.mono ?_
      rintro _ w5 ⟨rfl, ls, hlp, hpw, hre, hbx5, hg5⟩
      have bx5 := cell_of_row w5 X 0 _ _ (0, 0) hbx5
      have hge : ∀ k, k ≤ X + 1 → some k ≠ (Value.slice A n c).ownBlock := fun k hk e1 => by
        rcases HSW.out.row.2 with ⟨h2, -⟩ | ⟨g, cap, cur, hv2, hgg, hh, r⟩
        · rw [hv] at h2; injection h2 with h2; rw [h2] at e1; cases e1
        · rw [hv] at hv2; injection hv2 with hv2; rw [hv2] at e1
          have : k = g := by injection e1
          omega
      have hk : ∀ k, k ≤ X + 1 → w5.heap[k]? = wr.heap[k]? := fun k hk => hg5.block k (by have := HSW.out.ltI; omega) (hge k hk)
      have h5 : ShIs w5 S B room l clock 1 := ⟨(hk S (by omega)).trans HSW.out.sh.box, (hk B (by omega)).trans HSW.out.sh.map⟩
      have hO5 : Only2 S B W w5 := ⟨hg5.os.trans HSW.out.only.os, hg5.tape.trans HSW.out.only.tape, hg5.output.trans HSW.out.only.output, Nat.le_trans HSW.out.only.size hg5.size, fun k h1 h2 h3 => (hk k (by omega)).trans (HSW.out.only.block k h1 h2 h3)⟩
      have H5 := Lib.hid (And.intro h5 (And.intro hO5 (And.intro hre (And.intro (hlp.trans HP.out) hpw))))
      clear h5 hO5 hk hge hre hlp hpw hbx5 hg5 hso bx hperm HSW HP hnx
      go_wp2_with fail
      refine leaves_cons (f := 47) (args := #[.pointer (some ⟨S, 0, none⟩)]) (by simp) (by simp [go_sem]) ?_
      refine (unlock_deferred muLib ⟨S, 0, none⟩ .returning _ H5.out.1.cells.1 H5.out.1.cells.2.2.2).mono ?_
      rintro _ u' w9 ⟨rfl, rfl, hw9⟩
      refine ⟨.slice A n c, by simp [results, Tryz.results30, go_sem], .slice A n c, ls, rfl, ?_, H5.out.2.2.2.1, H5.out.2.2.2.2, by rw [hw9]; exact H5.out.1.lock 0, by rw [hw9]; exact H5.out.2.1.setS 0 _⟩
      rcases H5.out.2.2.1 with ⟨h1, h2⟩ | ⟨g, c', h1, h2, h3, h4⟩
      · exact Or.inl ⟨h1, h2⟩
      · refine Or.inr ⟨g, c', h1, by omega, by rw [hw9]; simpa using h3, ?_⟩
        rw [hw9]
        exact St.holdsK_of_block h4 (Below.heap_setCell _ _ _ _ (show g ≠ S by omega))
    · rw [left_toM] at he
      obtain ⟨x, hx, rfl⟩ := List.mem_map.1 he
      obtain ⟨hxl, hxs⟩ := List.mem_filter.1 hx
      have hxs' : isIn seen x = false := by simpa using hxs
      have hnx : ∀ ty, (Instr.next (.pointer (some ⟨X + 1, 0, none⟩)) false ty).run Tryz.prog wr = _ := fun _ => hrun
      have h4 := HSW.out.step x.2.2 V1 hV1
      have hit := h4.it
      have hen := Mi.entry_run (P := Tryz.prog) _ (X + 1) B clock seen (l.map toM).toArray clock (toM x) hit h4.sh.map (by simp; exact ⟨x.1, x.2.1, x.2.2, hxl, rfl⟩) (by
        have : ((l.map toM).toArray.toList.map (·.born)) = l.map (·.2.2) := by simp [toM]
        rw [this]; exact hok.born)
      obtain ⟨w4, hw4⟩ : ∃ V : World, V = { V1 with heap := V1.heap.setIfInBounds (X + 1) (.mapIter (some B) clock (seen.push x.2.2) clock) } := ⟨_, rfl⟩
      change ∀ ty, _ = Result.ok _ ({ V1 with heap := V1.heap.setIfInBounds (X + 1) (.mapIter (some B) clock (seen.push x.2.2) clock) } : World) at hnx
      rw [← hw4] at hnx h4 hen
      have H4 := Lib.hid h4
      have hxl' : Hid (x ∈ l) := hxl
      have hxs2 : Hid (isIn seen x = false) := hxs'
      obtain ⟨xk, ⟨⟨kc, kf, ks⟩, st, ow⟩, bn⟩ := x
      unfold toM En.val En.cells at hnx hen
      dsimp only at hnx hen H4
      clear hw4 hV1 hit h4 hx hxs hxl hxs' hrun
      have hE := heap_alloc_new w4 (.cells #[.int .i64 kc, .int .i64 kf, .int .u64 ks, .int .i64 st, .int .i64 ow] TEn)
      have H5 := Lib.hid (H4.out.below ((Below.refl _ w4).alloc (Nat.le_refl _) (.cells #[.int .i64 kc, .int .i64 kf, .int .u64 ks, .int .i64 st, .int .i64 ow] TEn)))
      go_upto_region 9 with fail
      obtain ⟨E1, hE1⟩ : ∃ E1, E1 = w4.heap.size := ⟨_, rfl⟩
      rw [← hE1] at hE ⊢
      obtain ⟨w5, hw5⟩ : ∃ V : World, V = w4.alloc (.cells #[.int .i64 kc, .int .i64 kf, .int .u64 ks, .int .i64 st, .int .i64 ow] TEn) := ⟨_, rfl⟩
      rw [← hw5] at hE H5 ⊢
      clear hw5 hE1 hnx hen H4 he V1
      have e0 := cell_of_row w5 E1 0 _ _ (0, 0) hE
      have e1 := cell_of_row w5 E1 1 _ _ (0, 0) hE
      have e2 := cell_of_row w5 E1 2 _ _ (0, 0) hE
      have e3 := cell_of_row w5 E1 3 _ _ (0, 0) hE
      have e4 := cell_of_row w5 E1 4 _ _ (0, 0) hE
      clear hE
      have hbx := H5.out.box
      obtain ⟨A, n, c, hv⟩ : ∃ A n c, v = .slice A n c := by
        rcases HSW.out.row.2 with ⟨h1, _⟩ | ⟨g, cap, cur, h1, _⟩
        · exact ⟨_, _, _, h1⟩
        · exact ⟨_, _, _, h1⟩
      have H6 := Lib.hid (H5.out.below ((Below.refl _ w5).alloc (Nat.le_refl _) (.cells #[.int .i64 kc, .int .i64 kf, .int .u64 ks, .int .i64 st, .int .i64 ow] TEn)))
      have hal : Hid (acc.length ≤ 1000) := by
        show acc.length ≤ 1000
        have h1 := hperm.out.length_eq
        have h2 : (outE l seen).length ≤ l.length := by unfold outE; rw [List.length_map]; exact List.length_filter_le _ _
        omega
      have hI5 := H5.out.ltI
      have hXI : Hid (X + 1 + 1 ≤ (w5.alloc (.cells #[.int .i64 kc, .int .i64 kf, .int .u64 ks, .int .i64 st, .int .i64 ow] TEn)).heap.size) := by show _ ≤ _; simp; omega
      rw [hv] at hbx
      have bx := cell_of_row w5 X 0 _ _ (0, 0) hbx
      clear hbx hI5
      have hrw := H6.out.row
      rw [hv] at hrw
      have HR := Lib.hid hrw
      clear hrw
      have hN := cells5_new w5 ⟨⟨kc, kf, ks⟩, st, ow⟩ (.cells #[.int .i64 kc, .int .i64 kf, .int .u64 ks, .int .i64 st, .int .i64 ow] TEn) rfl
      have HN := Lib.hid hN
      clear hN
      go_wp2_with (at_builtin; refine wpList_append_lies _ rfl _ _ 35 rfl (X + 1 + 1) TEn i0 en0.val 5 40 Tryz.underlying35 hi hz0 hz1 hz2 rfl (by decide) _ _ _ rfl HR.out ⟨w5.heap.size, 0, none⟩ 1 1 (encE ⟨⟨kc, kf, ks⟩, st, ow⟩) rfl rfl HN.out (encE_one _) (by decide) (by have := hal.out; unfold maxLen; omega) (by have := hal.out; omega) hXI.out _ rfl ?_)
      intro g1 cap1 w6 hown hg hat _
      obtain ⟨hb6, h7⟩ := H6.out.push ⟨⟨kc, kf, ks⟩, st, ow⟩ _ w6 hown (by rw [hv]; exact hg)
      have b0 := cell_of_row w6 X 0 _ _ (0, 0) hb6
      have bf : w6.frozen? ⟨X, 0, none⟩ = false := by simp [World.frozen?, hb6]
      have H7 := Lib.hid h7
      clear h7 hb6 hown hg hat HN HR bx e0 e1 e2 e3 e4
      go_wp2
      go_roundw
      case rel =>
        refine ⟨seen.push bn, _, _, H7.out, ?_⟩
        show List.Perm _ _
        have h1 := filter_push hok.born _ hxl'.out (by simpa [isIn] using hxs2.out)
        have h2 := h1.map (fun y : Ms => y.2.1)
        refine h2.trans ?_
        simp only [List.map_cons]
        exact (List.Perm.cons _ hperm.out).trans (List.perm_append_comm (l₁ := [_]) (l₂ := acc))
      case measure =>
        rw [show (w6.setCell ⟨X, 0, none⟩ _).iterSeen (X + 1) = seen.push bn from iterSeen_of H7.out.it, show wr.iterSeen (X + 1) = seen from iterSeen_of HSW.out.it]
        exact left_dec l seen hxl'.out hxs2.out
end Go.Proofs.YtlpnecmcncekcaaGreat.Mk
