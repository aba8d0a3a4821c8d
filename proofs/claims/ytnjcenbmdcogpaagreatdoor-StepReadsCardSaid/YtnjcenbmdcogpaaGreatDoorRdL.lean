import Derived.Test.YtnjcenbmdcogpaaGreatDoorCommon
import Derived.Deep.AppendLies
import Derived.Test.YtnjcenbmdcogpaaGreatDoorRdAll
import Derived.WalkMore
/- Rows of the call's own, of whatever element: what leaves them as they are. -/
namespace Go.Proofs.YtnjcenbmdcogpaaGreatDoor.Msg
open Go Go.RowKit

theorem lt_blk {W : World} {g : Nat} {o : Obj} (h : W.heap[g]? = some o) : g < W.heap.size := (Array.getElem?_eq_some_iff.1 h).1
theorem own_formN {w : World} {base e n size : Nat} {v : Value} {xs : List Value} (h : w.ownsRow base e size v n xs) : ∃ A c, v = .slice A n c := by
  rcases h.2 with ⟨rfl, rfl⟩ | ⟨g, cap, cur, rfl, _⟩
  · exact ⟨none, 0, rfl⟩
  · exact ⟨_, _, rfl⟩

theorem own_blk_type {w : World} {base e n size k : Nat} {v : Value} {o : Obj} {zs : List Value} (h : w.ownsRow base e size v n zs) (hk : v.ownBlock = some k) (hb : w.heap[k]? = some o) : ∃ cs fr, o = .cells cs e fr := by
  rcases h.2 with ⟨rfl, _⟩ | ⟨g', cap, cur, rfl, _, hh, _⟩
  · cases hk
  · injection hk with hk
    subst hk
    rw [hh] at hb
    injection hb with hb
    exact ⟨_, _, hb.symm⟩
/-- A row behind a store or an append in a block of another type. -/
theorem own_other {w w' : World} {base e n size e' n' size' base' : Nat} {v v' : Value} {xs xs' : List Value} (h : w.ownsRow base e size v n xs) (h' : w.ownsRow base' e' size' v' n' xs') (hne : e ≠ e') (hg : w.grownBy w' v'.ownBlock) : w'.ownsRow base e size v n xs := by
  refine ⟨h.1, ?_⟩
  rcases h.2 with h2 | ⟨k, cap, cur, hv, hgb, hh, r⟩
  · exact .inl h2
  · refine .inr ⟨k, cap, cur, hv, hgb, (hg.block k (lt_blk hh) fun heq => ?_).trans hh, r⟩
    obtain ⟨cs, fr, ho⟩ := own_blk_type h' heq.symm hh
    injection ho with _ ht
    exact hne ht
theorem own_apart {w w' : World} {base e n size : Nat} {v : Value} {row : Option Nat} {xs : List Value} (h : w.ownsRow base e size v n xs) (hne : v.ownBlock = none ∨ v.ownBlock ≠ row) (hg : w.grownBy w' row) : w'.ownsRow base e size v n xs := by
  refine ⟨h.1, ?_⟩
  rcases h.2 with h2 | ⟨k, cap, cur, rfl, hgb, hh, r⟩
  · exact .inl h2
  · refine .inr ⟨k, cap, cur, rfl, hgb, (hg.block k (lt_blk hh) fun heq => ?_).trans hh, r⟩
    rcases hne with h1 | h1
    · cases h1
    · exact h1 heq
theorem own_setblk {w : World} {base e n size g i T : Nat} {v u : Value} {cs : Array Value} {fr : Nat × Nat} {xs : List Value} (h : w.ownsRow base e size v n xs) (hb : w.heap[g]? = some (.cells cs T fr)) (hT : T ≠ e) :
    (w.setCell ⟨g, i, none⟩ u).ownsRow base e size v n xs := by
  refine ⟨h.1, ?_⟩
  rcases h.2 with h2 | ⟨k, cap, cur, hv, hg, hh, r⟩
  · exact Or.inl h2
  · refine Or.inr ⟨k, cap, cur, hv, hg, (Below.heap_setCell _ _ _ _ fun e => ?_).trans hh, r⟩
    subst e
    rw [hh] at hb
    injection hb with hb
    injection hb with _ ht
    exact hT ht.symm
theorem own_belowN {w w' : World} {B base e size n : Nat} {v : Value} {xs : List Value} (h : w.ownsRow base e size v n xs) (hb : Below B w w') (hB : w.heap.size ≤ B) : w'.ownsRow base e size v n xs := own_below h (hb.mono hB)
theorem own_base {w : World} {base base' e size n : Nat} {v : Value} {xs : List Value} (h : w.ownsRow base' e size v n xs) (hB : base ≤ base') : w.ownsRow base e size v n xs := by
  refine ⟨h.1, ?_⟩
  rcases h.2 with h2 | ⟨k, cap, cur, hv, hg, r⟩
  · exact .inl h2
  · exact .inr ⟨k, cap, cur, hv, Nat.le_trans hB hg, r⟩
end Go.Proofs.YtnjcenbmdcogpaaGreatDoor.Msg
/- Rows of the call's own beside a reader: what stays. -/
namespace Go.Proofs.YtnjcenbmdcogpaaGreatDoor.Rd
open Go Go.RowKit

theorem own_ge {w : World} {base e n size k : Nat} {v : Value} {xs : List Value} (h : w.ownsRow base e size v n xs) (hk : v.ownBlock = some k) : base ≤ k := by
  rcases h.2 with ⟨hv, _⟩ | ⟨g, cap, cur, hv, hg, _⟩
  · rw [hv] at hk; simp [Value.ownBlock] at hk
  · rw [hv] at hk; simp [Value.ownBlock] at hk; omega
theorem Only.grown {R : Nat} {w w' : World} (h : Only R w w') : w.grownBy w' (some R) := ⟨h.os, h.tape, h.output, h.size, fun k hk hne => h.block k hk (fun e => hne (by rw [e]))⟩
theorem own_only {R : Nat} {w w' : World} {base e n size : Nat} {v : Value} {xs : List Value} (h : w.ownsRow base e size v n xs) (hO : Only R w w') (hR : R < base) : w'.ownsRow base e size v n xs :=
  Msg.own_apart h (.inr (fun hv => by have := own_ge h hv; omega)) hO.grown
theorem Only.push {R : Nat} {a wr w1 : World} {base e n size : Nat} {v : Value} {xs : List Value} (h : Only R a wr) (hown : wr.ownsRow base e size v n xs) (hb : a.heap.size ≤ base) (hg : wr.grownBy w1 v.ownBlock) : Only R a w1 :=
  ⟨hg.os.trans h.os, hg.tape.trans h.tape, hg.output.trans h.output, Nat.le_trans h.size hg.size, fun k hk hne => (hg.block k (Nat.lt_of_lt_of_le hk h.size) (fun hv => by have := own_ge hown hv.symm; omega)).trans (h.block k hk hne)⟩
theorem grown_off {w w1 : World} {g base e T n size : Nat} {v : Value} {cs : Array Value} {xs : List Value} (hb : w.heap[g]? = some (.cells cs T (0, 0))) (hg : w.grownBy w1 v.ownBlock) (hown : w.ownsRow base e size v n xs) (hT : T ≠ e) : w1.heap[g]? = some (.cells cs T (0, 0)) := by
  refine (hg.block g (Array.getElem?_eq_some_iff.1 hb).1 (fun hv => ?_)).trans hb
  obtain ⟨cs', fr, ho⟩ := Msg.own_blk_type hown hv.symm hb
  injection ho with _ h2 _
  exact hT h2
end Go.Proofs.YtnjcenbmdcogpaaGreatDoor.Rd
/- A reader's lists: list, List. -/
namespace Go.Proofs.YtnjcenbmdcogpaaGreatDoor.Rd
open Go Go.RowKit Num Texts

/-- n texts that are read one behind the other: all, or none and why -/
def textsN : Nat → ByteArray → List ByteArray × Int × ByteArray
  | 0, s => ([], 0, s)
  | n + 1, s => if (textR 18446744073709551615 s).2.1 ≠ 0 then ([], (textR 18446744073709551615 s).2) else if (textsN n (textR 18446744073709551615 s).2.2).2.1 ≠ 0 then ([], (textsN n (textR 18446744073709551615 s).2.2).2) else ((textR 18446744073709551615 s).1 :: (textsN n (textR 18446744073709551615 s).2.2).1, (textsN n (textR 18446744073709551615 s).2.2).2)
def listR (m : Nat) (s : ByteArray) : List ByteArray × Int × ByteArray := if (numR 18446744073709551615 s).2.1 ≠ 0 then ([], (numR 18446744073709551615 s).2) else if m < (numR 18446744073709551615 s).1 then ([], 4, (numR 18446744073709551615 s).2.2) else textsN (numR 18446744073709551615 s).1 (numR 18446744073709551615 s).2.2
def glue (xs : List ByteArray) (y : List ByteArray × Int × ByteArray) : List ByteArray × Int × ByteArray := if y.2.1 ≠ 0 then ([], y.2) else (xs ++ y.1, y.2)
theorem glue_nil : ∀ (n : Nat) (s : ByteArray), glue [] (textsN n s) = textsN n s
  | 0, s => rfl
  | n + 1, s => by
    unfold glue
    split
    · rename_i h
      unfold textsN at h ⊢
      split
      · rfl
      · rename_i h1
        rw [if_neg h1] at h
        split
        · rfl
        · rename_i h2; rw [if_neg h2] at h; exact absurd h h2
    · rfl
theorem glue_ok (xs : List ByteArray) (n : Nat) (s d s' : ByteArray) (h : textR 18446744073709551615 s = (d, 0, s')) : glue xs (textsN (n + 1) s) = glue (xs ++ [d]) (textsN n s') := by
  have e : textsN (n + 1) s = if (textsN n s').2.1 ≠ 0 then ([], (textsN n s').2) else (d :: (textsN n s').1, (textsN n s').2) := by
    rw [textsN, h]; rfl
  rw [e]
  unfold glue
  by_cases h0 : (textsN n s').2.1 ≠ 0
  · rw [if_pos h0, if_pos h0, if_pos h0]
  · rw [if_neg h0, if_neg h0, if_neg h0]; simp
theorem glue_bad (xs : List ByteArray) (n : Nat) (s d s' : ByteArray) (e : Int) (he : e ≠ 0) (h : textR 18446744073709551615 s = (d, e, s')) : glue xs (textsN (n + 1) s) = ([], e, s') := by
  have e1 : textsN (n + 1) s = ([], e, s') := by
    rw [textsN, h]; dsimp only; rw [if_pos he]
  rw [e1]
  unfold glue
  rw [if_pos he]
theorem glue_end (xs : List ByteArray) (s : ByteArray) : glue xs (textsN 0 s) = (xs, 0, s) := by
  unfold glue textsN
  rw [if_neg (by simp)]; simp
theorem infoS : (Tryz.prog.info? 9).map (fun i => (i.zero, i.size, i.bytes)) = some (some (.string ⟨#[]⟩), 1, 16) := by kernel_rfl
theorem news1 (W : World) (x : Value) (t : TypeId) : ∀ j u, [x][j]? = some u → (W.alloc (.cells #[x] t)).cell? ((⟨W.heap.size, 0, none⟩ : Addr).add j) = some u := by
  intro j u hj
  have : (⟨W.heap.size, 0, none⟩ : Addr).add j = ⟨W.heap.size, j, none⟩ := by unfold Addr.add; by_cases h : j = 0 <;> simp [h]
  rw [this, cell_of_row _ _ _ _ _ (0, 0) (heap_alloc_new W _), ← Array.getElem?_toList]
  exact hj

set_option maxRecDepth 20000 in
set_option maxHeartbeats 2000000 in
theorem list_any (R : Nat) (r : R2) (m : Nat) (hm : m ≤ 1000000) (hs : r.s.size ≤ 1099511627776) (W : World) (hR : Lies W R r) :
    Calls Tryz.prog 122 #[.pointer (some ⟨R, 0, none⟩), .int .u64 (m : Int)] W
      fun e w' => (∃ v, e = .returned (.tuple #[v, .int .i64 (listR m r.s).2.1]) ∧ w'.ownsRow W.heap.size 9 1 v (listR m r.s).1.length ((listR m r.s).1.map Value.string)) ∧ Lies w' R ⟨(listR m r.s).2.2, r.b⟩ ∧ Only R W w' := by
  obtain ⟨i0, hinf, hy0, hy1, hy2⟩ := info_parts infoS
  have hlt := (Array.getElem?_eq_some_iff.1 hR).1
  have hnum := number_any R r 18446744073709551615 (by decide) hs W hR
  have hsz := numR_rest 18446744073709551615 r.s
  have hv := numR_val 18446744073709551615 r.s
  obtain ⟨s, b⟩ := r
  have hl : listR m s = if (numR 18446744073709551615 s).2.1 ≠ 0 then ([], (numR 18446744073709551615 s).2) else if m < (numR 18446744073709551615 s).1 then ([], 4, (numR 18446744073709551615 s).2.2) else textsN (numR 18446744073709551615 s).1 (numR 18446744073709551615 s).2.2 := rfl
  dsimp only at hnum hsz hs hv ⊢
  generalize listR m s = L at *
  generalize numR 18446744073709551615 s = x at *
  obtain ⟨n, e, s1⟩ := x
  dsimp only at hnum hsz hl hv
  have HNum := Lib.hid hnum
  have HL := Lib.hid hl
  have HI := Lib.hid (And.intro hinf (And.intro hy0 (And.intro hy1 hy2)))
  clear hnum hl hR hinf hy0 hy1 hy2
  have hs1 : s1.size ≤ 1099511627776 := by omega
  have hvi : (n : Int) ≤ 18446744073709551615 := by omega
  go_enter Tryz.func122, Tryz.ntmps122
  go_wp2_with fail
  refine HNum.out.mono ?_
  rintro e1 w1 ⟨rfl, hR1, hO1⟩
  have HR1 := Lib.hid hR1
  have HO1 := Lib.hid hO1
  clear hR1 hO1 HNum
  by_cases he : e = 0
  · subst he
    by_cases hmn : m < n
    · have hmi : (m : Int) < (n : Int) := by omega
      have HL2 : Hid (L = ([], 4, s1)) := Lib.hid (by rw [HL.out, if_neg (by simp), if_pos hmn])
      clear hmn HL
      go_wp2
      go_ret2
      exact ⟨⟨.slice none 0 0, by rw [HL2.out]; rfl, by rw [HL2.out]; exact World.ownsRow_nil _ _ _ _⟩, by rw [HL2.out]; exact HR1.out, HO1.out⟩
    · have hmi : ¬ (m : Int) < (n : Int) := by omega
      have HL2 : Hid (L = textsN n s1) := Lib.hid (by rw [HL.out, if_neg (by simp), if_neg hmn])
      have hn6 : n ≤ 1000000 := by omega
      clear HL
      go_wp2
      go_loopw [6, 8] (fun i l wr => ∃ (j : Nat) (xs : List ByteArray) (s' : ByteArray), i = .int .u64 (j : Int) ∧ j ≤ n ∧ xs.length = n - j ∧ Hid (textsN n s1 = glue xs (textsN j s')) ∧ s'.size ≤ 1099511627776 ∧ Lies wr R ⟨s', b⟩ ∧ wr.ownsRow W.heap.size 9 1 l xs.length (xs.map Value.string) ∧ Only R W wr) (fun i _ _ => (intOf i).toNat)
      case atStart => exact ⟨n, [], s1, rfl, Nat.le_refl _, by simp, Lib.hid (glue_nil n s1).symm, hs1, HR1.out, World.ownsRow_nil _ _ _ _, HO1.out⟩
      case round =>
        obtain ⟨j, xs, s', rfl, hj, hxl, hG, hs', hR', hown, hO'⟩ := hrel
        obtain ⟨A1, c1, rfl⟩ := own_form hown
        by_cases hpos : 0 < j
        · obtain ⟨k, rfl⟩ : ∃ k, j = k + 1 := ⟨j - 1, by omega⟩
          have ht := text_any R ⟨s', b⟩ 18446744073709551615 hs' wr hR'
          have htr := textR_rest 18446744073709551615 s'
          dsimp only at ht
          have hok := fun d s'' h => glue_ok xs k s' d s'' h
          have hbd := fun d s'' e he h => glue_bad xs k s' d s'' e he h
          generalize textR 18446744073709551615 s' = y at *
          obtain ⟨d, e2, s2⟩ := y
          dsimp only at ht htr
          have HTx := Lib.hid ht
          have HOk := Lib.hid hok
          have HBd := Lib.hid hbd
          have HW := Lib.hid hown
          have HO := Lib.hid hO'
          have hp0 : (0 : Int) < (k : Int) + 1 := by omega
          have hp1 : (k : Int) + 1 ≤ 1000000 := by omega
          have HXL := Lib.hid (show xs.length = n - (k + 1) from hxl)
          have hxb : xs.length ≤ 1000000 := by omega
          clear ht hok hbd hown hO' hR' hxl
          go_wp2_with fail
          refine HTx.out.mono ?_
          rintro _ w2 ⟨rfl, hR2, hO2⟩
          have HW2 := Lib.hid (own_only HW.out hO2 hlt)
          have HO2 := Lib.hid (HO.out.trans hO2)
          have HR2 := Lib.hid hR2
          clear HTx HW HO hR2 hO2
          by_cases he2 : e2 = 0
          · subst he2
            have hsz2 : W.heap.size ≤ w2.heap.size := HO2.out.size
            go_wp2_with (at_builtin; refine wpList_append_own _ rfl _ _ 38 rfl W.heap.size 9 i0 (.string ⟨#[]⟩) 1 16 Tryz.underlying38 HI.out.1 HI.out.2.1 HI.out.2.2.1 HI.out.2.2.2 rfl (by decide) _ _ _ rfl (HW2.out.alloc _) ⟨w2.heap.size, 0, none⟩ 1 1 [.string d] rfl rfl (news1 w2 _ _) (one_one rfl) (by unfold maxLen; omega) (by omega) (by simp; omega) ?_; intro v3 w3 hown3 hg3 _)
            have hwa := HW2.out.alloc (.cells #[.string d] 9)
            have hR3 := grown_off ((Below.heap_alloc _ _ _ (Array.getElem?_eq_some_iff.1 HR2.out).1).trans HR2.out) hg3 hwa (by decide)
            have hO3 := (HO2.out.alloc _).push hwa (Nat.le_refl _) hg3
            refine ⟨⟨k, xs ++ [d], s2, by go_num, by omega, by rw [List.length_append, HXL.out]; simp; omega, Lib.hid (hG.out.trans (HOk.out d s2 rfl)), by omega, hR3, by rw [List.length_append, List.map_append]; exact hown3, hO3⟩, by simp [intOf]⟩
          · have he3 : (e2 == 0) = false := by simpa using he2
            have HX : Hid (L = ([], e2, s2)) := Lib.hid (by rw [HL2.out, hG.out]; exact HBd.out d s2 e2 he2 rfl)
            clear HL2 HOk HBd hG HXL hxb htr hn6 hj hp1 hp0 hvi hv hsz
            go_wp2
            go_ret2
            exact ⟨⟨.slice none 0 0, by rw [HX.out]; rfl, by rw [HX.out]; exact World.ownsRow_nil _ _ _ _⟩, by rw [HX.out]; exact HR2.out, HO2.out⟩
        · obtain rfl : j = 0 := by omega
          have HX : Hid (L = (xs, 0, s')) := Lib.hid (by rw [HL2.out, hG.out]; exact glue_end xs s')
          have HW := Lib.hid hown
          have HO := Lib.hid hO'
          have HR := Lib.hid hR'
          clear HL2 hown hO' hR'
          go_wp2
          go_ret2
          exact ⟨⟨.slice A1 xs.length c1, by rw [HX.out]; rfl, by rw [HX.out]; exact HW.out⟩, by rw [HX.out]; exact HR.out, HO.out⟩
  · have he2 : (e == 0) = false := by simpa using he
    have HL2 : Hid (L = ([], e, s1)) := Lib.hid (by rw [HL.out, if_pos he])
    go_wp2
    go_ret2
    exact ⟨⟨.slice none 0 0, by rw [HL2.out]; rfl, by rw [HL2.out]; exact World.ownsRow_nil _ _ _ _⟩, by rw [HL2.out]; exact HR1.out, HO1.out⟩
end Go.Proofs.YtnjcenbmdcogpaaGreatDoor.Rd
/- A reader's List. -/
namespace Go.Proofs.YtnjcenbmdcogpaaGreatDoor.Rd
open Go Go.RowKit Num Texts

def R2.list (r : R2) (m : Nat) : List ByteArray × R2 := if r.b = 0 then ((listR m r.s).1, R2.after (listR m r.s).2.1 (listR m r.s).2.2) else ([], r)
/-- the closure that List gives read: captured are the boxes of the reader, of the bound and of the result -/
def cloL (A : Nat) : Value := .func (.func 121) #[] #[.pointer (some ⟨A, 0, none⟩), .pointer (some ⟨A + 1, 0, none⟩), .pointer (some ⟨A + 1 + 1, 0, none⟩)]

set_option maxRecDepth 20000 in
set_option maxHeartbeats 1000000 in
theorem clol_any (R A : Nat) (r : R2) (m : Nat) (hm : m ≤ 1000000) (hs : r.s.size ≤ 1099511627776) (W : World) (hR : Lies W R r) (hlt : R < A)
    (hA : W.heap[A]? = some (.cells #[.pointer (some ⟨R, 0, none⟩)] 59 (0, 0))) (hB : W.heap[A + 1]? = some (.cells #[.int .i64 (m : Int)] 3 (0, 0))) (hC : W.heap[A + 1 + 1]? = some (.cells #[.slice none 0 0] 38 (0, 0))) :
    Calls Tryz.prog 121 #[.pointer (some ⟨A, 0, none⟩), .pointer (some ⟨A + 1, 0, none⟩), .pointer (some ⟨A + 1 + 1, 0, none⟩)] W
      fun e w' => e = .returned (.int .i64 (listR m r.s).2.1) ∧ ∃ v w1, w' = w1.setCell ⟨A + 1 + 1, 0, none⟩ v ∧ w1.ownsRow W.heap.size 9 1 v (listR m r.s).1.length ((listR m r.s).1.map Value.string) ∧ Lies w1 R ⟨(listR m r.s).2.2, r.b⟩ ∧ Only R W w1 := by
  have HN := Lib.hid (show Calls Tryz.prog 122 #[.pointer (some ⟨R, 0, none⟩), .int .u64 (m : Int)] W.drew fun e w' => (∃ v, e = .returned (.tuple #[v, .int .i64 (listR m r.s).2.1]) ∧ w'.ownsRow W.heap.size 9 1 v (listR m r.s).1.length ((listR m r.s).1.map Value.string)) ∧ Lies w' R ⟨(listR m r.s).2.2, r.b⟩ ∧ Only R W.drew w' from list_any R r m hm hs W.drew hR)
  have a0 := cell_at hA 0
  have b0 := cell_at hB 0
  have hzA := (Array.getElem?_eq_some_iff.1 hA).1
  have hzB := (Array.getElem?_eq_some_iff.1 hB).1
  have hzC := (Array.getElem?_eq_some_iff.1 hC).1
  have HC := Lib.hid hC
  have HS := Lib.hid (show ∀ W', Only R W.drew W' → W'.cell? ⟨A, 0, none⟩ = some (.pointer (some ⟨R, 0, none⟩)) ∧ W'.cell? ⟨A + 1, 0, none⟩ = some (.int .i64 (m : Int)) from fun W' h => ⟨cell_at ((h.block _ hzA (by omega)).trans hA) 0, cell_at ((h.block _ hzB (by omega)).trans hB) 0⟩)
  have a1 : W.drew.cell? ⟨A, 0, none⟩ = some (.pointer (some ⟨R, 0, none⟩)) := a0
  have b1 : W.drew.cell? ⟨A + 1, 0, none⟩ = some (.int .i64 (m : Int)) := b0
  clear a0 b0 hA hB hC hR
  go_enter Tryz.func121, Tryz.ntmps121
  go_upto_region 1 with fail
  refine wp_region_held_drew (S := (fun W' => W'.cell? ⟨A, 0, none⟩ = some (.pointer (some ⟨R, 0, none⟩)) ∧ W'.cell? ⟨A + 1, 0, none⟩ = some (.int .i64 (m : Int)))) (by kernel_rfl) ⟨a1, b1⟩ (fun hHeld => ?_)
  refine wpAnyH_take (i := 0) (oi := _) (v := ?_) rfl (by kernel_rfl) (by kernel_rfl) (by kernel_rfl) (fun _ _ _ h => h) (Or.inl ⟨by rfl, ?_⟩) (by assumption) ?_
  rotate_left
  · (intro W' hSw; have hq := hSw.1; clear hSw; go_simp; try with_reducible rfl)
  try simp only [Act.put, List.getElem_toArray, List.getElem_cons_zero, List.setIfInBounds_toArray, List.set_cons_zero, List.set_cons_succ]
  refine wpAnyH_take (i := 1) (oi := _) (v := ?_) rfl (by kernel_rfl) (by kernel_rfl) (by kernel_rfl) (fun _ _ _ h => h) (Or.inl ⟨by rfl, ?_⟩) (by assumption) ?_
  rotate_left
  · (intro W' hSw; have hq := hSw.2; clear hSw; go_simp; try with_reducible rfl)
  try simp only [Act.put, List.getElem_toArray, List.getElem_cons_succ, List.getElem_cons_zero, List.setIfInBounds_toArray, List.set_cons_zero, List.set_cons_succ]
  refine wpAnyH_ready (rs := [2]) (by kernel_rfl) (by simp) ?_
  refine AllReadyH.cons rfl (fun K hK => ?_) AllReadyH.nil
  simp only [List.getElem_toArray, List.getElem_cons_succ, List.getElem_cons_zero]
  rw [if_pos (by rfl)]
  go_simp
  (go_at_call 110; refine (limit_any m (by omega) _).mono ?_; rintro e w1 ⟨rfl, rfl⟩)
  go_wp2_with fail
  refine hK.out _ _ hHeld (fun hHeld => ?_)
  clear hK K
  try simp only [Act.put, List.getElem_toArray, List.getElem_cons_succ, List.getElem_cons_zero, List.setIfInBounds_toArray, List.set_cons_zero, List.set_cons_succ]
  refine wpAnyH_ready (rs := [3]) (by kernel_rfl) (by simp) ?_
  refine AllReadyH.cons rfl (fun K hK => ?_) AllReadyH.nil
  simp only [List.getElem_toArray, List.getElem_cons_succ, List.getElem_cons_zero]
  rw [if_pos (by rfl)]
  go_simp
  (go_at_call 122; refine (HN.out).mono ?_; rintro e w1 ⟨⟨v, rfl, hown⟩, hR1, hO⟩; obtain ⟨Av, cv, rfl⟩ := own_form hown; have hS1 := HS.out w1 hO)
  go_wp2_with fail
  refine hK.out _ _ hS1 (fun hHeld => ?_)
  clear hK K
  try simp only [Act.put, List.getElem_toArray, List.getElem_cons_succ, List.getElem_cons_zero, List.setIfInBounds_toArray, List.set_cons_zero, List.set_cons_succ]
  refine wpAnyH_take (i := 4) (oi := _) (v := ?_) rfl (by kernel_rfl) (by kernel_rfl) (by kernel_rfl) (fun _ _ _ h => h) (Or.inl ⟨by rfl, ?_⟩) (by assumption) ?_
  rotate_left
  · (intro W hSw; (try dsimp only at hSw); go_simp; try with_reducible rfl)
  try simp only [Act.put, List.getElem_toArray, List.getElem_cons_succ, List.getElem_cons_zero, List.setIfInBounds_toArray, List.set_cons_zero, List.set_cons_succ]
  refine wpAnyH_take (i := 5) (oi := _) (v := ?_) rfl (by kernel_rfl) (by kernel_rfl) (by kernel_rfl) (fun _ _ _ h => h) (Or.inl ⟨by rfl, ?_⟩) (by assumption) ?_
  rotate_left
  · (intro W hSw; (try dsimp only at hSw); go_simp; try with_reducible rfl)
  try simp only [Act.put, List.getElem_toArray, List.getElem_cons_succ, List.getElem_cons_zero, List.setIfInBounds_toArray, List.set_cons_zero, List.set_cons_succ]
  refine wpAnyH_take (i := 6) (oi := _) (v := ?_) rfl (by kernel_rfl) (by kernel_rfl) (by kernel_rfl) (fun _ _ _ h => h) (Or.inl ⟨by rfl, ?_⟩) (by assumption) ?_
  rotate_left
  · (intro W hSw; (try dsimp only at hSw); go_simp; try with_reducible rfl)
  try simp only [Act.put, List.getElem_toArray, List.getElem_cons_succ, List.getElem_cons_zero, List.setIfInBounds_toArray, List.set_cons_zero, List.set_cons_succ]
  have hC1 := (hO.block _ hzC (by omega)).trans HC.out
  have c1 : w1.cell? ⟨A + 1 + 1, 0, none⟩ = some (.slice none 0 0) := cell_at hC1 0
  have f1 := free_at hC1 0
  refine wpAnyH_ready (rs := [7]) (by kernel_rfl) (by simp) ?_
  refine AllReadyH.cons rfl (fun K hK => ?_) AllReadyH.nil
  simp only [List.getElem_toArray, List.getElem_cons_succ, List.getElem_cons_zero]
  rw [if_pos (by rfl)]
  go_simp
  refine hK.out _ _ (by have h2 := HS.out w1 hO; exact ⟨(cell_off h2.1 (by omega)), (cell_off h2.2 (by omega))⟩) (fun hHeld => ?_)
  clear hK K
  try simp only [Act.put, List.getElem_toArray, List.getElem_cons_succ, List.getElem_cons_zero, List.setIfInBounds_toArray, List.set_cons_zero, List.set_cons_succ]
  refine wpAnyH_take (i := 8) (oi := _) (v := ?_) rfl (by kernel_rfl) (by kernel_rfl) (by kernel_rfl) (fun _ _ _ h => h) (Or.inl ⟨by rfl, ?_⟩) (by assumption) ?_
  rotate_left
  · (intro W hSw; (try dsimp only at hSw); go_simp; try with_reducible rfl)
  try simp only [Act.put, List.getElem_toArray, List.getElem_cons_succ, List.getElem_cons_zero, List.setIfInBounds_toArray, List.set_cons_zero, List.set_cons_succ]
  refine wpAnyH_done (by kernel_rfl) ?_ _
  go_wp2
  go_ret
  exact ⟨rfl, _, w1, rfl, hown, hR1, ((Only.refl R W).drew).trans hO⟩

set_option maxRecDepth 20000 in
set_option maxHeartbeats 1000000 in
theorem readl_any {w0 : World} (R A : Nat) (r : R2) (m : Nat) (hm : m ≤ 1000000) (hs : r.s.size ≤ 1099511627776) (W : World) (hR : Lies W R r) (hlt : R < A) (hw : w0.heap.size ≤ A) (h0 : Only R w0 W)
    (hA : W.heap[A]? = some (.cells #[.pointer (some ⟨R, 0, none⟩)] 59 (0, 0))) (hB : W.heap[A + 1]? = some (.cells #[.int .i64 (m : Int)] 3 (0, 0))) (hC : W.heap[A + 1 + 1]? = some (.cells #[.slice none 0 0] 38 (0, 0))) :
    Calls Tryz.prog 72 #[.pointer (some ⟨R, 0, none⟩), cloL A] W
      fun e w' => e = .returned (.tuple #[]) ∧ Lies w' R (r.list m).2 ∧ (∃ v, w'.heap[A + 1 + 1]? = some (.cells #[v] 38 (0, 0)) ∧ w'.ownsRow A 9 1 v (r.list m).1.length ((r.list m).1.map Value.string)) ∧ Only R w0 w' := by
  have HN := Lib.hid (clol_any R A r m hm hs W hR hlt hA hB hC)
  have HC := Lib.hid hC
  have HR := Lib.hid hR
  have H0 := Lib.hid h0
  have hzC := (Array.getElem?_eq_some_iff.1 hC).1
  obtain ⟨s, b⟩ := r
  have c0 : W.cell? ⟨R, 0, none⟩ = some (.string s) := cell_at hR 0
  have c1 : W.cell? ⟨R, 1, none⟩ = some (.int .i64 b) := cell_at hR 1
  clear hA hB hC hR h0
  unfold cloL
  by_cases hb : b = 0
  · subst hb
    have hnum : (⟨s, 0⟩ : R2).list m = ((listR m s).1, R2.after (listR m s).2.1 (listR m s).2.2) := by unfold R2.list; rw [if_pos rfl]
    dsimp only at HN
    generalize listR m s = x at *
    obtain ⟨n, e, s1⟩ := x
    dsimp only at HN hnum
    have HX := Lib.hid hnum
    clear hnum
    go_enter Tryz.func72, Tryz.ntmps72
    go_wp2_with fail
    refine HN.out.mono ?_
    rintro e1 w1 ⟨rfl, v, w2, rfl, hown2, hR2, hO2⟩
    obtain ⟨Av, cv, rfl⟩ := own_form hown2
    clear c0 c1
    have hC2 := (hO2.block _ hzC (by omega)).trans HC.out
    have hne : R ≠ A + 1 + 1 := by omega
    have hW3 := Msg.own_setblk (i := 0) (u := .slice Av n.length cv) (Msg.own_base hown2 (show A ≤ W.heap.size by omega)) hC2 (by decide)
    have hR3 := set_off (i := 0) hR2 hne (.slice Av n.length cv)
    have hC3 := set_at hC2 0 (.slice Av n.length cv)
    have hO3 : Only R w0 (w2.setCell ⟨A + 1 + 1, 0, none⟩ (.slice Av n.length cv)) := (H0.out.trans hO2).setNew (by omega) _ _
    obtain ⟨w3, hw3⟩ : ∃ w3, w3 = w2.setCell ⟨A + 1 + 1, 0, none⟩ (.slice Av n.length cv) := ⟨_, rfl⟩
    rw [← hw3] at hR3 hC3 hO3 hW3 ⊢
    have c1 : w3.cell? ⟨R, 1, none⟩ = some (.int .i64 0) := cell_at hR3 1
    have c0 : w3.cell? ⟨R, 0, none⟩ = some (.string s1) := cell_at hR3 0
    have f1 := free_at hR3 1
    have f0 := free_at hR3 0
    have HR3 := Lib.hid hR3
    have HC3 := Lib.hid (show w3.heap[A + 1 + 1]? = some (.cells #[.slice Av n.length cv] 38 (0, 0)) from hC3)
    have HW3 := Lib.hid hW3
    have HO3 := Lib.hid hO3
    clear hw3 hR3 hC3 hO3 hC2 hR2 hO2 HC HR HN hW3 hown2
    by_cases he : e = 0
    · subst he
      go_wp2
      refine bodyPost_end (results_none rfl _ _ _) rfl ?_
      exact ⟨rfl, by rw [HX.out]; exact set_at HR3.out 1 _, ⟨_, set_off HC3.out (by omega) _, by rw [HX.out]; exact Msg.own_setblk HW3.out HR3.out (by decide)⟩, HO3.out.set 1 _⟩
    · have he2 : (e == 0) = false := by simpa using he
      go_wp2
      refine bodyPost_end (results_none rfl _ _ _) rfl ?_
      refine ⟨rfl, ?_, ?_, (HO3.out.set 1 _).set 0 _⟩
      · rw [HX.out, show R2.after e s1 = ⟨⟨#[]⟩, e⟩ by unfold R2.after; rw [if_neg he]]
        exact set_at (set_at HR3.out 1 _) 0 _
      · exact ⟨_, set_off (set_off HC3.out (by omega) _) (by omega) _, by rw [HX.out]; exact Msg.own_setblk (Msg.own_setblk HW3.out HR3.out (by decide)) (set_at HR3.out 1 _) (by decide)⟩
  · have hb2 : (b == 0) = false := by simpa using hb
    have hnum : (⟨s, b⟩ : R2).list m = ([], ⟨s, b⟩) := by unfold R2.list; rw [if_neg hb]
    have HX := Lib.hid hnum
    clear hnum
    go_enter Tryz.func72, Tryz.ntmps72
    go_wp2
    refine bodyPost_ret (results_none rfl _ _ _) rfl ?_
    exact ⟨rfl, by rw [HX.out]; exact HR.out, ⟨_, HC.out, by rw [HX.out]; exact World.ownsRow_nil _ _ _ _⟩, H0.out⟩

set_option maxRecDepth 20000 in
set_option maxHeartbeats 1000000 in
/-- List of a reader -/
theorem rlist_any (R : Nat) (r : R2) (m : Nat) (hm : m ≤ 1000000) (hs : r.s.size ≤ 1099511627776) (W : World) (hR : Lies W R r) :
    Calls Tryz.prog 83 #[.pointer (some ⟨R, 0, none⟩), .int .i64 (m : Int)] W
      fun e w' => (∃ v, e = .returned v ∧ w'.ownsRow W.heap.size 9 1 v (r.list m).1.length ((r.list m).1.map Value.string)) ∧ Lies w' R (r.list m).2 ∧ Only R W w' := by
  have hlt := (Array.getElem?_eq_some_iff.1 hR).1
  obtain ⟨W3, hW3⟩ : ∃ W3, W3 = ((W.alloc (.cells #[.pointer (some ⟨R, 0, none⟩)] 59)).alloc (.cells #[.int .i64 (m : Int)] 3)).alloc (.cells #[.slice none 0 0] 38) := ⟨_, rfl⟩
  have hA : W3.heap[W.heap.size]? = some (.cells #[.pointer (some ⟨R, 0, none⟩)] 59 (0, 0)) := by
    rw [hW3, Below.heap_alloc _ _ _ (by simp; omega), Below.heap_alloc _ _ _ (by simp)]; exact heap_alloc_new _ _
  have hB : W3.heap[W.heap.size + 1]? = some (.cells #[.int .i64 (m : Int)] 3 (0, 0)) := by
    rw [hW3, Below.heap_alloc _ _ _ (by simp)]
    have := heap_alloc_new (W.alloc (.cells #[.pointer (some ⟨R, 0, none⟩)] 59)) (.cells #[.int .i64 (m : Int)] 3)
    simpa using this
  have hC : W3.heap[W.heap.size + 1 + 1]? = some (.cells #[.slice none 0 0] 38 (0, 0)) := by
    have := heap_alloc_new ((W.alloc (.cells #[.pointer (some ⟨R, 0, none⟩)] 59)).alloc (.cells #[.int .i64 (m : Int)] 3)) (.cells #[.slice none 0 0] 38)
    rw [hW3]
    simpa using this
  have hO : Only R W W3 := by rw [hW3]; exact (((Only.refl R W).alloc _).alloc _).alloc _
  have hR3 : Lies W3 R r := by
    rw [hW3]; unfold Lies
    rw [Below.heap_alloc _ _ _ (by simp; omega), Below.heap_alloc _ _ _ (by simp; omega), Below.heap_alloc _ _ _ hlt]; exact hR
  have HN := Lib.hid (readl_any (w0 := W) R W.heap.size r m hm hs W3 hR3 hlt (Nat.le_refl _) hO hA hB hC)
  have ca : W3.cell? ⟨W.heap.size, 0, none⟩ = some (.pointer (some ⟨R, 0, none⟩)) := cell_at hA 0
  have CA := Lib.hid ca
  clear hA hB hC hO hR3 ca hR
  unfold cloL at HN
  go_enter Tryz.func83, Tryz.ntmps83
  go_upto_region 1 with fail
  rw [← hW3]
  have ca := CA.out
  clear hW3 CA
  go_wp2_with fail
  refine HN.out.mono ?_
  rintro e w1 ⟨rfl, hR1, ⟨v, hC1, hown1⟩, hO1⟩
  obtain ⟨Av, cv, rfl⟩ := own_form hown1
  have HW1 := Lib.hid hown1
  clear hown1
  have c1 : w1.cell? ⟨W.heap.size + 1 + 1, 0, none⟩ = some (.slice Av (r.list m).1.length cv) := cell_at hC1 0
  have f1 := free_at hC1 0
  have HR1 := Lib.hid hR1
  have HC1 := Lib.hid hC1
  have HO1 := Lib.hid hO1
  clear hR1 hC1 hO1 ca HN
  go_wp2_with fail
  have c2 : (w1.setCell ⟨W.heap.size + 1 + 1, 0, none⟩ (.slice Av (r.list m).1.length cv)).cell? ⟨W.heap.size + 1 + 1, 0, none⟩ = some (.slice Av (r.list m).1.length cv) := cell_at (set_at HC1.out 0 _) 0
  refine bodyPost_ret (v := .slice Av (r.list m).1.length cv) (by simp [results, Tryz.results83, go_sem, c2]) rfl ?_
  exact ⟨⟨_, rfl, Msg.own_setblk HW1.out HC1.out (by decide)⟩, set_off HR1.out (by omega) _, HO1.out.setNew (by omega) _ _⟩
end Go.Proofs.YtnjcenbmdcogpaaGreatDoor.Rd
/- Sizes of what a reader's List reads; an own row of texts reads as texts. -/
namespace Go.Proofs.YtnjcenbmdcogpaaGreatDoor.Rd
open Go Go.RowKit Num Texts

theorem textR_size (m : Nat) (s : ByteArray) : (textR m s).1.size ≤ s.size := by
  have := numR_rest 18446744073709551615 s
  unfold textR
  dsimp only
  split
  · exact Nat.zero_le _
  · split
    · exact Nat.zero_le _
    · split
      · exact Nat.zero_le _
      · show ((numR 18446744073709551615 s).2.2.extract _ _).size ≤ _
        rw [ByteArray.size_extract]; omega
theorem textsN_size : ∀ (n : Nat) (s : ByteArray), (textsN n s).1.length ≤ n ∧ ∀ x ∈ (textsN n s).1, x.size ≤ s.size
  | 0, s => ⟨Nat.le_refl _, fun x hx => by simp [textsN] at hx⟩
  | n + 1, s => by
    have h1 := textR_size 18446744073709551615 s
    have h2 := textR_rest 18446744073709551615 s
    have h3 := textsN_size n (textR 18446744073709551615 s).2.2
    unfold textsN
    split
    · exact ⟨Nat.zero_le _, fun x hx => by simp at hx⟩
    · split
      · exact ⟨Nat.zero_le _, fun x hx => by simp at hx⟩
      · refine ⟨by simp only [List.length_cons]; omega, fun x hx => ?_⟩
        rcases List.mem_cons.1 hx with rfl | hx
        · exact h1
        · have := h3.2 x hx; omega
theorem listR_size (m : Nat) (s : ByteArray) : (listR m s).1.length ≤ m ∧ ∀ x ∈ (listR m s).1, x.size ≤ s.size := by
  have h1 := numR_rest 18446744073709551615 s
  unfold listR
  split
  · exact ⟨Nat.zero_le _, fun x hx => by simp at hx⟩
  · split
    · exact ⟨Nat.zero_le _, fun x hx => by simp at hx⟩
    · have h3 := textsN_size (numR 18446744073709551615 s).1 (numR 18446744073709551615 s).2.2
      exact ⟨by have := h3.1; omega, fun x hx => by have := h3.2 x hx; omega⟩
theorem R2.list_size (r : R2) (m : Nat) : (r.list m).1.length ≤ m ∧ ∀ x ∈ (r.list m).1, x.size ≤ r.s.size := by
  unfold R2.list
  split
  · exact listR_size m r.s
  · exact ⟨Nat.zero_le _, fun x hx => by simp at hx⟩
/-- an own row of texts reads as texts -/
theorem own_rds {W : World} {base c : Nat} {A : Option Addr} {xs : List ByteArray} (h : W.ownsRow base 9 1 (.slice A xs.length c) xs.length (xs.map Value.string)) : RdS W A xs.length xs := by
  refine ⟨rfl, fun hl => ?_⟩
  rcases h.2 with ⟨_, h0⟩ | ⟨g, cap, cur, hv, _, hh, hc, _, hsz, htk⟩
  · have : xs = [] := by simpa using h0
    subst this; simp at hl
  · injection hv with hA _ hcc
    subst hA
    refine ⟨g, 0, rfl, (Array.getElem?_eq_some_iff.1 hh).1, fun i hi => ?_⟩
    rw [cell_of_row W g _ cur _ (0, 0) hh, ← Array.getElem?_toList]
    have h1 : (cur.toList.take (xs.length * 1))[0 + i]? = cur.toList[0 + i]? := List.getElem?_take_of_lt (by omega)
    rw [← h1, htk, Nat.zero_add, List.getElem?_map, List.getD_eq_getElem?_getD, List.getElem?_eq_getElem hi]; rfl
end Go.Proofs.YtnjcenbmdcogpaaGreatDoor.Rd
