import Derived.Test.YtpakefgbjncdiacDoorTxnMath
import Derived.Deep.RegionHeld3
import Derived.Deep.RegionWith
import Derived.Test.YtpakefgbjncdiacDoorTxnPut
import Derived.Test.YtpakefgbjncdiacDoorMsgMath
import Derived.Test.YtpakefgbjncdiacDoorMsgOpen1
/- Are messages, transactions the same? The page's answers. -/
namespace Go.Proofs.YtpakefgbjncdiacDoor.Msg
open Go Go.RowKit

theorem neq_run (x y : M7) (w : World) : (binOp .neq 42 (.agg #[.int .i64 x.k, .int .i64 x.c, .int .i64 x.f, .int .u64 x.s, .int .u64 x.t, .string x.d, .string x.a]) (.agg #[.int .i64 y.k, .int .i64 y.c, .int .i64 y.f, .int .u64 y.s, .int .u64 y.t, .string y.d, .string y.a])).run Tryd.prog w = .ok (.bool (!same x y)) w := by
  unfold same
  go_simp
  repeat' split
  all_goals simp_all

theorem msame_step (xs ys : List M7) (k : Nat) (h1 : k < xs.length) (h2 : k < ys.length) : msame (xs.drop k) (ys.drop k) = (same (xs.getD k m0) (ys.getD k m0) && msame (xs.drop (k + 1)) (ys.drop (k + 1))) := by
  rw [drop_getD xs k h1, drop_getD ys k h2, msame]

set_option maxHeartbeats 2000000 in
theorem sm_any (A B : Option Addr) (n m c d : Nat) (xs ys : List M7) (w : World) (hn : n ≤ 9223372036854775807) (hm : m ≤ 9223372036854775807) (ha : Rd w A n xs) (hb : Rd w B m ys) :
    Calls Tryd.prog 27 #[.slice A n c, .slice B m d] w fun e w' => e = .returned (.bool (msame xs ys)) ∧ Below w.heap.size w w' := by
  by_cases hnm : n = m
  · subst hnm
    have HA := Lib.hid (And.intro ha hb)
    have hl1 := Lib.hid (And.intro ha.1 hb.1)
    clear ha hb
    go_enter Tryd.func27, Tryd.ntmps27
    go_wp2
    go_loopw [5] (fun i wr => ∃ k : Nat, i = .int .i64 (k : Int) ∧ k ≤ n ∧ Hid (msame xs ys = msame (xs.drop k) (ys.drop k)) ∧ ∃ q, wr = w.drewN q) (fun i _ => n - (intOf i).toNat)
    case atStart => exact ⟨0, rfl, Nat.zero_le _, Lib.hid rfl, 0, rfl⟩
    case round =>
      obtain ⟨k, rfl, hk, hp, q, rfl⟩ := hrel
      by_cases hlt : k < n
      · obtain ⟨b, off, hA, _, hc⟩ := HA.out.1.at (Below.refl _ w) (by omega)
        obtain ⟨b', off', hB, _, hc'⟩ := HA.out.2.at (Below.refl _ w) (by omega)
        subst hA hB
        have hck := hc k hlt
        have hck' := hc' k hlt
        have HS := Lib.hid (msame_step xs ys k (by have := hl1.out.1; omega) (by have := hl1.out.2; omega))
        clear hc hc'
        generalize xs.getD k m0 = m at hck HS
        generalize ys.getD k m0 = m' at hck' HS
        obtain ⟨c0, c1, c2, c3, c4, c5, c6⟩ := hck
        obtain ⟨d0, d1, d2, d3, d4, d5, d6⟩ := hck'
        have hne := neq_run m m'
        have hi0 : (0 : Int) ≤ (k : Int) := by omega
        have hi1 : (k : Int) < (n : Int) := by omega
        cases hs : same m m' with
        | true =>
          rw [hs] at hne
          have HS2 := Lib.hid (show msame (xs.drop k) (ys.drop k) = msame (xs.drop (k + 1)) (ys.drop (k + 1)) by rw [HS.out, hs]; rfl)
          clear hs
          go_wp2
          go_quiet (fail)
          go_wp2
          exact ⟨⟨k + 1, by go_num, by omega, Lib.hid (hp.out.trans HS2.out), _, rfl⟩, by simp [intOf]; omega⟩
        | false =>
          rw [hs] at hne
          have HS2 := Lib.hid (show msame xs ys = false by rw [hp.out, HS.out, hs]; rfl)
          clear hs
          go_wp2
          go_quiet (fail)
          go_wp2
          go_ret
          exact ⟨by rw [HS2.out]; rfl, below_drewN (below_drewN (Below.refl _ _) _) _⟩
      · obtain rfl : k = n := by omega
        go_wp2
        go_ret
        refine ⟨?_, below_drewN (Below.refl _ _) _⟩
        have h1 : xs.drop k = [] := List.drop_of_length_le (by have := hl1.out.1; omega)
        have h2 : ys.drop k = [] := List.drop_of_length_le (by have := hl1.out.2; omega)
        rw [hp.out, h1, h2]
        rfl
  · have hnmi : ¬ (n : Int) = (m : Int) := by omega
    have hne : ((n : Int) == (m : Int)) = false := by simpa using hnmi
    have hne2 : ((n : Int) != (m : Int)) = true := by simpa using hnmi
    have HS := Lib.hid (msame_len (xs := xs) (ys := ys) (by rw [ha.1, hb.1]; exact hnm))
    clear ha hb
    go_enter Tryd.func27, Tryd.ntmps27
    go_wp2
    go_ret
    exact ⟨by rw [HS.out]; rfl, Below.refl _ _⟩

set_option maxRecDepth 100000 in
set_option maxHeartbeats 2000000 in
theorem rsame_any (a b : T4) (w : World) (ha : Rd w a.A a.len a.ms) (hb : Rd w b.A b.len b.ms) (hla : a.len ≤ 9223372036854775807) (hlb : b.len ≤ 9223372036854775807) :
    Calls Tryd.prog 13 #[.agg #[.int .i64 a.side, .int .i64 a.acc, .int .u64 a.n, .slice a.A a.len a.cap], .agg #[.int .i64 b.side, .int .i64 b.acc, .int .u64 b.n, .slice b.A b.len b.cap]] w fun e w' => e = .returned (.bool (tsame a b)) ∧ Below w.heap.size w w' := by
  have hB : ∀ o o', Below w.heap.size w ((w.alloc o).alloc o') := fun o o' => ((Below.refl _ _).alloc (Nat.le_refl _) _).alloc (by simp) _
  have H1 := Lib.hid fun o o' => ha.below (hB o o')
  have H2 := Lib.hid fun o o' => hb.below (hB o o')
  clear ha hb
  by_cases h0 : a.side = b.side
  · by_cases h1 : a.acc = b.acc
    · by_cases h2 : a.n = b.n
      · have HT := Lib.hid (show tsame a b = msame a.ms b.ms by simp [tsame, h0, h1, h2])
        have e0 : (a.side == b.side) = true := by simpa using h0
        have e1 : (a.acc == b.acc) = true := by simpa using h1
        have e2 : (a.n == b.n) = true := by simpa using h2
        clear h0 h1 h2
        go_enter Tryd.func13, Tryd.ntmps13
        go_wp2_with fail
        refine (sm_any a.A b.A a.len b.len a.cap b.cap a.ms b.ms _ hla hlb (H1.out _ _) (H2.out _ _)).mono ?_
        rintro e w1 ⟨rfl, hb⟩
        have HB := Lib.hid ((hB _ _).trans (hb.mono (by simp; omega)))
        clear hb hB
        go_wp2
        go_ret
        exact ⟨by rw [HT.out]; rfl, HB.out⟩
      · have HT := Lib.hid (show tsame a b = false by simp [tsame, h2])
        have e0 : (a.side == b.side) = true := by simpa using h0
        have e1 : (a.acc == b.acc) = true := by simpa using h1
        have e2 : (a.n == b.n) = false := by simpa using h2
        clear h0 h1 h2
        go_enter Tryd.func13, Tryd.ntmps13
        go_wp2
        go_ret
        exact ⟨by rw [HT.out]; rfl, hB _ _⟩
    · have HT := Lib.hid (show tsame a b = false by simp [tsame, h1])
      have e0 : (a.side == b.side) = true := by simpa using h0
      have e1 : (a.acc == b.acc) = false := by simpa using h1
      clear h0 h1
      go_enter Tryd.func13, Tryd.ntmps13
      go_wp2
      go_ret
      exact ⟨by rw [HT.out]; rfl, hB _ _⟩
  · have HT := Lib.hid (show tsame a b = false by simp [tsame, h0])
    have e0 : (a.side == b.side) = false := by simpa using h0
    clear h0
    go_enter Tryd.func13, Tryd.ntmps13
    go_wp2
    go_ret
    exact ⟨by rw [HT.out]; rfl, hB _ _⟩

end Go.Proofs.YtpakefgbjncdiacDoor.Msg
/- The page's example of txn. -/
namespace Go.Proofs.YtpakefgbjncdiacDoor.txnApart
open Go Go.RowKit Msg Num Texts
open Packet (P5 textB)

theorem ex_bytes : tB 1 2 3 [] = ⟨#[1, 1, 1, 2, 1, 3, 0]⟩ := by
  have dig_small : ∀ {m : Nat}, m ≠ 0 → m < 256 → dig m = [(m : Int)] := fun {m} h0 h => by
    rw [dig_pos h0, Nat.div_eq_of_lt h, dig_zero, Nat.mod_eq_of_lt h]; rfl
  have n1 : numS 1 = ⟨#[1, 1]⟩ := by unfold numS; rw [dig_small (by decide) (by decide)]; simp [strOfNums]; rfl
  have n2 : numS 2 = ⟨#[1, 2]⟩ := by unfold numS; rw [dig_small (by decide) (by decide)]; simp [strOfNums]; rfl
  have n3 : numS 3 = ⟨#[1, 3]⟩ := by unfold numS; rw [dig_small (by decide) (by decide)]; simp [strOfNums]; rfl
  have n0 : numS 0 = ⟨#[0]⟩ := by simp [numS, dig_zero, strOfNums]; rfl
  have k1 : kS 1 = ⟨#[1, 1]⟩ := n1
  have k2 : kS 2 = ⟨#[1, 2]⟩ := n2
  have k3 : kS 3 = ⟨#[1, 3]⟩ := n3
  have k0 : kS (([] : List M7).length : Int) = ⟨#[0]⟩ := n0
  simp only [tB, k1, k2, k3, k0]
  rfl

set_option maxHeartbeats 1000000 in
theorem awake_any (w : World) : Calls Tryd.prog 5 #[] w fun e w' => e = .returned (.bool true) ∧ Below w.heap.size w w' := by
  have hp := fun W => txput_yes ⟨1, 2, 3, none, 0, 0, []⟩ W ⟨rfl, fun h => absurd h (by decide)⟩ ⟨by decide, by decide⟩ (fun m hm => by simp at hm) (by decide)
  simp only [ex_bytes] at hp
  have HP := Lib.hid hp
  clear hp
  go_enter Tryd.func5, Tryd.ntmps5
  go_wp2_with fail
  refine (HP.out _).mono ?_
  rintro e w1 ⟨rfl, b1⟩
  go_wp2
  go_ret
  exact ⟨rfl, b1⟩

end Go.Proofs.YtpakefgbjncdiacDoor.txnApart
/- A message that came in: opened to its fields, with the bounds of its numbers. -/
namespace Go.Proofs.YtpakefgbjncdiacDoor.Msg
open Go Go.RowKit Go.Deep Go.WideShapes

section
variable {H : Type} {enc : TypeId × Value → H} {w : World} {base : Nat} {spare : Nat → Bool} {held : Bool}
set_option maxRecDepth 100000 in
theorem open_msg_wf {fuel : Nat} {cs : List Value} {x : DataW H × List MemPlace} (h : DataW.trod enc Tryd.prog w base spare held fuel 42 cs = some x) :
    ∃ m : M7, cs = m.cells.toList ∧ m.wf := by
  obtain ⟨xs, n, _, _, hcl, hlen, hf⟩ := DataW.trod_struct Tryd.underlying42 h
  rw [cells_msg] at hcl
  obtain ⟨y0, h0⟩ := field_at hlen hf 0 _ rfl rfl
  obtain ⟨y1, h1⟩ := field_at hlen hf 1 _ rfl rfl
  obtain ⟨y2, h2⟩ := field_at hlen hf 2 _ rfl rfl
  obtain ⟨a0, e0, _, w0⟩ := DataW.trod_int Tryd.underlying3 h0
  obtain ⟨c, f, s, t, d, e1, wc, wf, ws, wt, wd⟩ := open_packet h1
  obtain ⟨a2, e2, _, w2⟩ := DataW.trod_string Tryd.underlying9 h2
  have ws' : 0 ≤ s ∧ s < 18446744073709551616 := by
    simp [Lit.wf, IntKind.min, IntKind.max, IntKind.bits, IntKind.signed] at ws
    omega
  have wt' : 0 ≤ t ∧ t < 18446744073709551616 := by
    simp [Lit.wf, IntKind.min, IntKind.max, IntKind.bits, IntKind.signed] at wt
    omega
  refine ⟨⟨a0, c, f, s, t, d, a2⟩, ?_, ws'.1, ws'.2, wt'.1, wt'.2, wd⟩
  have e0' : (cs.drop 0).take 1 = [.int .i64 a0] := e0
  have e1' : (cs.drop 1).take 5 = [.int .i64 c, .int .i64 f, .int .u64 s, .int .u64 t, .string d] := e1
  have e2' : (cs.drop 6).take 1 = [.string a2] := e2
  match cs, hcl with
  | [b0, b1, b2, b3, b4, b5, b6], _ =>
    simp at e0' e1' e2'
    obtain ⟨rfl, rfl, rfl, rfl, rfl⟩ := e1'
    subst e0' e2'
    rfl


set_option maxRecDepth 100000 in
theorem open_msg_wf_val {r : Reach} {b0 : Nat} {v : Value} {d : DataW H} {p : List MemPlace} (ok : Value.okWide Tryd.prog w r b0 42 v) (h : DataW.Trod enc Tryd.prog w base spare held 42 v d p) : ∃ m : M7, v = .agg m.cells ∧ m.wf := by
  obtain ⟨cs, rfl, _⟩ := okWide_struct Tryd.underlying42 ok
  obtain ⟨fuel, hf⟩ := h
  obtain ⟨m, hm, hw⟩ := open_msg_wf (cs := cs.toList) hf
  exact ⟨m, congrArg Value.agg (Array.toList_inj.1 hm), hw⟩
end
end Go.Proofs.YtpakefgbjncdiacDoor.Msg
/- Transactions that came in: opened to their fields, with the bounds of their messages' numbers. -/
namespace Go.Proofs.YtpakefgbjncdiacDoor.Msg
open Go Go.RowKit Go.Deep Go.WideShapes

section
variable {H : Type} {enc : TypeId × Value → H} {w : World} {base : Nat} {spare : Nat → Bool} {held : Bool}
set_option maxRecDepth 100000 in
theorem open_msgs_wf {fuel : Nat} {cs : List Value} {x : DataW H × List MemPlace} (hf : DataW.trod enc Tryd.prog w base spare held fuel 23 cs = some x) :
    ∃ A len cap ms, cs = [.slice A len cap] ∧ len ≤ cap ∧ cap ≤ maxLen ∧ Rd w A len ms ∧ ∀ m ∈ ms, m.wf := by
  rcases open_slice Tryd.underlying23 hf with ⟨hcs, _⟩ | ⟨a, len', cap', m, n, D, Pl, hcs, hb, hl, hm, hmm, hx, hi⟩
  · exact ⟨none, 0, 0, [], hcs, by decide, by decide, ⟨rfl, fun h => absurd h (by omega)⟩, fun m hm => by simp at hm⟩
  · have hml : len' ≤ m := by rw [hmm]; split <;> omega
    have hex : ∀ i : Nat, ∃ q : M7, q.wf ∧ (i < len' → w.cells? base (a.add (i * 7)) 7 = some q.cells.toList) := fun i => by
      by_cases hil : i < len'
      · obtain ⟨cs', hc, ht⟩ := hi i (by omega)
        rw [cells_msg] at hc
        obtain ⟨q, hq, hok⟩ := open_msg_wf ht
        exact ⟨q, hok, fun _ => hq ▸ hc⟩
      · exact ⟨⟨0, 0, 0, 0, 0, .empty, .empty⟩, ⟨by decide, by decide, by decide, by decide, by decide⟩, fun h => absurd h hil⟩
    obtain ⟨Q, hQ⟩ := Classical.axiomOfChoice hex
    refine ⟨some a, len', cap', (List.range len').map Q, hcs, hl, hm, ⟨by simp, fun hlen => ?_⟩, fun m hm => by obtain ⟨i, _, rfl⟩ := List.mem_map.1 hm; exact (hQ i).1⟩
    obtain ⟨b, off, spot⟩ := a
    have hspot : spot = none := by
      have h1 := (World.cells?_some ((hQ 0).2 hlen)).2.2 0 (by decide)
      simpa [Addr.add] using World.cell?_spot (h1.trans rfl)
    subst hspot
    have h0 := (World.cells?_some ((hQ 0).2 hlen)).2.2 0 (by decide)
    refine ⟨b, off, rfl, ?_, fun i hil j v hv => ?_⟩
    · have := World.block_lt_of_cell? w _ (h0.trans rfl)
      simpa [Addr.add] using this
    · have hj : j < 7 := (Array.getElem?_eq_some_iff.1 hv).1
      have h1 := (World.cells?_some ((hQ i).2 hil)).2.2 j hj
      have h2 : ((List.range len').map Q).getD i ⟨0, 0, 0, 0, 0, .empty, .empty⟩ = Q i := by simp [hil]
      rw [h2] at hv
      rw [Array.getElem?_toList, hv] at h1
      rw [add_addr, add_addr] at h1
      exact h1

set_option maxRecDepth 100000 in
theorem open_tx_wf {r : Reach} {b0 : Nat} {v : Value} {d : DataW H} {p : List MemPlace} (ok : Value.okWide Tryd.prog w r b0 25 v) (h : DataW.Trod enc Tryd.prog w base spare held 25 v d p) : ∃ t : T4, v = .agg t.cells ∧ t.ok w ∧ ∀ m ∈ t.ms, m.wf := by
  obtain ⟨css, rfl, _⟩ := okWide_struct Tryd.underlying25 ok
  obtain ⟨fuel, h⟩ := h
  change DataW.trod enc Tryd.prog w base spare held fuel _ css.toList = _ at h
  obtain ⟨cs, hcs⟩ : ∃ cs, cs = css.toList := ⟨_, rfl⟩
  rw [← hcs] at h
  obtain ⟨xs, n, _, _, hcl, hlen, hf⟩ := DataW.trod_struct Tryd.underlying25 h
  rw [cells_tx] at hcl
  obtain ⟨y0, h0⟩ := field_at hlen hf 0 _ rfl rfl
  obtain ⟨y1, h1⟩ := field_at hlen hf 1 _ rfl rfl
  obtain ⟨y2, h2⟩ := field_at hlen hf 2 _ rfl rfl
  obtain ⟨y3, h3⟩ := field_at hlen hf 3 _ rfl rfl
  obtain ⟨a0, e0, _, w0⟩ := DataW.trod_int Tryd.underlying3 h0
  obtain ⟨a1, e1, _, w1⟩ := DataW.trod_int Tryd.underlying3 h1
  obtain ⟨a2, e2, _, w2⟩ := DataW.trod_int Tryd.underlying22 h2
  obtain ⟨A, len, cap, ms, e3, q1, q2, q3, q4⟩ := open_msgs_wf h3
  have w2' : 0 ≤ a2 ∧ a2 < 18446744073709551616 := by
    simp [Lit.wf, IntKind.min, IntKind.max, IntKind.bits, IntKind.signed] at w2
    omega
  refine ⟨⟨a0, a1, a2, A, len, cap, ms⟩, ?_, ⟨q1, q2, q3, w2'.1, w2'.2⟩, q4⟩
  have e0' : (cs.drop 0).take 1 = [.int .i64 a0] := e0
  have e1' : (cs.drop 1).take 1 = [.int .i64 a1] := e1
  have e2' : (cs.drop 2).take 1 = [.int .u64 a2] := e2
  have e3' : (cs.drop 3).take 1 = [.slice A len cap] := e3
  have hfin : css.toList = [.int .i64 a0, .int .i64 a1, .int .u64 a2, .slice A len cap] := by
    rw [← hcs]
    clear hcs h hf
    match cs, hcl with
    | [b0, b1, b2, b3], _ =>
      simp at e0' e1' e2' e3'
      subst e0' e1' e2' e3'
      rfl
  have hc2 : css = #[.int .i64 a0, .int .i64 a1, .int .u64 a2, .slice A len cap] := Array.toList_inj.1 hfin
  rw [hc2]
  rfl
end
end Go.Proofs.YtpakefgbjncdiacDoor.Msg
