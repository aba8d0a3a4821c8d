/- append(own row of messages, a slice that reads as messages...). -/
import Derived.Test.YtjjomlideieofaaPoolAddO
namespace Go.Proofs.Ytjjomlideieofaa.Msg
open Go Go.RowKit

theorem Rd.news {w : World} {a : Addr} {n : Nat} {ms : List M7} (ha : Rd w (some a) n ms) (j : Nat) (u : Value) (hu : (mevs ms)[j]? = some u) : w.cell? (a.add j) = some u := by
  have hj : j < ms.length * 7 := by
    have := (List.getElem?_eq_some_iff.1 hu).1
    rwa [mevs_len] at this
  obtain ⟨b, off, h1, hbl, hc⟩ := ha.2 (by have := ha.1; omega)
  injection h1 with h1
  subst h1
  have hj2 : j = j / 7 * 7 + j % 7 := by omega
  have hq : j / 7 < ms.length := by omega
  rw [hj2, mevs_at ms (j / 7) (j % 7) hq (by omega)] at hu
  rw [show (⟨b, off, none⟩ : Addr).add j = ⟨b, off + j / 7 * 7 + j % 7, none⟩ by unfold Addr.add; by_cases h : j = 0 <;> simp [h]; omega]
  exact hc (j / 7) (by have := ha.1; omega) (j % 7) u hu

theorem wpList_append_rd {w : World} {ops : Array Oper} {rest : List Oper} {o : Oper} {a : Act} {Q : Exit → Act → World → Prop} (hgd : o.guard = none) (s x : Operand)
    (ho : o.op = .call { callee := .builtin .append, args := #[s, x], argTypes := #[38, 38] })
    (base : Nat) (v : Value) (n : Nat) (xs : List Value) (hs : a.eval s = v) (hown : w.ownsRow base TM 7 v n xs)
    (A : Option Addr) (len cap : Nat) (ms : List M7) (hx : a.eval x = .slice A len cap) (hr : Rd w A len ms) (hc : A = none → cap = 0) (hl : n + len ≤ 1000000) (hbase : base ≤ w.heap.size)
    (h : ∀ v' w', w'.ownsRow base TM 7 v' (n + len) (xs ++ mevs ms) → w.grownBy w' v.ownBlock → wpList Try.prog ops Q rest (a.put o.dst v') w') : wpList Try.prog ops Q (o :: rest) a w := by
  obtain ⟨i0, hi, hz0, hz1, hz2⟩ := info_parts infoM
  cases A with
  | none =>
    have h0 : len = 0 := by
      rcases Nat.eq_zero_or_pos len with h | h
      · exact h
      · obtain ⟨b, off, h1, _⟩ := hr.2 h; cases h1
    subst h0
    obtain rfl : ms = [] := List.eq_nil_of_length_eq_zero hr.1
    obtain rfl := hc rfl
    exact wpList_append_own_none hgd s x 38 ho base TM i0 7 Try.underlying38 hi v n xs hs hown hx (h v w (by simpa [mevs] using hown) (World.grownBy.refl w _))
  | some b =>
    exact wpList_append_own_at _ hgd s x 38 ho base TM i0 _ 7 72 Try.underlying38 hi hz0 hz1 hz2 rfl (by decide) v n xs hs hown b len cap (mevs ms) hx (by rw [mevs_len, hr.1]) hr.news (mevs_one ms) (by unfold maxLen; omega) (by omega) hbase fun v' w' h2 h3 _ _ => h v' w' h2 h3
end Go.Proofs.Ytjjomlideieofaa.Msg
