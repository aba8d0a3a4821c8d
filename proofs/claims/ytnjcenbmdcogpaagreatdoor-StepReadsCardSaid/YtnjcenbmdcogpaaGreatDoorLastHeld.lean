/- A region that draws its order and whose last operation, behind all the others, writes a cell that they load: the loads may be taken first all the same. -/
import Derived.Deep.RegionHeld3
namespace Go.Proofs.YtnjcenbmdcogpaaGreatDoor
open Go
section
variable {P : Program} {ops : Array Oper} {Q : Exit → Act → World → Prop} {md : Region.Mode} {S : World → Prop} {z : Nat}

/-- S holds behind each operation but z. -/
def wpL (P : Program) (md : Region.Mode) (ops : Array Oper) (Q : Exit → Act → World → Prop) (S : World → Prop) (z : Nat) : Nat → Array Bool → Act → World → Prop
  | 0, listed, a, w => Region.ready md ops listed = [] ∧ Q .normal a w
  | n + 1, listed, a, w => (Region.ready md ops listed = [] → Q .normal a w) ∧
      ∀ j ∈ Region.ready md ops listed, wpOp P ops Q j (fun a' w' => (j = z ∨ S w') ∧ wpL P md ops Q S z n (listed.setIfInBounds j true) a' w') a w
theorem wpL_any : ∀ (n : Nat) (listed : Array Bool) (a : Act) (w : World), wpL P md ops Q S z n listed a w → wpAny P md ops Q n listed a w
  | 0, _, _, _, h => h
  | n + 1, _, _, _, h => ⟨h.1, fun j hj => wpOp_mono (fun _ _ h' => wpL_any n _ _ _ h'.2) (h.2 j hj)⟩
/-- whoever has come up, all that he waits for has -/
def Dn (md : Region.Mode) (ops : Array Oper) (listed : Array Bool) : Prop := ∀ j o, ops[j]? = some o → listed.getD j false = true → ∀ e ∈ o.after, Region.binds md e = true → listed.getD e.on false = true
theorem Dn.set {listed : Array Bool} {j : Nat} (h : Dn md ops listed) (hj : j ∈ Region.ready md ops listed) : Dn md ops (listed.setIfInBounds j true) := by
  intro k o ho hk e he hb
  by_cases hjk : j = k
  · subst hjk
    obtain ⟨_, o', ho', hall⟩ := mem_ready.1 hj
    rw [ho] at ho'
    injection ho' with ho'
    subst ho'
    exact getD_set_true (hall e he hb)
  · rw [getD_set_ne false hjk] at hk
    exact getD_set_true (h k o ho hk e he hb)
def dnB (md : Region.Mode) (ops : Array Oper) (listed : Array Bool) : Bool := (List.range ops.size).all fun j => !listed.getD j false || match ops[j]? with
  | some o => o.after.all fun e => !Region.binds md e || listed.getD e.on false
  | none => true
theorem dn_of {listed : Array Bool} (h : dnB md ops listed = true) : Dn md ops listed := by
  intro j o ho hj e he hb
  have h1 := List.all_eq_true.1 h j (List.mem_range.2 (Array.getElem?_eq_some_iff.1 ho).1)
  rw [hj, ho] at h1
  simp only [Bool.not_true, Bool.false_or] at h1
  have h2 := Array.all_eq_true_iff_forall_mem.1 h1 e he
  rw [hb] at h2
  simpa using h2
/-- a waits for b -/
def lk (md : Region.Mode) (ops : Array Oper) (a b : Nat) : Bool := match ops[a]? with
  | some o => o.after.toList.any fun e => Region.binds md e && e.on == b
  | none => false
/-- .. over others -/
def lks (md : Region.Mode) (ops : Array Oper) : Nat → List Nat → Nat → Bool
  | a, [], i => lk md ops a i
  | a, b :: l, i => lk md ops a b && lks md ops b l i
theorem lk_out {a b : Nat} (h : lk md ops a b = true) : ∃ o, ops[a]? = some o ∧ ∃ e ∈ o.after, Region.binds md e = true ∧ e.on = b := by
  unfold lk at h
  cases ho : ops[a]? with
  | none => rw [ho] at h; cases h
  | some o =>
    rw [ho] at h
    obtain ⟨e, he, h1⟩ := List.any_eq_true.1 h
    simp only [Bool.and_eq_true, beq_iff_eq] at h1
    exact ⟨o, rfl, e, by simpa using he, h1.1, h1.2⟩
theorem lk_dn {listed : Array Bool} {a b : Nat} (h : lk md ops a b = true) (hd : Dn md ops listed) (ha : listed.getD a false = true) : listed.getD b false = true := by
  obtain ⟨o, ho, e, he, hb, rfl⟩ := lk_out h
  exact hd a o ho ha e he hb
theorem lk_ready {listed : Array Bool} {a b : Nat} (h : lk md ops a b = true) (ha : a ∈ Region.ready md ops listed) : listed.getD b false = true := by
  obtain ⟨o, ho, e, he, hb, rfl⟩ := lk_out h
  obtain ⟨_, o', ho', hall⟩ := mem_ready.1 ha
  rw [ho] at ho'
  injection ho' with ho'
  subst ho'
  exact hall e he hb
theorem lks_dn {listed : Array Bool} {i : Nat} (hd : Dn md ops listed) : ∀ (l : List Nat) (a : Nat), lks md ops a l i = true → listed.getD a false = true → listed.getD i false = true
  | [], _, h, ha => lk_dn h hd ha
  | b :: l, a, h, ha => by
    simp only [lks, Bool.and_eq_true] at h
    exact lks_dn hd l b h.2 (lk_dn h.1 hd ha)
theorem lks_ready {listed : Array Bool} {i a : Nat} (hd : Dn md ops listed) (l : List Nat) (h : lks md ops a l i = true) (ha : a ∈ Region.ready md ops listed) : listed.getD i false = true := by
  cases l with
  | nil => exact lk_ready h ha
  | cons b l =>
    simp only [lks, Bool.and_eq_true] at h
    exact lks_dn hd l b h.2 (lk_ready h.1 ha)
theorem not_listed {listed : Array Bool} {i : Nat} (h : i ∈ Region.ready md ops listed) : listed.getD i false = false := by
  have h0 := (mem_ready.1 h).1
  rcases Nat.lt_or_ge i listed.size with h' | h'
  · simpa [h'] using h0
  · simp [Array.getElem?_eq_none h']
theorem wpL_first {i : Nat} {oi : Oper} {v : Value} (l : List Nat) (hi : ops[i]? = some oi) (hsel : ∀ (j : Nat) (o : Oper) cs b, ops[j]? = some o → o.op ≠ .select cs b)
    (hQ : ∀ c a w, Q (.panic c) (a.put oi.dst v) w → Q (.panic c) a w) (hl : lks md ops z l i = true) :
    ∀ (n : Nat) (listed : Array Bool) (a : Act) (w : World), Dn md ops listed →
      (∀ j oj, ops[j]? = some oj → j ≠ i → listed.getD j true = false → (∀ e ∈ oj.after, Region.binds md e = true → e.on ≠ i) → oi.apart ops oj = true) →
      i ∈ Region.ready md ops listed → YieldsIf P ops S oi v a → S w →
      wpL P md ops Q S z n (listed.setIfInBounds i true) (a.put oi.dst v) w → wpL P md ops Q S z (n + 1) listed a w := by
  intro n
  induction n with
  | zero =>
    intro listed a w _ _ hr hy hS H
    refine ⟨fun h => (by rw [h] at hr; cases hr), fun j hj => ?_⟩
    by_cases hji : j = i
    · subst hji; exact hy.wpOp hi hS ⟨Or.inr hS, H⟩
    · have := ready_mono hj hji
      rw [H.1] at this
      cases this
  | succ n ih =>
    intro listed a w hd hfree hr hy hS H
    refine ⟨fun h => (by rw [h] at hr; cases hr), fun j hj => ?_⟩
    by_cases hji : j = i
    · subst hji; exact hy.wpOp hi hS ⟨Or.inr hS, H⟩
    · have hjz : j ≠ z := fun e => by
        have h1 := lks_ready hd l hl (e ▸ hj)
        rw [not_listed hr] at h1
        cases h1
      obtain ⟨hun, oj, hoj, hall⟩ := mem_ready.1 hj
      have hno : ∀ e ∈ oj.after, Region.binds md e = true → e.on ≠ i := fun e he hb heq => by
        have h1 := hall e he hb
        rw [heq, not_listed hr] at h1
        cases h1
      have h2 := wpOp_putIf hoj (hfree j oj hoj hji hun hno) (fun cs b => hsel i oi cs b hi) (fun cs b => hsel j oj cs b hoj) hQ hy (H.2 j (ready_mono hj hji))
      refine wpOp_mono (fun a' w' h3 => ?_) h2
      have hS' := h3.2.1.resolve_left hjz
      refine ⟨h3.2.1, ih _ a' w' (hd.set hj) (fun k ok hk hki hku hkn => hfree k ok hk hki ?_ hkn) (ready_mono hr (Ne.symm hji)) h3.1 hS' ?_⟩
      · by_cases hjk : j = k
        · subst hjk; exact hun
        · rwa [getD_set_ne true hjk] at hku
      · rw [Array.setIfInBounds_comm _ _ hji]
        exact h3.2.2
theorem wpL_take {i : Nat} {oi : Oper} {v : Value} {n : Nat} {listed : Array Bool} {a : Act} {w : World} (l : List Nat) (hi : ops[i]? = some oi)
    (hs : Region.noSelect ops = true) (hf : Region.free md ops listed i = true) (hr : (Region.ready md ops listed).contains i = true) (hl : lks md ops z l i = true) (hd : dnB md ops listed = true)
    (hQ : ∀ c a w, Q (.panic c) (a.put oi.dst v) w → Q (.panic c) a w) (hy : YieldsIf P ops S oi v a) (hS : S w)
    (h : wpL P md ops Q S z n (listed.setIfInBounds i true) (a.put oi.dst v) w) : wpL P md ops Q S z (n + 1) listed a w :=
  wpL_first l hi (Region.noSelect_spec hs) hQ hl n listed a w (dn_of hd) (Region.free_spec hi hf) (by simpa using hr) hy hS h
def AllL (P : Program) (md : Region.Mode) (ops : Array Oper) (Q : Exit → Act → World → Prop) (S : World → Prop) (z n : Nat) (listed : Array Bool) (a : Act) (w : World) (rs : List Nat) : Prop :=
  ∀ i ∈ rs, wpOp P ops Q i (fun a' w' => (i = z ∨ S w') ∧ wpL P md ops Q S z n (listed.setIfInBounds i true) a' w') a w
theorem AllL.nil {n : Nat} {listed : Array Bool} {a : Act} {w : World} : AllL P md ops Q S z n listed a w [] := fun _ h => by cases h
theorem AllL.cons {n : Nat} {listed : Array Bool} {a : Act} {w : World} {i : Nat} {o : Oper} {rs : List Nat} (ho : ops[i]? = some o)
    (h : ∀ K' : Act → World → Prop, Shut (∀ a w, (i = z ∨ S w) → wpL P md ops Q S z n (listed.setIfInBounds i true) a w → K' a w) → if Region.wanted o (yielded ops a.tmps) = true then Oper.wp P o a w K' Q else K' (a.put o.dst undef) w)
    (hs : AllL P md ops Q S z n listed a w rs) : AllL P md ops Q S z n listed a w (i :: rs) := fun j hj => by
  rcases List.mem_cons.1 hj with rfl | hj
  · exact wpOp_step ho (fun K' hK => h K' (fun a w hS hW => hK a w ⟨hS, hW⟩))
  · exact hs j hj
theorem wpL_ready {rs : List Nat} {n : Nat} {listed : Array Bool} {a : Act} {w : World} (hr : Region.ready md ops listed = rs) (hne : rs ≠ [])
    (h : AllL P md ops Q S z n listed a w rs) : wpL P md ops Q S z (n + 1) listed a w := ⟨fun h0 => absurd (hr ▸ h0) hne, hr ▸ h⟩
theorem wpL_done {listed : Array Bool} {a : Act} {w : World} (hr : Region.ready md ops listed = []) (h : Q .normal a w) : ∀ n, wpL P md ops Q S z n listed a w
  | 0 => ⟨hr, h⟩
  | _ + 1 => ⟨fun _ => h, by rw [hr]; simp⟩
theorem wp_region_last {id : Nat} {a : Act} {w : World} (S : World → Prop) (z : Nat) (hm : P.follows .mixedOrders = true)
    (h : wpL P .any ops Q S z ops.size (Array.replicate ops.size false) a w.drew) : (Code.region id ops true).wp P Q a w := wp_region_any hm (wpL_any _ _ _ _ h)
end
end Go.Proofs.YtnjcenbmdcogpaaGreatDoor
