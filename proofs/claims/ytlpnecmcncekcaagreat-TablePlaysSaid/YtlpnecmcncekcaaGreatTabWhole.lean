import Derived.Test.YtlpnecmcncekcaaGreatTn
import Derived.Test.YtlpnecmcncekcaaGreatTo
import Derived.Test.YtlpnecmcncekcaaGreatSm
/- A whole table: all its shards, each with its map. -/
namespace Go.Proofs.YtlpnecmcncekcaaGreat.Mk
open Go Go.RowKit Go.MuLone Conf

/-- All that stood stands as it was, but the blocks from lo up to hi. -/
structure Rng (lo hi : Nat) (w w' : World) : Prop where
  os : w'.os = w.os
  tape : w'.tape = w.tape
  output : w'.output = w.output
  size : w.heap.size ≤ w'.heap.size
  block : ∀ k, k < w.heap.size → (k < lo ∨ hi ≤ k) → w'.heap[k]? = w.heap[k]?
theorem Rng.refl (lo hi : Nat) (w : World) : Rng lo hi w w := ⟨rfl, rfl, rfl, Nat.le_refl _, fun _ _ _ => rfl⟩
theorem Rng.trans {lo hi : Nat} {a b c : World} (h : Rng lo hi a b) (g : Rng lo hi b c) : Rng lo hi a c :=
  ⟨g.os.trans h.os, g.tape.trans h.tape, g.output.trans h.output, Nat.le_trans h.size g.size, fun k hk h1 => (g.block k (Nat.lt_of_lt_of_le hk h.size) h1).trans (h.block k hk h1)⟩
theorem Rng.of_only {lo hi S B : Nat} {a b : World} (h : Only2 S B a b) (hS : lo ≤ S ∧ S < hi) (hB : lo ≤ B ∧ B < hi) : Rng lo hi a b :=
  ⟨h.os, h.tape, h.output, h.size, fun k hk h1 => h.block k hk (by omega) (by omega)⟩
theorem Rng.of_below {lo hi : Nat} {a b : World} (h : Below a.heap.size a b) : Rng lo hi a b := ⟨h.os, h.tape, h.output, h.size, fun k hk _ => h.block k hk⟩
theorem Rng.below {lo hi M : Nat} {a b c : World} (h : Below M a b) (g : Rng lo hi b c) (hM : M ≤ lo) (hb : M ≤ b.heap.size) : Below M a c :=
  ⟨g.os.trans h.os, g.tape.trans h.tape, g.output.trans h.output, Nat.le_trans h.size g.size, fun k hk => (g.block k (Nat.lt_of_lt_of_le hk hb) (Or.inl (by omega))).trans (h.block k hk)⟩
/-- where the shards and their maps lie -/
structure Lay where
  T : Nat
  g : Nat
  cap : Nat
  n : Nat
  lo : Nat
  hi : Nat
  sh : Nat → Nat
  mp : Nat → Nat
  room : Int
/-- what each shard's map is -/
abbrev Maps := Nat → List Ms × Nat
def upd (M : Maps) (j : Nat) (x : List Ms × Nat) : Maps := fun i => if i = j then x else M i
structure Lay.ok (y : Lay) : Prop where
  n0 : 0 < y.n
  n8 : y.n ≤ 8
  r64 : y.room ≤ 64
  r0 : 0 ≤ y.room
  ap : ∀ i j, i < y.n → j < y.n → i ≠ j → y.sh i ≠ y.sh j ∧ y.sh i ≠ y.mp j ∧ y.mp i ≠ y.sh j ∧ y.mp i ≠ y.mp j
  ne : ∀ i, i < y.n → y.T ≠ y.sh i ∧ y.T ≠ y.mp i ∧ y.g ≠ y.sh i ∧ y.g ≠ y.mp i
  rT : y.lo ≤ y.T ∧ y.T < y.hi
  rg : y.lo ≤ y.g ∧ y.g < y.hi
  rs : ∀ i, i < y.n → (y.lo ≤ y.sh i ∧ y.sh i < y.hi) ∧ (y.lo ≤ y.mp i ∧ y.mp i < y.hi)
structure MapsOk (y : Lay) (M : Maps) : Prop where
  ok : ∀ i, i < y.n → MOk (M i).1 (M i).2
  len : ∀ i, i < y.n → ((M i).1.length : Int) ≤ y.room
  key : ∀ i, i < y.n → ∀ x ∈ (M i).1, Fnv.keyH x.1.c x.1.f x.1.s % (y.n : Int) = (i : Int)
structure WT (V : World) (y : Lay) (M : Maps) : Prop where
  tn : TN V y.T y.g y.cap y.n y.sh
  is : ∀ i, i < y.n → ShIs V (y.sh i) (y.mp i) y.room (M i).1 (M i).2 0
section
variable {V V' : World} {y : Lay} {M : Maps}
theorem WT.keep (h : WT V y M) (hy : y.ok) (hk : ∀ k, y.lo ≤ k → k < y.hi → k < V.heap.size → V'.heap[k]? = V.heap[k]?) : WT V' y M :=
  ⟨h.tn.keep (hk _ hy.rT.1 hy.rT.2 h.tn.ltT) (hk _ hy.rg.1 hy.rg.2 (h.tn.ltg hy.n0)), fun i hi =>
    ⟨(hk _ (hy.rs i hi).1.1 (hy.rs i hi).1.2 (h.is i hi).ltS).trans (h.is i hi).box, (hk _ (hy.rs i hi).2.1 (hy.rs i hi).2.2 (h.is i hi).ltB).trans (h.is i hi).map⟩⟩
theorem WT.below (h : WT V y M) (hy : y.ok) (hb : Below V.heap.size V V') : WT V' y M := h.keep hy fun k _ _ hk => hb.block k hk
theorem WT.off {lo hi : Nat} (h : WT V y M) (hy : y.ok) (hR : Rng lo hi V V') (hd : y.hi ≤ lo ∨ hi ≤ y.lo) : WT V' y M := h.keep hy fun k h1 h2 hk => hR.block k hk (by omega)
theorem WT.drew (h : WT V y M) : WT V.drew y M := ⟨⟨h.tn.tab, h.tn.cell⟩, fun i hi => ⟨(h.is i hi).box, (h.is i hi).map⟩⟩
/-- one shard turns -/
theorem WT.turn (h : WT V y M) (hy : y.ok) {j : Nat} (hj : j < y.n) {x : List Ms × Nat} (hs : ShIs V' (y.sh j) (y.mp j) y.room x.1 x.2 0) (hO : Only2 (y.sh j) (y.mp j) V V') : WT V' y (upd M j x) := by
  have ne := hy.ne j hj
  refine ⟨h.tn.only hy.n0 hO ne.1 ne.2.1 ne.2.2.1 ne.2.2.2, fun i hi => ?_⟩
  unfold upd
  by_cases e : i = j
  · subst e
    rw [if_pos rfl]
    exact hs
  · rw [if_neg e]
    have ap := hy.ap i j hi hj e
    exact ⟨(hO.block _ (h.is i hi).ltS ap.1 ap.2.1).trans (h.is i hi).box, (hO.block _ (h.is i hi).ltB ap.2.2.1 ap.2.2.2).trans (h.is i hi).map⟩
theorem upd_self {j : Nat} : upd M j (M j) = M := by
  funext i
  unfold upd
  by_cases e : i = j
  · rw [if_pos e, e]
  · rw [if_neg e]
theorem upd_at {j : Nat} {x : List Ms × Nat} : upd M j x j = x := by simp [upd]
theorem upd_off {i j : Nat} {x : List Ms × Nat} (h : i ≠ j) : upd M j x i = M i := by simp [upd, h]
/-- the shard of a key -/
def own (n : Nat) (k : K3) : Nat := (Fnv.keyH k.c k.f k.s % (n : Int)).toNat
theorem own_eq {n : Nat} (h : 0 < n) (k : K3) : Fnv.keyH k.c k.f k.s % (n : Int) = (own n k : Int) := by
  have := Int.emod_nonneg (Fnv.keyH k.c k.f k.s) (show (n : Int) ≠ 0 by omega)
  unfold own
  omega
theorem own_lt {n : Nat} (h : 0 < n) (k : K3) : own n k < n := by
  have h1 := own_eq h k
  have := Int.emod_lt_of_pos (Fnv.keyH k.c k.f k.s) (show 0 < (n : Int) by omega)
  omega
theorem WT.of (h : WT V y M) (hy : y.ok) (k : K3) (hk : 0 ≤ k.s ∧ k.s < 18446744073709551616) : ∀ V', Below V.heap.size V V' → Calls Tryz.prog 31 #[.pointer (some ⟨y.T, 0, none⟩), k.val] V' fun e w' => e = .returned (.pointer (some ⟨y.sh (own y.n k), 0, none⟩)) ∧ Below V'.heap.size V' w' := fun _ hb =>
  of_n (h.below hy hb).tn k hk.1 hk.2 hy.n0 hy.n8 _ (own_eq hy.n0 k) (own_lt hy.n0 k)
/-- an operation that came in -/
structure Op9 where
  kd : Int
  who : Int
  k : K3
  sd : Int
  ac : Int
  ep : Int
  nn : Int
def Op9.val (o : Op9) : Value := opV o.kd o.who o.k o.sd o.ac o.ep o.nn
def Op9.ok (o : Op9) : Prop := 0 ≤ o.k.s ∧ o.k.s < 18446744073709551616
/-- what it answers, and what the map of its key's shard is behind it -/
def tRes (o : Op9) (room : Int) (x : List Ms × Nat) : Int × List Ms × Nat :=
  if 1 ≤ o.kd ∧ o.kd ≤ 5 then actRes (o.kd % 5) room o.who o.k x.1 x.2 else (1, x.1, x.2)
/-- .. of a whole table -/
def tAns (o : Op9) (n : Nat) (room : Int) (M : Maps) : Int := (tRes o room (M (own n o.k))).1
def tMaps (o : Op9) (n : Nat) (room : Int) (M : Maps) : Maps := upd M (own n o.k) (tRes o room (M (own n o.k))).2
theorem tdo (o : Op9) (ho : o.ok) (h : WT V y M) (hy : y.ok) :
    Calls Tryz.prog 11 #[.pointer (some ⟨y.T, 0, none⟩), o.val] V fun e w' => e = .returned (retV (tAns o y.n y.room M)) ∧ WT w' y (tMaps o y.n y.room M) ∧ Only2 (y.sh (own y.n o.k)) (y.mp (own y.n o.k)) V w' := by
  have hof := h.of hy o.k ho
  have hj := own_lt hy.n0 o.k
  have hs := h.is _ hj
  unfold tAns tMaps
  have fin : ∀ (r : Int) (L : List Ms × Nat), tRes o y.room (M (own y.n o.k)) = (r, L) → ∀ (e : Ending) (w' : World), (e = .returned (retV r) ∧ ShIs w' (y.sh (own y.n o.k)) (y.mp (own y.n o.k)) y.room L.1 L.2 0 ∧ Only2 (y.sh (own y.n o.k)) (y.mp (own y.n o.k)) V w') →
      e = .returned (retV (tRes o y.room (M (own y.n o.k))).1) ∧ WT w' y (upd M (own y.n o.k) (tRes o y.room (M (own y.n o.k))).2) ∧ Only2 (y.sh (own y.n o.k)) (y.mp (own y.n o.k)) V w' := fun r L e0 e w' ⟨h1, h2, h3⟩ => by
    rw [e0]
    exact ⟨h1, h.turn hy hj h2 h3, h3⟩
  generalize hJ : own y.n o.k = j at *
  generalize hX : M j = x at *
  obtain ⟨l, clock⟩ := x
  obtain ⟨kd, who, k, sd, ac, ep, nn⟩ := o
  unfold Op9.val
  dsimp only at hof hs fin ⊢
  have e5 : ∀ m : Int, m % 5 = m % 5 := fun _ => rfl
  by_cases h1 : kd = 1
  · subst h1
    exact (xdo_ins who k sd ac ep nn _ _ y.room l clock hof hs).mono (fin _ _ rfl)
  by_cases h2 : kd = 2
  · subst h2
    by_cases hw : who < 1
    · refine (xdo_claim who k sd ac ep nn _ _ y.room l clock 1 (l, clock) hof (fun U hU => (claim_few _ who k U hw).mono fun e w' hb => ⟨hb.1, hU.below hb.2, Only2.of_below hb.2⟩) hs).mono (fin _ _ ?_)
      simp [tRes, actRes, hw]
    · refine (xdo_claim who k sd ac ep nn _ _ y.room l clock _ _ hof (fun U hU => claim_any _ _ _ who l clock k U hU (by omega)) hs).mono (fin _ _ ?_)
      simp [tRes, actRes, hw]
  by_cases h3 : kd = 3
  · subst h3
    exact (xdo_release who k sd ac ep nn _ _ y.room l clock _ _ hof (fun U hU => release_any _ _ _ who l clock k U hU) hs).mono (fin _ _ rfl)
  by_cases h4 : kd = 4
  · subst h4
    exact (xdo_complete who k sd ac ep nn _ _ y.room l clock _ _ hof (fun U hU => complete_any _ _ _ who l clock k U hU) hs).mono (fin _ _ rfl)
  by_cases h5' : kd = 5
  · subst h5'
    exact (xdo_expire who k sd ac ep nn _ _ y.room l clock hof hs).mono (fin _ _ rfl)
  · refine (xdo_other kd who k sd ac ep nn h1 h2 h3 h4 h5' _ hof).mono fun e w' hb => fin 1 (l, clock) ?_ e w' ⟨hb.1, hs.below hb.2, Only2.of_below hb.2⟩
    unfold tRes
    rw [if_neg (by dsimp only; omega)]
theorem tmaps_ok (o : Op9) (hm : MapsOk y M) (hy : y.ok) : MapsOk y (tMaps o y.n y.room M) := by
  have hj := own_lt hy.n0 o.k
  have main : MOk (tRes o y.room (M (own y.n o.k))).2.1 (tRes o y.room (M (own y.n o.k))).2.2 ∧ ((tRes o y.room (M (own y.n o.k))).2.1.length : Int) ≤ y.room ∧ ∀ x ∈ (tRes o y.room (M (own y.n o.k))).2.1, Fnv.keyH x.1.c x.1.f x.1.s % (y.n : Int) = (own y.n o.k : Int) := by
    unfold tRes
    by_cases hk : 1 ≤ o.kd ∧ o.kd ≤ 5
    · rw [if_pos hk]
      refine ⟨act_ok (hm.ok _ hj), act_len (hm.len _ hj), fun x hx => ?_⟩
      by_cases he : x.1 = o.k
      · rw [he]; exact own_eq hy.n0 o.k
      · have hn := (act_ok (m := o.kd % 5) (room := y.room) (who := o.who) (k := o.k) (hm.ok _ hj)).keys
        have h1 := ent_of_mem hn x hx
        rw [act_other he] at h1
        obtain ⟨z, hz, h2, -⟩ := ent_mem h1
        rw [← h2]
        exact hm.key _ hj z hz
    · rw [if_neg hk]
      exact ⟨hm.ok _ hj, hm.len _ hj, hm.key _ hj⟩
  refine ⟨fun i hi => ?_, fun i hi => ?_, fun i hi => ?_⟩ <;>
    (unfold tMaps
     by_cases e : i = own y.n o.k
     · rw [e, upd_at]
       first | exact main.1 | exact main.2.1 | exact main.2.2
     · rw [upd_off e]
       first | exact hm.ok i hi | exact hm.len i hi | exact hm.key i hi)
/-- a table as it is made -/
theorem wt_of {w wr : World} {T n : Nat} {v : Value} {ss : List (Nat × Nat)} {c : Cfg} {room : Int} (h : TR room w wr T v ss c) (hn : ss.length = n) (h0 : 0 < n) (h8 : n ≤ 8) (hr0 : 0 ≤ room) (hr : room ≤ 64) :
    ∃ y : Lay, y.T = T ∧ y.n = n ∧ y.room = room ∧ y.lo = w.heap.size + 1 ∧ y.hi = wr.heap.size ∧ y.ok ∧ WT wr y (fun _ => ([], 0)) ∧ MapsOk y (fun _ => ([], 0)) ∧ w.heap.size < wr.heap.size := by
  have hTl := lt_blkC h.tab
  have hlt := h.lt
  rcases h.row.2 with ⟨_, h2⟩ | ⟨g, cap, cur, hv, hg, hh, h1, h2, h3, h4⟩
  · simp at h2; rw [h2] at hn; simp at hn; omega
  · rw [hn] at hv
    have hgl := lt_blkC hh
    have hget : ∀ i, i < n → ss.getD i (0, 0) ∈ ss ∧ ss[i]? = some (ss.getD i (0, 0)) := fun i hi => by
      rw [List.getD_eq_getElem?_getD, List.getElem?_eq_getElem (show i < ss.length by omega)]
      exact ⟨List.getElem_mem _, rfl⟩
    have hap : ∀ i j, i < j → j < n → (fun x y : Nat × Nat => x.1 < y.1 ∧ x.1 < y.2 ∧ x.2 < y.1 ∧ x.2 < y.2) (ss.getD i (0, 0)) (ss.getD j (0, 0)) := fun i j hij hj => by
      have := List.pairwise_iff_getElem.1 h.ap i j (by omega) (by omega) hij
      rwa [List.getD_eq_getElem?_getD, List.getD_eq_getElem?_getD, List.getElem?_eq_getElem (show i < ss.length by omega), List.getElem?_eq_getElem (show j < ss.length by omega)]
    refine ⟨⟨T, g, cap, n, w.heap.size + 1, wr.heap.size, fun i => (ss.getD i (0, 0)).1, fun i => (ss.getD i (0, 0)).2, room⟩, rfl, rfl, rfl, rfl, rfl, ⟨h0, h8, hr, hr0, fun i j hi hj e => ?_, fun i hi => ?_, ⟨by show w.heap.size + 1 ≤ T; omega, hTl⟩, ⟨by show w.heap.size + 1 ≤ g; omega, hgl⟩, fun i hi => ?_⟩, ⟨⟨by rw [← hv]; exact h.tab, fun i hi => ?_⟩, fun i hi => (h.sh _ (hget i hi).1).1⟩, ⟨fun _ _ => MOk.nil, fun _ _ => by simpa using hr0, fun _ _ x hx => by simp at hx⟩, by omega⟩
    · rcases Nat.lt_or_gt_of_ne e with e | e
      · have := hap i j e hj; dsimp only at this ⊢; omega
      · have := hap j i e hi; dsimp only at this ⊢; omega
    · have hs := h.sh _ (hget i hi).1
      refine ⟨Nat.ne_of_lt hs.2.1, Nat.ne_of_lt hs.2.2, fun e => ?_, fun e => ?_⟩
      · exact own_apart9 h.row hs.1.box (by decide) (by rw [hv]; exact congrArg some e.symm)
      · exact own_apartM h.row hs.1.map (by rw [hv]; exact congrArg some e.symm)
    · have hs := h.sh _ (hget i hi).1
      exact ⟨⟨by show w.heap.size + 1 ≤ (ss.getD i (0, 0)).1; omega, hs.1.ltS⟩, ⟨by show w.heap.size + 1 ≤ (ss.getD i (0, 0)).2; omega, hs.1.ltB⟩⟩
    · have hc := World.ownsRow.cells h.row (g := g) (by rw [hv]; rfl) i (.pointer (some ⟨(ss.getD i (0, 0)).1, 0, none⟩)) (by
        rw [List.getElem?_map, (hget i hi).2]
        rfl)
      have ea : (⟨g, 0, none⟩ : Addr).add i = ⟨g, i, none⟩ := by unfold Addr.add; by_cases h : i = 0 <;> simp [h]
      rwa [ea] at hc
end
end Go.Proofs.YtlpnecmcncekcaaGreat.Mk
