import Derived.Below
import Derived.Calls
import Derived.Sort.Lot0
import Derived.Laws.World
import Derived.Shelf.GgSortFunc.Slice
import Derived.Deep.LoopGhost
import Derived.WalkKit
import Derived.BigCall
import Derived.BigGuard
import Derived.Sort.WalkA
import Derived.Sort.WalkB2
import Derived.Sort.WalkB3
/- What a sort asks of a row that it never reads itself: an abstract state of it, in both forms of pdqsort. -/
namespace Go.Proofs.YtlpnecmcncekcaaGreat.St
open Go Go.RowKit
variable {P : Program} {α : Type} [Inhabited α]

/-- From block B on all that stood stands. -/
def Up (B : Nat) (W w : World) : Prop := W.heap.size ≤ w.heap.size ∧ ∀ k, B ≤ k → k < W.heap.size → w.heap[k]? = W.heap[k]?
theorem Up.refl (B : Nat) (W : World) : Up B W W := ⟨Nat.le_refl _, fun _ _ _ => rfl⟩
theorem Up.trans {B : Nat} {a b c : World} (h : Up B a b) (k : Up B b c) : Up B a c :=
  ⟨Nat.le_trans h.1 k.1, fun i hB hi => (k.2 i hB (Nat.lt_of_lt_of_le hi h.1)).trans (h.2 i hB hi)⟩
theorem Up.of_below {B : Nat} {W w : World} (h : Below W.heap.size W w) : Up B W w := ⟨h.size, fun k _ hk => h.block k hk⟩
theorem Up.cell {B : Nat} {W w : World} (h : Up B W w) {k o : Nat} (hB : B ≤ k) (hk : k < W.heap.size) : w.cell? ⟨k, o, none⟩ = W.cell? ⟨k, o, none⟩ := World.cell?_of_block (w := W) (h.2 k hB hk)
theorem Up.new (B : Nat) (W : World) (o : Obj) : Up B W (W.alloc o) := Up.of_below ((Below.refl _ _).alloc (Nat.le_refl _) o)

/-- A state of a row of so many things: what lies below B and is not the row's is its own business. -/
structure Play (B size : Nat) (T : Array α → World → Prop) : Prop where
  base : ∀ {d : Array α} {W : World}, T d W → B ≤ W.heap.size
  size : ∀ {d : Array α} {W : World}, T d W → d.size = size
  keep : ∀ {d : Array α} {W w : World}, T d W → Below W.heap.size W w → T d w
  set : ∀ {d : Array α} {W : World}, T d W → ∀ (a : Addr) (v : Value), B ≤ a.block → T d (W.setCell a v)

/-! ### sort.Slice's form: a closure that compares, another one that swaps -/
structure FuncFam (P : Program) (lt : α → α → Bool) (B size : Nat) (T : Array α → World → Prop) (g : Nat) (lb : Array Value) (sf : Nat) (sb : Array Value) : Prop where
  play : Play B size T
  small : size < 4611686018427387904
  eg : ∀ args w, (callFunc g args).run P w = .ok (.enter g args) w
  less : ∀ {d : Array α} {W : World}, T d W → ∀ i j : Nat, i < size → j < size → Calls P g (#[.int .i64 i, .int .i64 j] ++ lb) W fun e w => e = .returned (.bool (lt d[i]! d[j]!)) ∧ Below W.heap.size W w
  swap : ∀ {d : Array α} {W : World}, T d W → ∀ i j : Nat, i < size → j < size → ∃ w, (callFunc sf (#[.int .i64 i, .int .i64 j] ++ sb)).run P W = .ok (.value (.tuple #[])) w ∧ T (Sort.swp d i j) w ∧ Up B W w

/-- Inside a callee that was entered in w0, its own box of the two closures the block K. -/
structure AtF (B : Nat) (T : Array α → World → Prop) (g : Nat) (lb : Array Value) (sf : Nat) (sb : Array Value) (w0 : World) (K : Nat) (d : Array α) (W : World) : Prop where
  st : T d W
  up : Up B w0 W
  own : B ≤ K
  lt : K < W.heap.size
  c0 : W.cell? ⟨K, 0, none⟩ = some (.func (.func g) #[] lb)
  c1 : W.cell? ⟨K, 1, none⟩ = some (.func (.func sf) #[] sb)

section
variable {lt : α → α → Bool} {B size : Nat} {T : Array α → World → Prop} {g : Nat} {lb : Array Value} {sf : Nat} {sb : Array Value} {w0 : World} {K : Nat} {d : Array α} {W : World}
theorem FuncFam.start (F : FuncFam P lt B size T g lb sf sb) (h : T d W) (t : TypeId) : AtF B T g lb sf sb W W.heap.size d (W.alloc (.cells #[.func (.func g) #[] lb, .func (.func sf) #[] sb] t)) :=
  ⟨F.play.keep h ((Below.refl _ _).alloc (Nat.le_refl _) _), Up.new _ _ _, F.play.base h, by simp, by simp, by simp⟩
omit [Inhabited α] in
theorem AtF.call (H : AtF B T g lb sf sb w0 K d W) {d' : Array α} {w : World} (h : T d' w) (u : Up B W w) : AtF B T g lb sf sb w0 K d' w :=
  ⟨h, H.up.trans u, H.own, Nat.lt_of_lt_of_le H.lt u.1, (u.cell H.own H.lt).trans H.c0, (u.cell H.own H.lt).trans H.c1⟩
theorem AtF.below (H : AtF B T g lb sf sb w0 K d W) (F : FuncFam P lt B size T g lb sf sb) {w : World} (h : Below W.heap.size W w) : AtF B T g lb sf sb w0 K d w :=
  H.call (F.play.keep H.st h) (Up.of_below h)
theorem AtF.less (H : AtF B T g lb sf sb w0 K d W) (F : FuncFam P lt B size T g lb sf sb) (i j : Nat) (v : Bool) (hi : i < size) (hj : j < size) (hv : lt d[i]! d[j]! = v) :
    Calls P g (#[.int .i64 i, .int .i64 j] ++ lb) W fun e w => e = .returned (.bool v) ∧ AtF B T g lb sf sb w0 K d w :=
  (F.less H.st i j hi hj).mono fun _ _ ⟨he, hb⟩ => ⟨hv ▸ he, H.below F hb⟩
theorem AtF.swap (H : AtF B T g lb sf sb w0 K d W) (F : FuncFam P lt B size T g lb sf sb) (i j : Nat) (hi : i < size) (hj : j < size) :
    ∃ w, (callFunc sf (#[.int .i64 i, .int .i64 j] ++ sb)).run P W = .ok (.value (.tuple #[])) w ∧ AtF B T g lb sf sb w0 K (Sort.swp d i j) w := by
  obtain ⟨w, h1, h2, h3⟩ := F.swap H.st i j hi hj
  exact ⟨w, h1, H.call h2 h3⟩
end

/-! ### sort.Sort's form: two methods -/
structure IfaceFam (P : Program) (lt : α → α → Bool) (B size : Nat) (T : Array α → World → Prop) (ty : TypeId) (rv : Value) (gl gs : Nat) : Prop where
  play : Play B size T
  small : size < 4611686018427387904
  mL : ∀ w, Sem.run P (method (P.types.size + 100) ty rv "Less") w = .ok (gl, rv) w
  mS : ∀ w, Sem.run P (method (P.types.size + 100) ty rv "Swap") w = .ok (gs, rv) w
  eL : ∀ args w, (callFunc gl args).run P w = .ok (.enter gl args) w
  eS : ∀ args w, (callFunc gs args).run P w = .ok (.enter gs args) w
  less : ∀ {d : Array α} {W : World}, T d W → ∀ i j : Nat, i < size → j < size → Calls P gl #[rv, .int .i64 i, .int .i64 j] W fun e w => e = .returned (.bool (lt d[i]! d[j]!)) ∧ Below W.heap.size W w
  swap : ∀ {d : Array α} {W : World}, T d W → ∀ i j : Nat, i < size → j < size → Calls P gs #[rv, .int .i64 i, .int .i64 j] W fun e w => e = .returned (.tuple #[]) ∧ T (Sort.swp d i j) w ∧ Up B W w

structure AtI (B : Nat) (T : Array α → World → Prop) (w0 : World) (d : Array α) (W : World) : Prop where
  st : T d W
  up : Up B w0 W

section
variable {lt : α → α → Bool} {B size : Nat} {T : Array α → World → Prop} {ty : TypeId} {rv : Value} {gl gs : Nat} {w0 : World} {d : Array α} {W : World}
omit [Inhabited α] in
theorem AtI.start (h : T d W) : AtI B T W d W := ⟨h, Up.refl _ _⟩
omit [Inhabited α] in
theorem AtI.call (H : AtI B T w0 d W) {d' : Array α} {w : World} (h : T d' w) (u : Up B W w) : AtI B T w0 d' w := ⟨h, H.up.trans u⟩
theorem AtI.below (H : AtI B T w0 d W) (F : IfaceFam P lt B size T ty rv gl gs) {w : World} (h : Below W.heap.size W w) : AtI B T w0 d w := H.call (F.play.keep H.st h) (Up.of_below h)
theorem AtI.less (H : AtI B T w0 d W) (F : IfaceFam P lt B size T ty rv gl gs) (i j : Nat) (v : Bool) (hi : i < size) (hj : j < size) (hv : lt d[i]! d[j]! = v) :
    Calls P gl #[rv, .int .i64 i, .int .i64 j] W fun e w => e = .returned (.bool v) ∧ AtI B T w0 d w :=
  (F.less H.st i j hi hj).mono fun _ _ ⟨he, hb⟩ => ⟨hv ▸ he, H.below F hb⟩
theorem AtI.swap (H : AtI B T w0 d W) (F : IfaceFam P lt B size T ty rv gl gs) (i j : Nat) (hi : i < size) (hj : j < size) :
    Calls P gs #[rv, .int .i64 i, .int .i64 j] W fun e w => e = .returned (.tuple #[]) ∧ AtI B T w0 (Sort.swp d i j) w :=
  (F.swap H.st i j hi hj).mono fun _ _ ⟨he, h2, h3⟩ => ⟨he, H.call h2 h3⟩
end
/-! ### A counter, which the callees write through a pointer -/
/-- From block B on all that stood stands, but block c. -/
def UpC (B c : Nat) (W w : World) : Prop := W.heap.size ≤ w.heap.size ∧ ∀ k, B ≤ k → k < W.heap.size → k ≠ c → w.heap[k]? = W.heap[k]?
theorem UpC.trans {B c : Nat} {x y z : World} (h : UpC B c x y) (k : UpC B c y z) : UpC B c x z :=
  ⟨Nat.le_trans h.1 k.1, fun i hB hi hc => (k.2 i hB (Nat.lt_of_lt_of_le hi h.1) hc).trans (h.2 i hB hi hc)⟩
theorem UpC.of_up {B c : Nat} {W w : World} (h : Up B W w) : UpC B c W w := ⟨h.1, fun k hB hk _ => h.2 k hB hk⟩
theorem UpC.cell {B c : Nat} {W w : World} (h : UpC B c W w) {k o : Nat} (hB : B ≤ k) (hk : k < W.heap.size) (hc : k ≠ c) : w.cell? ⟨k, o, none⟩ = W.cell? ⟨k, o, none⟩ := World.cell?_of_block (w := W) (h.2 k hB hk hc)
theorem Up.frozen {B : Nat} {W w : World} (h : Up B W w) {k o : Nat} (hB : B ≤ k) (hk : k < W.heap.size) : w.frozen? ⟨k, o, none⟩ = W.frozen? ⟨k, o, none⟩ := World.frozen?_of_block (w := W) (h.2 k hB hk)
theorem UpC.set {B c : Nat} {W w : World} (h : UpC B c W w) (o : Nat) (v : Value) : UpC B c W (w.setCell ⟨c, o, none⟩ v) :=
  ⟨by simpa using h.1, fun k hB hk hc => (Below.heap_setCell _ _ _ _ hc).trans (h.2 k hB hk hc)⟩
/-- A counter c that stands at s. -/
structure Ct (B : Nat) (T : Array α → World → Prop) (c : Nat) (d : Array α) (s : Nat) (W : World) : Prop where
  st : T d W
  own : B ≤ c
  lt : c < W.heap.size
  at_ : W.cell? ⟨c, 0, none⟩ = some (.int .i64 s)
  f : W.frozen? ⟨c, 0, none⟩ = false
omit [Inhabited α] in
theorem Ct.up {B c s : Nat} {T : Array α → World → Prop} {d : Array α} {W w : World} (H : Ct B T c d s W) {d' : Array α} (h : T d' w) (u : Up B W w) : Ct B T c d' s w :=
  ⟨h, H.own, Nat.lt_of_lt_of_le H.lt u.1, (u.cell H.own H.lt).trans H.at_, (u.frozen H.own H.lt).trans H.f⟩
omit [Inhabited α] in
theorem Ct.below {B c s size : Nat} {T : Array α → World → Prop} {d : Array α} {W w : World} (H : Ct B T c d s W) (F : Play B size T) (h : Below W.heap.size W w) : Ct B T c d s w :=
  H.up (F.keep H.st h) (Up.of_below h)
omit [Inhabited α] in
theorem Ct.count {B c s size : Nat} {T : Array α → World → Prop} {d : Array α} {W : World} (H : Ct B T c d s W) (F : Play B size T) (s' : Nat) : Ct B T c d s' (W.setCell ⟨c, 0, none⟩ (.int .i64 s')) :=
  ⟨F.set H.st _ _ H.own, H.own, by simpa using H.lt, World.cell?_setCell_same _ _ _ H.at_, by simpa using H.f⟩
/-- .. inside a callee that was entered in w0, its own box the block K. -/
structure CtF (B : Nat) (T : Array α → World → Prop) (g : Nat) (lb : Array Value) (sf : Nat) (sb : Array Value) (w0 : World) (K c : Nat) (d : Array α) (s : Nat) (W : World) : Prop where
  ct : Ct B T c d s W
  up : UpC B c w0 W
  own : B ≤ K
  lt : K < W.heap.size
  ne : K ≠ c
  c0 : W.cell? ⟨K, 0, none⟩ = some (.func (.func g) #[] lb)
  c1 : W.cell? ⟨K, 1, none⟩ = some (.func (.func sf) #[] sb)
structure CtI (B : Nat) (T : Array α → World → Prop) (w0 : World) (c : Nat) (d : Array α) (s : Nat) (W : World) : Prop where
  ct : Ct B T c d s W
  up : UpC B c w0 W
section
variable {lt : α → α → Bool} {B size : Nat} {T : Array α → World → Prop} {g : Nat} {lb : Array Value} {sf : Nat} {sb : Array Value} {w0 : World} {K c s : Nat} {d : Array α} {W : World}
theorem FuncFam.startC (F : FuncFam P lt B size T g lb sf sb) (h : Ct B T c d s W) (t : TypeId) : CtF B T g lb sf sb W W.heap.size c d s (W.alloc (.cells #[.func (.func g) #[] lb, .func (.func sf) #[] sb] t)) :=
  ⟨h.below F.play ((Below.refl _ _).alloc (Nat.le_refl _) _), UpC.of_up (Up.new _ _ _), F.play.base h.st, by simp, by have := h.lt; omega, by simp, by simp⟩
omit [Inhabited α] in
theorem CtF.call (H : CtF B T g lb sf sb w0 K c d s W) {d' : Array α} {s' : Nat} {w : World} (h : Ct B T c d' s' w) (u : UpC B c W w) : CtF B T g lb sf sb w0 K c d' s' w :=
  ⟨h, H.up.trans u, H.own, Nat.lt_of_lt_of_le H.lt u.1, H.ne, (u.cell H.own H.lt H.ne).trans H.c0, (u.cell H.own H.lt H.ne).trans H.c1⟩
omit [Inhabited α] in
theorem CtI.start (h : Ct B T c d s W) : CtI B T W c d s W := ⟨h, UpC.of_up (Up.refl _ _)⟩
omit [Inhabited α] in
theorem CtI.call (H : CtI B T w0 c d s W) {d' : Array α} {s' : Nat} {w : World} (h : Ct B T c d' s' w) (u : UpC B c W w) : CtI B T w0 c d' s' w := ⟨h, H.up.trans u⟩
theorem CtF.less (H : CtF B T g lb sf sb w0 K c d s W) (F : FuncFam P lt B size T g lb sf sb) (i j : Nat) (v : Bool) (hi : i < size) (hj : j < size) (hv : lt d[i]! d[j]! = v) :
    Calls P g (#[.int .i64 i, .int .i64 j] ++ lb) W fun e w => e = .returned (.bool v) ∧ CtF B T g lb sf sb w0 K c d s w :=
  (F.less H.ct.st i j hi hj).mono fun _ _ ⟨he, hb⟩ => ⟨hv ▸ he, H.call (H.ct.below F.play hb) (UpC.of_up (Up.of_below hb))⟩
theorem CtI.less {ty : TypeId} {rv : Value} {gl gs : Nat} (H : CtI B T w0 c d s W) (F : IfaceFam P lt B size T ty rv gl gs) (i j : Nat) (v : Bool) (hi : i < size) (hj : j < size) (hv : lt d[i]! d[j]! = v) :
    Calls P gl #[rv, .int .i64 i, .int .i64 j] W fun e w => e = .returned (.bool v) ∧ CtI B T w0 c d s w :=
  (F.less H.ct.st i j hi hj).mono fun _ _ ⟨he, hb⟩ => ⟨hv ▸ he, H.call (H.ct.below F.play hb) (UpC.of_up (Up.of_below hb))⟩
end
end Go.Proofs.YtlpnecmcncekcaaGreat.St
/- insertionSort, func -/
namespace Go.Proofs.YtlpnecmcncekcaaGreat.St
open Go Go.RowKit Go.Shelf Go.Lib Go.Sort Go.Proofs
variable {P : Program} {ρ : Ren} {α : Type} [Inhabited α]

set_option maxHeartbeats 2000000 in
set_option maxRecDepth 1000000 in
theorem ins_any (L : LaysGg.n26 P ρ) (lt : α → α → Bool) (B size : Nat) (T : Array α → World → Prop) (g : Nat) (lb : Array Value) (sf : Nat) (sb : Array Value) (F : FuncFam P lt B size T g lb sf sb) (a b : Nat) (hab : a ≤ b) (hb : b ≤ size) (d : Array α) (w : World) (hT : T d w) :
    Calls P (ρ.f 26) #[.agg #[.func (.func g) #[] lb, .func (.func sf) #[] sb], .int .i64 a, .int .i64 b] w fun e w' => e = .returned (.tuple #[]) ∧ T (insertionSort lt d a b) w' ∧ Up B w w' := by
  have mixed := L.mixed; have t0 := L.t0; have a0 := L.a0; have z0 := L.z0; have v0 := L.v0; have t3 := L.t3; have a3 := L.a3; have z3 := L.z3
  have v3 := L.v3; have t4 := L.t4; have a4 := L.a4; have z4 := L.z4; have v4 := L.v4; have t26 := L.t26; have a26 := L.a26; have z26 := L.z26
  have v26 := L.v26; have t37 := L.t37; have a37 := L.a37; have z37 := L.z37; have v37 := L.v37; have t44 := L.t44; have a44 := L.a44; have z44 := L.z44
  have v44 := L.v44
  have u44 := run_underlying L.t44
  have eg := F.eg
  have H0 := F.start hT (ρ.t 44)
  have hsz := F.small
  have hds := F.play.size hT
  go_enter L.f26, BodyGg.n26_ntmps ρ
  go_wp2
  go_loopw [6] (fun vi wr => ∃ (i : Nat) (dk : Array α), vi = .int .i64 i ∧ a < i ∧ i ≤ b + 1 ∧ AtF B T g lb sf sb w w.heap.size dk wr ∧ Hid (insOuter lt a b i dk = insOuter lt a b (a + 1) d)) (fun vi _ => b + 1 - (RowKit.intOf vi).toNat)
  case atStart => exact ⟨a + 1, d, by go_num, by omega, by omega, H0, rfl⟩
  case round =>
    clear H0 hT
    obtain ⟨i, dk, rfl, hai, hib, H, HO⟩ := hrel
    go_wp2
    · go_loopw [7] (fun vj wr2 => ∃ (j : Nat) (dj : Array α), vj = .int .i64 j ∧ a ≤ j ∧ j ≤ i ∧ AtF B T g lb sf sb w w.heap.size dj wr2 ∧ Hid (insInner lt a j dj = insInner lt a i dk)) (fun vj _ => (RowKit.intOf vj).toNat)
      case atStart => exact ⟨i, dk, rfl, by omega, Nat.le_refl _, H, rfl⟩
      case round =>
        clear H
        obtain ⟨j, dj, rfl, haj, hji, H, HI⟩ := hrel
        have hlt : i < b := by assumption
        have c0 := H.c0
        by_cases hja : a < j
        · cases hlv : lt dj[j]! dj[j - 1]! with
          | true =>
            have hl := H.less F (j) (j - 1) true (by omega) (by omega) hlv; rw [show ((j - 1 : Nat) : Int) = (j : Int) - 1 by omega] at hl
            go_wp2_with (go_at_fn g; refine hl.mono ?_; rintro e w1 ⟨rfl, H1⟩; have c1 := H1.c1; obtain ⟨w2, hs, H2⟩ := H1.swap F (j) (j - 1) (by omega) (by omega); rw [show ((j - 1 : Nat) : Int) = (j : Int) - 1 by omega] at hs)
            go_roundw
            case rel =>
              (repeat apply Exists.intro)
              refine ⟨⟨j - 1, swp dj j (j - 1), by congr 1 <;> omega, by omega, by omega, H2, ?_⟩, by rw [decide_eq_true hlt, show ((j - 1 : Nat) : Int) = (j : Int) - 1 by omega]⟩
              show _ = _
              rw [← HI.out, insInner_go lt a j dj hja hlv]
            case measure => simp [RowKit.intOf]; omega
          | false =>
            have hl := H.less F (j) (j - 1) false (by omega) (by omega) hlv; rw [show ((j - 1 : Nat) : Int) = (j : Int) - 1 by omega] at hl
            go_wp2_with (go_at_fn g; refine hl.mono ?_; rintro e w1 ⟨rfl, H1⟩)
            go_roundw
            case rel => exact ⟨i + 1, dj, by go_num, by omega, by omega, H1, by show _ = _; rw [← HO.out, insOuter_go _ _ _ _ _ hlt, ← HI.out, insInner_stop _ _ _ _ (Or.inr hlv)]⟩
            case measure => simp [RowKit.intOf]; omega
        · go_wp2
          go_roundw
          case rel => exact ⟨i + 1, dj, by go_num, by omega, by omega, H, by show _ = _; rw [← HO.out, insOuter_go _ _ _ _ _ hlt, ← HI.out, insInner_stop _ _ _ _ (Or.inl (by omega))]⟩
          case measure => simp [RowKit.intOf]; omega
    · have hge : ¬ i < b := by assumption
      go_end0
      exact ⟨rfl, by unfold Sort.insertionSort; rw [← HO.out, insOuter_stop _ _ _ _ _ hge]; exact H.st, H.up⟩

end Go.Proofs.YtlpnecmcncekcaaGreat.St
/- siftDown, func -/
namespace Go.Proofs.YtlpnecmcncekcaaGreat.St
open Go Go.RowKit Go.Shelf Go.Lib Go.Sort Go.Proofs
variable {P : Program} {ρ : Ren} {α : Type} [Inhabited α]

set_option maxHeartbeats 4000000 in
set_option maxRecDepth 1000000 in
theorem sift_any (L : LaysGg.n34 P ρ) (lt : α → α → Bool) (B size : Nat) (T : Array α → World → Prop) (g : Nat) (lb : Array Value) (sf : Nat) (sb : Array Value) (F : FuncFam P lt B size T g lb sf sb) (lo hi first : Nat) (hlo : lo ≤ hi) (hb : first + hi ≤ size) (d : Array α) (w : World) (hT : T d w) :
    Calls P (ρ.f 34) #[.agg #[.func (.func g) #[] lb, .func (.func sf) #[] sb], .int .i64 lo, .int .i64 hi, .int .i64 first] w fun e w' => e = .returned (.tuple #[]) ∧ T (siftDown lt hi first lo d) w' ∧ Up B w w' := by
  have mixed := L.mixed; have t0 := L.t0; have a0 := L.a0; have z0 := L.z0; have v0 := L.v0; have t3 := L.t3; have a3 := L.a3; have z3 := L.z3
  have v3 := L.v3; have t4 := L.t4; have a4 := L.a4; have z4 := L.z4; have v4 := L.v4; have t26 := L.t26; have a26 := L.a26; have z26 := L.z26
  have v26 := L.v26; have t37 := L.t37; have a37 := L.a37; have z37 := L.z37; have v37 := L.v37; have t44 := L.t44; have a44 := L.a44; have z44 := L.z44
  have v44 := L.v44
  have u44 := run_underlying L.t44
  have eg := F.eg
  have H0 := F.start hT (ρ.t 44)
  have hsz := F.small
  have hds := F.play.size hT
  go_enter L.f34, BodyGg.n34_ntmps ρ
  go_wp2
  go_loopg [8] (hi - lo) (fun kx s8 wr => ∃ (root : Nat) (dk : Array α), s8 = .int .i64 root ∧ root ≤ hi ∧ hi - root ≤ kx ∧ AtF B T g lb sf sb w w.heap.size dk wr ∧ Hid (siftDown lt hi first root dk = siftDown lt hi first lo d))
  case atStart => exact ⟨lo, d, rfl, hlo, Nat.le_refl _, H0, rfl⟩
  case round =>
    clear H0 hT
    obtain ⟨root, dk, rfl, hr, hkx, H, HE⟩ := hrel
    have c0 := H.c0
    by_cases h0 : hi ≤ 2 * root + 1
    · have h0z : (hi : Int) ≤ 2 * (root : Int) + 1 := by omega
      go_wp2
      go_end0
      exact ⟨rfl, by rw [← HE.out, sd_end lt dk h0]; exact H.st, H.up⟩
    · have h0z : ¬ ((hi : Int) ≤ 2 * (root : Int) + 1) := by omega
      by_cases h1 : 2 * root + 2 < hi
      · have h1z : 2 * (root : Int) + 1 + 1 < (hi : Int) := by omega
        cases hL : lt dk[first + (2 * root + 1)]! dk[first + (2 * root + 2)]! with
        | true =>
          have hl := H.less F (first + (2 * root + 1)) (first + (2 * root + 2)) true (by omega) (by omega) hL
          rw [show ((first + (2 * root + 1) : Nat) : Int) = (first : Int) + (2 * (root : Int) + 1) by omega, show ((first + (2 * root + 2) : Nat) : Int) = (first : Int) + (2 * (root : Int) + 1) + 1 by omega] at hl
          cases hG : lt dk[first + root]! dk[first + (2 * root + 2)]! with
          | true =>
            go_wp2_with (first | (go_at_fn g; refine hl.mono ?_; rintro e w1 ⟨rfl, H1⟩; have d0 := H1.c0; have hl2 := H1.less F (first + root) (first + (2 * root + 2)) true (by omega) (by omega) hG; rw [show ((first + root : Nat) : Int) = (first : Int) + (root : Int) by omega, show ((first + (2 * root + 2) : Nat) : Int) = (first : Int) + (2 * (root : Int) + 1 + 1) by omega] at hl2) | (go_at_fn g; refine hl2.mono ?_; rintro e w2 ⟨rfl, H2⟩; have c1 := H2.c1; obtain ⟨w3, hs, H3⟩ := H2.swap F (first + root) (first + (2 * root + 2)) (by omega) (by omega); rw [show ((first + root : Nat) : Int) = (first : Int) + (root : Int) by omega, show ((first + (2 * root + 2) : Nat) : Int) = (first : Int) + (2 * (root : Int) + 1 + 1) by omega] at hs))
            go_roundg (hi - (2 * root + 2))
            case measure => omega
            case rel => exact ⟨2 * root + 2, _, by go_num, by omega, Nat.le_refl _, H3, (show Hid _ from by rw [← HE.out, sd_right_go lt dk h1 hL hG]; exact rfl)⟩
          | false =>
            go_wp2_with (first | (go_at_fn g; refine hl.mono ?_; rintro e w1 ⟨rfl, H1⟩; have d0 := H1.c0; have hl2 := H1.less F (first + root) (first + (2 * root + 2)) false (by omega) (by omega) hG; rw [show ((first + root : Nat) : Int) = (first : Int) + (root : Int) by omega, show ((first + (2 * root + 2) : Nat) : Int) = (first : Int) + (2 * (root : Int) + 1 + 1) by omega] at hl2) | (go_at_fn g; refine hl2.mono ?_; rintro e w2 ⟨rfl, H2⟩))
            (try simp only [Exit.inBlock, Exit.then]); refine bodyPost_ret (results_none rfl _ _ _) rfl ?_
            exact ⟨rfl, by rw [← HE.out, sd_right_stop lt dk h1 hL hG]; exact H2.st, H2.up⟩
        | false =>
          have hl := H.less F (first + (2 * root + 1)) (first + (2 * root + 2)) false (by omega) (by omega) hL
          rw [show ((first + (2 * root + 1) : Nat) : Int) = (first : Int) + (2 * (root : Int) + 1) by omega, show ((first + (2 * root + 2) : Nat) : Int) = (first : Int) + (2 * (root : Int) + 1) + 1 by omega] at hl
          cases hG : lt dk[first + root]! dk[first + (2 * root + 1)]! with
          | true =>
            go_wp2_with (first | (go_at_fn g; refine hl.mono ?_; rintro e w1 ⟨rfl, H1⟩; have d0 := H1.c0; have hl2 := H1.less F (first + root) (first + (2 * root + 1)) true (by omega) (by omega) hG; rw [show ((first + root : Nat) : Int) = (first : Int) + (root : Int) by omega, show ((first + (2 * root + 1) : Nat) : Int) = (first : Int) + (2 * (root : Int) + 1) by omega] at hl2) | (go_at_fn g; refine hl2.mono ?_; rintro e w2 ⟨rfl, H2⟩; have c1 := H2.c1; obtain ⟨w3, hs, H3⟩ := H2.swap F (first + root) (first + (2 * root + 1)) (by omega) (by omega); rw [show ((first + root : Nat) : Int) = (first : Int) + (root : Int) by omega, show ((first + (2 * root + 1) : Nat) : Int) = (first : Int) + (2 * (root : Int) + 1) by omega] at hs))
            go_roundg (hi - (2 * root + 1))
            case measure => omega
            case rel => exact ⟨2 * root + 1, _, by go_num, by omega, Nat.le_refl _, H3, (show Hid _ from by rw [← HE.out, sd_left_go lt dk (by omega) (fun _ => hL) hG]; exact rfl)⟩
          | false =>
            go_wp2_with (first | (go_at_fn g; refine hl.mono ?_; rintro e w1 ⟨rfl, H1⟩; have d0 := H1.c0; have hl2 := H1.less F (first + root) (first + (2 * root + 1)) false (by omega) (by omega) hG; rw [show ((first + root : Nat) : Int) = (first : Int) + (root : Int) by omega, show ((first + (2 * root + 1) : Nat) : Int) = (first : Int) + (2 * (root : Int) + 1) by omega] at hl2) | (go_at_fn g; refine hl2.mono ?_; rintro e w2 ⟨rfl, H2⟩))
            (try simp only [Exit.inBlock, Exit.then]); refine bodyPost_ret (results_none rfl _ _ _) rfl ?_
            exact ⟨rfl, by rw [← HE.out, sd_left_stop lt dk (by omega) (fun _ => hL) hG]; exact H2.st, H2.up⟩
      · have h1z : ¬ (2 * (root : Int) + 1 + 1 < (hi : Int)) := by omega
        cases hG : lt dk[first + root]! dk[first + (2 * root + 1)]! with
        | true =>
          have hl2 := H.less F (first + root) (first + (2 * root + 1)) true (by omega) (by omega) hG; rw [show ((first + root : Nat) : Int) = (first : Int) + (root : Int) by omega, show ((first + (2 * root + 1) : Nat) : Int) = (first : Int) + (2 * (root : Int) + 1) by omega] at hl2
          go_wp2_with (first | (go_at_fn g; refine hl2.mono ?_; rintro e w2 ⟨rfl, H2⟩; have c1 := H2.c1; obtain ⟨w3, hs, H3⟩ := H2.swap F (first + root) (first + (2 * root + 1)) (by omega) (by omega); rw [show ((first + root : Nat) : Int) = (first : Int) + (root : Int) by omega, show ((first + (2 * root + 1) : Nat) : Int) = (first : Int) + (2 * (root : Int) + 1) by omega] at hs))
          go_roundg (hi - (2 * root + 1))
          case measure => omega
          case rel => exact ⟨2 * root + 1, _, by go_num, by omega, Nat.le_refl _, H3, (show Hid _ from by rw [← HE.out, sd_left_go lt dk (by omega) (fun h => absurd h h1) hG]; exact rfl)⟩
        | false =>
          have hl2 := H.less F (first + root) (first + (2 * root + 1)) false (by omega) (by omega) hG; rw [show ((first + root : Nat) : Int) = (first : Int) + (root : Int) by omega, show ((first + (2 * root + 1) : Nat) : Int) = (first : Int) + (2 * (root : Int) + 1) by omega] at hl2
          go_wp2_with (first | (go_at_fn g; refine hl2.mono ?_; rintro e w2 ⟨rfl, H2⟩))
          (try simp only [Exit.inBlock, Exit.then]); refine bodyPost_ret (results_none rfl _ _ _) rfl ?_
          exact ⟨rfl, by rw [← HE.out, sd_left_stop lt dk (by omega) (fun h => absurd h h1) hG]; exact H2.st, H2.up⟩

end Go.Proofs.YtlpnecmcncekcaaGreat.St
/- heapSort, func -/
namespace Go.Proofs.YtlpnecmcncekcaaGreat.St
open Go Go.RowKit Go.Shelf Go.Lib Go.Sort Go.Proofs
variable {P : Program} {ρ : Ren} {α : Type} [Inhabited α]

set_option maxHeartbeats 4000000 in
set_option maxRecDepth 1000000 in
theorem heap_any (L : LaysGg.n27 P ρ) (lt : α → α → Bool) (B size : Nat) (T : Array α → World → Prop) (g : Nat) (lb : Array Value) (sf : Nat) (sb : Array Value) (F : FuncFam P lt B size T g lb sf sb) (a b : Nat) (hab : a ≤ b) (hb : b ≤ size) (d : Array α) (w : World) (hT : T d w) :
    Calls P (ρ.f 27) #[.agg #[.func (.func g) #[] lb, .func (.func sf) #[] sb], .int .i64 a, .int .i64 b] w fun e w' => e = .returned (.tuple #[]) ∧ T (heapSort lt d a b) w' ∧ Up B w w' := by
  have mixed := L.mixed; have t0 := L.t0; have a0 := L.a0; have z0 := L.z0; have v0 := L.v0; have t3 := L.t3; have a3 := L.a3; have z3 := L.z3
  have v3 := L.v3; have t4 := L.t4; have a4 := L.a4; have z4 := L.z4; have v4 := L.v4; have t26 := L.t26; have a26 := L.a26; have z26 := L.z26
  have v26 := L.v26; have t37 := L.t37; have a37 := L.a37; have z37 := L.z37; have v37 := L.v37; have t44 := L.t44; have a44 := L.a44; have z44 := L.z44
  have v44 := L.v44
  have u44 := run_underlying L.t44
  have eg := F.eg
  have H0 := F.start hT (ρ.t 44)
  have hsz := F.small
  have hds := F.play.size hT
  have e34 : ∀ args w, (callFunc (ρ.f 34) args).run P w = .ok (.enter (ρ.f 34) args) w := enters_of L.f34 (by kernel_rfl) rfl
  have ecast : ((b - a : Nat) : Int) = (b : Int) - (a : Int) := by omega
  go_enter L.f27, BodyGg.n27_ntmps ρ
  go_wp2
  go_loopg [9] ((b - a - 1) / 2 + 1) (fun kx s9 wr => s9 = .int .i64 ((kx : Int) - 1) ∧ kx ≤ (b - a - 1) / 2 + 1 ∧ ∃ (dk : Array α), AtF B T g lb sf sb w w.heap.size dk wr ∧ Hid (heapBuild lt (b - a) a kx dk = heapBuild lt (b - a) a ((b - a - 1) / 2 + 1) d))
  case atStart => exact ⟨by rw [half_start hab], Nat.le_refl _, d, H0, rfl⟩
  case round =>
    clear H0 hT
    obtain ⟨rfl, hkk, dk, H, HE⟩ := hrel
    have c0 := H.c0; have c1 := H.c1
    cases gk with
    | zero =>
      have hB : Hid (dk = heapBuild lt (b - a) a ((b - a - 1) / 2 + 1) d) := HE.out
      clear HE hkk
      go_wp2
      go_loopg [10] (b - a) (fun kx s10 wr2 => s10 = .int .i64 ((kx : Int) - 1) ∧ kx ≤ b - a ∧ ∃ (dj : Array α), AtF B T g lb sf sb w w.heap.size dj wr2 ∧ Hid (heapPop lt a kx dj = heapPop lt a (b - a) dk))
      case atStart => exact ⟨by rw [ecast], Nat.le_refl _, dk, H, rfl⟩
      case round =>
        clear c0 c1
        clear H
        obtain ⟨rfl, hkk, dj, H, HE2⟩ := hrel
        have c0 := H.c0; have c1 := H.c1
        cases gk with
        | zero =>
          go_wp2
          go_end0
          have e : dj = heapSort lt d a b := by rw [heapSort, ← hB.out, ← HE2.out]; rfl
          rw [← e]
          exact ⟨rfl, H.st, H.up⟩
        | succ kx =>
          obtain ⟨w2, hs, H2⟩ := H.swap F a (a + kx) (by omega) (by omega)
          rw [show ((a + kx : Nat) : Int) = (a : Int) + (kx : Int) by omega] at hs
          have c2 := H2.c0; have c3 := H2.c1
          have hcall := sift_any (ρ := ρ) { L with } lt B size T g lb sf sb F 0 kx a (Nat.zero_le _) (by omega) (swp dj a (a + kx)) w2 H2.st
          go_wp2_with (go_at_fn (ρ.f 34); refine hcall.mono ?_; rintro e w3 ⟨rfl, hT3, hU3⟩)
          have H3 := H2.call hT3 hU3
          go_roundg kx
          case measure => omega
          case rel => exact ⟨by simp, by omega, siftDown lt kx a 0 (swp dj a (a + kx)), H3, HE2⟩
    | succ kx =>
      have hcall := sift_any (ρ := ρ) { L with } lt B size T g lb sf sb F kx (b - a) a (by omega) (by omega) dk wr H.st
      rw [ecast] at hcall
      go_wp2_with (go_at_fn (ρ.f 34); refine hcall.mono ?_; rintro e w3 ⟨rfl, hT3, hU3⟩)
      have H3 := H.call hT3 hU3
      go_roundg kx
      case measure => omega
      case rel => exact ⟨by simp, by omega, siftDown lt (b - a) a kx dk, H3, HE⟩

end Go.Proofs.YtlpnecmcncekcaaGreat.St
