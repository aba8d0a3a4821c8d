/- What a sort asks of a row that it never reads itself: an abstract state of it, in both forms of pdqsort. -/
import Derived.Below
import Derived.Calls
import Derived.Sort.Lot0
import Derived.Laws.World
namespace Go.Proofs.Ytpkkomifenlkaaa.St
open Go Go.RowKit
variable {P : Program} {α : Type} [Inhabited α]

/-- From block B on all that stood stands. -/
def Up (B : Nat) (W w : World) : Prop := W.heap.size ≤ w.heap.size ∧ ∀ k, B ≤ k → k < W.heap.size → w.heap[k]? = W.heap[k]?
theorem Up.refl (B : Nat) (W : World) : Up B W W := ⟨Nat.le_refl _, fun _ _ _ => rfl⟩
theorem Up.trans {B : Nat} {a b c : World} (h : Up B a b) (k : Up B b c) : Up B a c :=
  ⟨Nat.le_trans h.1 k.1, fun i hB hi => (k.2 i hB (Nat.lt_of_lt_of_le hi h.1)).trans (h.2 i hB hi)⟩
theorem Up.of_below {B : Nat} {W w : World} (h : Below W.heap.size W w) : Up B W w := ⟨h.size, fun k _ hk => h.block k hk⟩
theorem Up.cell {B : Nat} {W w : World} (h : Up B W w) {k o : Nat} (hB : B ≤ k) (hk : k < W.heap.size) : w.cell? ⟨k, o, none⟩ = W.cell? ⟨k, o, none⟩ := World.cell?_of_block (w := W) (h.2 k hB hk)
theorem Up.new (B : Nat) (W : World) (o : Obj) : Up B W (W.alloc o) := Up.of_below ((Below.refl _ _).alloc (Nat.le_refl _) o)

/-- A state of a row of so many things: what lies below B and is not the row's is its own business. -/
structure Play (B size : Nat) (T : Array α → World → Prop) : Prop where
  base : ∀ {d : Array α} {W : World}, T d W → B ≤ W.heap.size
  size : ∀ {d : Array α} {W : World}, T d W → d.size = size
  keep : ∀ {d : Array α} {W w : World}, T d W → Below W.heap.size W w → T d w
  set : ∀ {d : Array α} {W : World}, T d W → ∀ (a : Addr) (v : Value), B ≤ a.block → T d (W.setCell a v)

/-! ### sort.Slice's form: a closure that compares, another one that swaps -/
structure FuncFam (P : Program) (lt : α → α → Bool) (B size : Nat) (T : Array α → World → Prop) (g : Nat) (lb : Array Value) (sf : Nat) (sb : Array Value) : Prop where
  play : Play B size T
  small : size < 4611686018427387904
  eg : ∀ args w, (callFunc g args).run P w = .ok (.enter g args) w
  less : ∀ {d : Array α} {W : World}, T d W → ∀ i j : Nat, i < size → j < size → Calls P g (#[.int .i64 i, .int .i64 j] ++ lb) W fun e w => e = .returned (.bool (lt d[i]! d[j]!)) ∧ Below W.heap.size W w
  swap : ∀ {d : Array α} {W : World}, T d W → ∀ i j : Nat, i < size → j < size → ∃ w, (callFunc sf (#[.int .i64 i, .int .i64 j] ++ sb)).run P W = .ok (.value (.tuple #[])) w ∧ T (Sort.swp d i j) w ∧ Up B W w

/-- Inside a callee that was entered in w0, its own box of the two closures the block K. -/
structure AtF (B : Nat) (T : Array α → World → Prop) (g : Nat) (lb : Array Value) (sf : Nat) (sb : Array Value) (w0 : World) (K : Nat) (d : Array α) (W : World) : Prop where
  st : T d W
  up : Up B w0 W
  own : B ≤ K
  lt : K < W.heap.size
  c0 : W.cell? ⟨K, 0, none⟩ = some (.func (.func g) #[] lb)
  c1 : W.cell? ⟨K, 1, none⟩ = some (.func (.func sf) #[] sb)

section
variable {lt : α → α → Bool} {B size : Nat} {T : Array α → World → Prop} {g : Nat} {lb : Array Value} {sf : Nat} {sb : Array Value} {w0 : World} {K : Nat} {d : Array α} {W : World}
theorem FuncFam.start (F : FuncFam P lt B size T g lb sf sb) (h : T d W) (t : TypeId) : AtF B T g lb sf sb W W.heap.size d (W.alloc (.cells #[.func (.func g) #[] lb, .func (.func sf) #[] sb] t)) :=
  ⟨F.play.keep h ((Below.refl _ _).alloc (Nat.le_refl _) _), Up.new _ _ _, F.play.base h, by simp, by simp, by simp⟩
omit [Inhabited α] in
theorem AtF.call (H : AtF B T g lb sf sb w0 K d W) {d' : Array α} {w : World} (h : T d' w) (u : Up B W w) : AtF B T g lb sf sb w0 K d' w :=
  ⟨h, H.up.trans u, H.own, Nat.lt_of_lt_of_le H.lt u.1, (u.cell H.own H.lt).trans H.c0, (u.cell H.own H.lt).trans H.c1⟩
theorem AtF.below (H : AtF B T g lb sf sb w0 K d W) (F : FuncFam P lt B size T g lb sf sb) {w : World} (h : Below W.heap.size W w) : AtF B T g lb sf sb w0 K d w :=
  H.call (F.play.keep H.st h) (Up.of_below h)
theorem AtF.less (H : AtF B T g lb sf sb w0 K d W) (F : FuncFam P lt B size T g lb sf sb) (i j : Nat) (v : Bool) (hi : i < size) (hj : j < size) (hv : lt d[i]! d[j]! = v) :
    Calls P g (#[.int .i64 i, .int .i64 j] ++ lb) W fun e w => e = .returned (.bool v) ∧ AtF B T g lb sf sb w0 K d w :=
  (F.less H.st i j hi hj).mono fun _ _ ⟨he, hb⟩ => ⟨hv ▸ he, H.below F hb⟩
theorem AtF.swap (H : AtF B T g lb sf sb w0 K d W) (F : FuncFam P lt B size T g lb sf sb) (i j : Nat) (hi : i < size) (hj : j < size) :
    ∃ w, (callFunc sf (#[.int .i64 i, .int .i64 j] ++ sb)).run P W = .ok (.value (.tuple #[])) w ∧ AtF B T g lb sf sb w0 K (Sort.swp d i j) w := by
  obtain ⟨w, h1, h2, h3⟩ := F.swap H.st i j hi hj
  exact ⟨w, h1, H.call h2 h3⟩
end

/-! ### sort.Sort's form: two methods -/
structure IfaceFam (P : Program) (lt : α → α → Bool) (B size : Nat) (T : Array α → World → Prop) (ty : TypeId) (rv : Value) (gl gs : Nat) : Prop where
  play : Play B size T
  small : size < 4611686018427387904
  mL : ∀ w, Sem.run P (method (P.types.size + 100) ty rv "Less") w = .ok (gl, rv) w
  mS : ∀ w, Sem.run P (method (P.types.size + 100) ty rv "Swap") w = .ok (gs, rv) w
  eL : ∀ args w, (callFunc gl args).run P w = .ok (.enter gl args) w
  eS : ∀ args w, (callFunc gs args).run P w = .ok (.enter gs args) w
  less : ∀ {d : Array α} {W : World}, T d W → ∀ i j : Nat, i < size → j < size → Calls P gl #[rv, .int .i64 i, .int .i64 j] W fun e w => e = .returned (.bool (lt d[i]! d[j]!)) ∧ Below W.heap.size W w
  swap : ∀ {d : Array α} {W : World}, T d W → ∀ i j : Nat, i < size → j < size → Calls P gs #[rv, .int .i64 i, .int .i64 j] W fun e w => e = .returned (.tuple #[]) ∧ T (Sort.swp d i j) w ∧ Up B W w

structure AtI (B : Nat) (T : Array α → World → Prop) (w0 : World) (d : Array α) (W : World) : Prop where
  st : T d W
  up : Up B w0 W

section
variable {lt : α → α → Bool} {B size : Nat} {T : Array α → World → Prop} {ty : TypeId} {rv : Value} {gl gs : Nat} {w0 : World} {d : Array α} {W : World}
omit [Inhabited α] in
theorem AtI.start (h : T d W) : AtI B T W d W := ⟨h, Up.refl _ _⟩
omit [Inhabited α] in
theorem AtI.call (H : AtI B T w0 d W) {d' : Array α} {w : World} (h : T d' w) (u : Up B W w) : AtI B T w0 d' w := ⟨h, H.up.trans u⟩
theorem AtI.below (H : AtI B T w0 d W) (F : IfaceFam P lt B size T ty rv gl gs) {w : World} (h : Below W.heap.size W w) : AtI B T w0 d w := H.call (F.play.keep H.st h) (Up.of_below h)
theorem AtI.less (H : AtI B T w0 d W) (F : IfaceFam P lt B size T ty rv gl gs) (i j : Nat) (v : Bool) (hi : i < size) (hj : j < size) (hv : lt d[i]! d[j]! = v) :
    Calls P gl #[rv, .int .i64 i, .int .i64 j] W fun e w => e = .returned (.bool v) ∧ AtI B T w0 d w :=
  (F.less H.st i j hi hj).mono fun _ _ ⟨he, hb⟩ => ⟨hv ▸ he, H.below F hb⟩
theorem AtI.swap (H : AtI B T w0 d W) (F : IfaceFam P lt B size T ty rv gl gs) (i j : Nat) (hi : i < size) (hj : j < size) :
    Calls P gs #[rv, .int .i64 i, .int .i64 j] W fun e w => e = .returned (.tuple #[]) ∧ AtI B T w0 (Sort.swp d i j) w :=
  (F.swap H.st i j hi hj).mono fun _ _ ⟨he, h2, h3⟩ => ⟨he, H.call h2 h3⟩
end
/-! ### A counter, which the callees write through a pointer -/
/-- From block B on all that stood stands, but block c. -/
def UpC (B c : Nat) (W w : World) : Prop := W.heap.size ≤ w.heap.size ∧ ∀ k, B ≤ k → k < W.heap.size → k ≠ c → w.heap[k]? = W.heap[k]?
theorem UpC.trans {B c : Nat} {x y z : World} (h : UpC B c x y) (k : UpC B c y z) : UpC B c x z :=
  ⟨Nat.le_trans h.1 k.1, fun i hB hi hc => (k.2 i hB (Nat.lt_of_lt_of_le hi h.1) hc).trans (h.2 i hB hi hc)⟩
theorem UpC.of_up {B c : Nat} {W w : World} (h : Up B W w) : UpC B c W w := ⟨h.1, fun k hB hk _ => h.2 k hB hk⟩
theorem UpC.cell {B c : Nat} {W w : World} (h : UpC B c W w) {k o : Nat} (hB : B ≤ k) (hk : k < W.heap.size) (hc : k ≠ c) : w.cell? ⟨k, o, none⟩ = W.cell? ⟨k, o, none⟩ := World.cell?_of_block (w := W) (h.2 k hB hk hc)
theorem Up.frozen {B : Nat} {W w : World} (h : Up B W w) {k o : Nat} (hB : B ≤ k) (hk : k < W.heap.size) : w.frozen? ⟨k, o, none⟩ = W.frozen? ⟨k, o, none⟩ := World.frozen?_of_block (w := W) (h.2 k hB hk)
theorem UpC.set {B c : Nat} {W w : World} (h : UpC B c W w) (o : Nat) (v : Value) : UpC B c W (w.setCell ⟨c, o, none⟩ v) :=
  ⟨by simpa using h.1, fun k hB hk hc => (Below.heap_setCell _ _ _ _ hc).trans (h.2 k hB hk hc)⟩
/-- A counter c that stands at s. -/
structure Ct (B : Nat) (T : Array α → World → Prop) (c : Nat) (d : Array α) (s : Nat) (W : World) : Prop where
  st : T d W
  own : B ≤ c
  lt : c < W.heap.size
  at_ : W.cell? ⟨c, 0, none⟩ = some (.int .i64 s)
  f : W.frozen? ⟨c, 0, none⟩ = false
omit [Inhabited α] in
theorem Ct.up {B c s : Nat} {T : Array α → World → Prop} {d : Array α} {W w : World} (H : Ct B T c d s W) {d' : Array α} (h : T d' w) (u : Up B W w) : Ct B T c d' s w :=
  ⟨h, H.own, Nat.lt_of_lt_of_le H.lt u.1, (u.cell H.own H.lt).trans H.at_, (u.frozen H.own H.lt).trans H.f⟩
omit [Inhabited α] in
theorem Ct.below {B c s size : Nat} {T : Array α → World → Prop} {d : Array α} {W w : World} (H : Ct B T c d s W) (F : Play B size T) (h : Below W.heap.size W w) : Ct B T c d s w :=
  H.up (F.keep H.st h) (Up.of_below h)
omit [Inhabited α] in
theorem Ct.count {B c s size : Nat} {T : Array α → World → Prop} {d : Array α} {W : World} (H : Ct B T c d s W) (F : Play B size T) (s' : Nat) : Ct B T c d s' (W.setCell ⟨c, 0, none⟩ (.int .i64 s')) :=
  ⟨F.set H.st _ _ H.own, H.own, by simpa using H.lt, World.cell?_setCell_same _ _ _ H.at_, by simpa using H.f⟩
/-- .. inside a callee that was entered in w0, its own box the block K. -/
structure CtF (B : Nat) (T : Array α → World → Prop) (g : Nat) (lb : Array Value) (sf : Nat) (sb : Array Value) (w0 : World) (K c : Nat) (d : Array α) (s : Nat) (W : World) : Prop where
  ct : Ct B T c d s W
  up : UpC B c w0 W
  own : B ≤ K
  lt : K < W.heap.size
  ne : K ≠ c
  c0 : W.cell? ⟨K, 0, none⟩ = some (.func (.func g) #[] lb)
  c1 : W.cell? ⟨K, 1, none⟩ = some (.func (.func sf) #[] sb)
structure CtI (B : Nat) (T : Array α → World → Prop) (w0 : World) (c : Nat) (d : Array α) (s : Nat) (W : World) : Prop where
  ct : Ct B T c d s W
  up : UpC B c w0 W
section
variable {lt : α → α → Bool} {B size : Nat} {T : Array α → World → Prop} {g : Nat} {lb : Array Value} {sf : Nat} {sb : Array Value} {w0 : World} {K c s : Nat} {d : Array α} {W : World}
theorem FuncFam.startC (F : FuncFam P lt B size T g lb sf sb) (h : Ct B T c d s W) (t : TypeId) : CtF B T g lb sf sb W W.heap.size c d s (W.alloc (.cells #[.func (.func g) #[] lb, .func (.func sf) #[] sb] t)) :=
  ⟨h.below F.play ((Below.refl _ _).alloc (Nat.le_refl _) _), UpC.of_up (Up.new _ _ _), F.play.base h.st, by simp, by have := h.lt; omega, by simp, by simp⟩
omit [Inhabited α] in
theorem CtF.call (H : CtF B T g lb sf sb w0 K c d s W) {d' : Array α} {s' : Nat} {w : World} (h : Ct B T c d' s' w) (u : UpC B c W w) : CtF B T g lb sf sb w0 K c d' s' w :=
  ⟨h, H.up.trans u, H.own, Nat.lt_of_lt_of_le H.lt u.1, H.ne, (u.cell H.own H.lt H.ne).trans H.c0, (u.cell H.own H.lt H.ne).trans H.c1⟩
omit [Inhabited α] in
theorem CtI.start (h : Ct B T c d s W) : CtI B T W c d s W := ⟨h, UpC.of_up (Up.refl _ _)⟩
omit [Inhabited α] in
theorem CtI.call (H : CtI B T w0 c d s W) {d' : Array α} {s' : Nat} {w : World} (h : Ct B T c d' s' w) (u : UpC B c W w) : CtI B T w0 c d' s' w := ⟨h, H.up.trans u⟩
theorem CtF.less (H : CtF B T g lb sf sb w0 K c d s W) (F : FuncFam P lt B size T g lb sf sb) (i j : Nat) (v : Bool) (hi : i < size) (hj : j < size) (hv : lt d[i]! d[j]! = v) :
    Calls P g (#[.int .i64 i, .int .i64 j] ++ lb) W fun e w => e = .returned (.bool v) ∧ CtF B T g lb sf sb w0 K c d s w :=
  (F.less H.ct.st i j hi hj).mono fun _ _ ⟨he, hb⟩ => ⟨hv ▸ he, H.call (H.ct.below F.play hb) (UpC.of_up (Up.of_below hb))⟩
theorem CtI.less {ty : TypeId} {rv : Value} {gl gs : Nat} (H : CtI B T w0 c d s W) (F : IfaceFam P lt B size T ty rv gl gs) (i j : Nat) (v : Bool) (hi : i < size) (hj : j < size) (hv : lt d[i]! d[j]! = v) :
    Calls P gl #[rv, .int .i64 i, .int .i64 j] W fun e w => e = .returned (.bool v) ∧ CtI B T w0 c d s w :=
  (F.less H.ct.st i j hi hj).mono fun _ _ ⟨he, hb⟩ => ⟨hv ▸ he, H.call (H.ct.below F.play hb) (UpC.of_up (Up.of_below hb))⟩
end
end Go.Proofs.Ytpkkomifenlkaaa.St
