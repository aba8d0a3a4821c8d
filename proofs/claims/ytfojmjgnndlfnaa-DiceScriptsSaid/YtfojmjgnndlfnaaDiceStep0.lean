/- Dice: a packet and a step thrown, told whole. -/
import Derived.Test.YtfojmjgnndlfnaaDiceConf2
import Derived.Test.YtfojmjgnndlfnaaConfWorkers
import Derived.Test.YtfojmjgnndlfnaaRepeatS
import Derived.Great.BuildSlice
import Derived.Deep.Cut
namespace Go.Proofs.Ytfojmjgnndlfnaa.DiceW
open Go Go.RowKit Conf Dice

abbrev TPk : Nat := 42
abbrev TSt : Nat := 44
abbrev TCf : Nat := 25
theorem fr_of {V : World} {b : Nat} {cs : Array Value} {T : TypeId} (h : V.heap[b]? = some (.cells cs T (0, 0))) (i : Nat) : V.frozen? ⟨b, i, none⟩ = false := by simp [World.frozen?, h]
theorem set_at {V : World} {b i : Nat} {t : TypeId} {q : Nat × Nat} {cs : Array Value} (v : Value) (h : V.heap[b]? = some (.cells cs t q)) : (V.setCell ⟨b, i, none⟩ v).heap[b]? = some (.cells (cs.setIfInBounds i v) t q) := by
  simp [World.setCell, Array.getElem?_modify, h]
theorem heap_at (w : World) (o : Obj) (n : Nat) (h : n = w.heap.size) : (w.alloc o).heap[n]? = some o := by rw [h]; exact heap_alloc_new w o
/-- 'a', so often -/
def reps (n : Int) : ByteArray := ⟨(List.replicate n.toNat (97 : UInt8)).toArray⟩
theorem rep_any (n : Int) (h0 : 0 ≤ n) (h : n < 4) (w : World) : Calls Try.prog 29 #[.string ⟨#[97]⟩, .int .i64 n] w fun e w' => e = .returned (.string (reps n)) ∧ Below w.heap.size w w' := by
  obtain ⟨k, rfl⟩ : ∃ k : Nat, n = (k : Int) := ⟨n.toNat, by omega⟩
  have := Any.strings_Repeat Sha.laysRepeat Sha.extraRepeat ⟨#[97]⟩ k w (by omega) (by show 1 * k ≤ _; omega)
  rw [show (⟨#[97]⟩ : ByteArray).data.toList = [97] from rfl, Sha.repeatL_one'] at this
  exact this
/-- a packet thrown: its channel, its side, its timeout, its data, the state behind it -/
structure PF where
  c : Int
  f : Int
  t : Int
  d : ByteArray
  st : Int
def pkF (st n : Int) : PF :=
  if belZ (nxZ (nxZ st n) 2) 2 = 0 then ⟨belZ st n, belZ (nxZ st n) 2, 0, reps (belZ (nxZ (nxZ (nxZ st n) 2) 2) 4), nxZ (nxZ (nxZ (nxZ st n) 2) 2) 4⟩
  else ⟨belZ st n, belZ (nxZ st n) 2, IntKind.u64.wrap (wrap64 (1 + belZ (nxZ (nxZ (nxZ st n) 2) 2) 20)), reps (belZ (nxZ (nxZ (nxZ (nxZ st n) 2) 2) 20) 4), nxZ (nxZ (nxZ (nxZ (nxZ st n) 2) 2) 20) 4⟩
def PF.cells (p : PF) : Array Value := #[.int .i64 p.c, .int .i64 p.f, .int .u64 0, .int .u64 p.t, .string p.d]
/-- while a packet is thrown -/
structure PB (w V : World) (g : Nat) (st : Int) (cs : Array Value) : Prop where
  d : D TD V g st
  res : V.heap[w.heap.size]? = some (.cells #[.int .i64 0, .int .i64 0, .int .u64 0, .int .u64 0, .string ⟨#[]⟩] TPk (0, 0))
  box : V.heap[w.heap.size + 1]? = some (.cells cs TPk (0, 0))
  on : On g w V
  lt : g < w.heap.size
theorem PB.call {w V V' : World} {g : Nat} {st st' : Int} {cs : Array Value} (h : PB w V g st cs) (hd : D TD V' g st') (ho : On g V V') : PB w V' g st' cs :=
  ⟨hd, (ho.block _ (blk_lt h.res) (by have := h.lt; omega)).trans h.res, (ho.block _ (blk_lt h.box) (by have := h.lt; omega)).trans h.box, h.on.trans ho, h.lt⟩
theorem PB.below {w V V' : World} {g : Nat} {st : Int} {cs : Array Value} (h : PB w V g st cs) (hb : Below V.heap.size V V') : PB w V' g st cs :=
  h.call ((hb.block _ (blk_lt h.d)).trans h.d) (On.of_below hb)
theorem PB.set {w V : World} {g : Nat} {st : Int} {cs : Array Value} (h : PB w V g st cs) (i : Nat) (v : Value) : PB w (V.setCell ⟨w.heap.size + 1, i, none⟩ v) g st (cs.setIfInBounds i v) :=
  ⟨blk_far h.d (by have := h.lt; omega), blk_far h.res (by omega), set_at v h.box, h.on.set (by omega) i v, h.lt⟩
set_option maxRecDepth 20000 in
set_option maxHeartbeats 4000000 in
theorem packet_any {w : World} {g : Nat} {st n : Int} (h : D TD w g st) (hn : n ≤ 9223372036854775807) : Calls Try.prog 27 #[.pointer (some ⟨g, 0, none⟩), .int .i64 n] w fun e w' => e = .returned (.agg (pkF st n).cells) ∧ D TD w' g (pkF st n).st ∧ On g w w' := by
  have hlt := blk_lt h
  have h0 : PB w ((w.alloc (.cells #[.int .i64 0, .int .i64 0, .int .u64 0, .int .u64 0, .string ⟨#[]⟩] TPk)).alloc (.cells #[.int .i64 0, .int .i64 0, .int .u64 0, .int .u64 0, .string ⟨#[]⟩] TPk)) g st #[.int .i64 0, .int .i64 0, .int .u64 0, .int .u64 0, .string ⟨#[]⟩] :=
    ⟨blk_alloc (blk_alloc h), blk_alloc (heap_alloc_new w _), heap_at _ _ _ (by simp), ((On.refl _ _).alloc _).alloc _, hlt⟩
  obtain ⟨w0, hw0⟩ : ∃ X, X = (w.alloc (.cells #[.int .i64 0, .int .i64 0, .int .u64 0, .int .u64 0, .string ⟨#[]⟩] TPk)).alloc (.cells #[.int .i64 0, .int .i64 0, .int .u64 0, .int .u64 0, .string ⟨#[]⟩] TPk) := ⟨_, rfl⟩
  rw [← hw0] at h0
  have H0 := Lib.hid h0
  clear h0 h hlt
  go_enter Try.func27, Try.ntmps27
  go_upto_region 2 with fail
  rw [← hw0]
  clear hw0
  go_wp2_with fail
  refine (below_on H0.out.d hn).mono ?_
  rintro _ w1 ⟨rfl, d, o⟩
  have h := H0.out.call d o
  clear d o
  have c0 := cell_of_row w1 (w.heap.size + 1) 0 _ _ (0, 0) h.box
  have f0 := fr_of h.box 0
  have H1 := Lib.hid (h.set 0 (.int .i64 (belZ st n)))
  clear h H0
  go_wp2_with fail
  refine (below_on H1.out.d (by decide)).mono ?_
  rintro _ w2 ⟨rfl, d, o⟩
  have h := H1.out.call d o
  clear d o
  have c1 := cell_of_row w2 (w.heap.size + 1) 1 _ _ (0, 0) h.box
  have f1 := fr_of h.box 1
  have H2 := Lib.hid (h.set 1 (.int .i64 (belZ (nxZ st n) 2)))
  clear h H1 c0 f0
  go_wp2_with fail
  refine (below_on H2.out.d (by decide)).mono ?_
  rintro _ w3 ⟨rfl, d, o⟩
  have h := H2.out.call d o
  clear d o
  have H3 := Lib.hid h
  clear h H2 c1 f1
  by_cases hz : belZ (nxZ (nxZ st n) 2) 2 = 0
  · go_wp2_with fail
    refine (below_on H3.out.d (by decide)).mono ?_
    rintro _ w5 ⟨rfl, d, o⟩
    have h := H3.out.call d o
    clear d o
    have H5 := Lib.hid h
    clear h
    have hb4 := bel_lo (st := nxZ (nxZ (nxZ st n) 2) 2) (n := 4) (by decide) (by decide)
    have hbz : belZ (nxZ (nxZ (nxZ st n) 2) 2) 4 = bel (nxZ (nxZ (nxZ st n) 2) 2) 4 := if_neg (by decide)
    have HR := Lib.hid (fun V => rep_any (belZ (nxZ (nxZ (nxZ st n) 2) 2) 4) (by rw [hbz]; exact hb4.1) (by rw [hbz]; exact hb4.2) V)
    clear hb4 hbz
    go_wp2_with fail
    refine (HR.out _).mono ?_
    rintro _ w6 ⟨rfl, b6⟩
    have h := H5.out.below b6
    have c4 := cell_of_row w6 (w.heap.size + 1) 4 _ _ (0, 0) h.box
    have f4 := fr_of h.box 4
    have H6 : Hid (PB w (w6.setCell ⟨w.heap.size + 1, 4, none⟩ (.string (reps (belZ (nxZ (nxZ (nxZ st n) 2) 2) 4)))) g (nxZ (nxZ (nxZ (nxZ st n) 2) 2) 4) #[.int .i64 (belZ st n), .int .i64 (belZ (nxZ st n) 2), .int .u64 0, .int .u64 (0), .string (reps (belZ (nxZ (nxZ (nxZ st n) 2) 2) 4))]) := Lib.hid (h.set 4 (.string (reps (belZ (nxZ (nxZ (nxZ st n) 2) 2) 4))))
    clear h b6 H5 HR
    go_upto_region 7 with fail
    obtain ⟨w7, hw7⟩ : ∃ X, X = w6.setCell ⟨w.heap.size + 1, 4, none⟩ (.string (reps (belZ (nxZ (nxZ (nxZ st n) 2) 2) 4))) := ⟨_, rfl⟩
    rw [← hw7] at H6 ⊢
    clear hw7 c4 f4
    refine wp_region_lit ?_
    refine wpList_load_row rfl TPk _ rfl (w.heap.size + 1) rfl TPk _ (0, 0) _ H6.out.box Try.underlying42 rfl (by kernel_rfl) ?_
    refine wpList_store_rowTo rfl TPk _ _ rfl rfl w.heap.size _ rfl rfl TPk _ H6.out.res (by kernel_rfl) rfl (by simp [Value.oneCell']) ?_
    refine wpList_nil ?_
    have HR' := setRow_heap w7 w.heap.size _ #[.int .i64 (belZ st n), .int .i64 (belZ (nxZ st n) 2), .int .u64 0, .int .u64 (0), .string (reps (belZ (nxZ (nxZ (nxZ st n) 2) 2) 4))] TPk (0, 0) H6.out.res
    have HO9 := H6.out.on.setRow (Nat.le_refl _) #[.int .i64 (belZ st n), .int .i64 (belZ (nxZ st n) 2), .int .u64 0, .int .u64 (0), .string (reps (belZ (nxZ (nxZ (nxZ st n) 2) 2) 4))]
    have HD9 := (setRow_other w7 w.heap.size g #[.int .i64 (belZ st n), .int .i64 (belZ (nxZ st n) 2), .int .u64 0, .int .u64 (0), .string (reps (belZ (nxZ (nxZ (nxZ st n) 2) 2) 4))] (by have := H6.out.lt; omega)).trans H6.out.d
    obtain ⟨w9, hw9⟩ : ∃ X, X = w7.setRow w.heap.size #[.int .i64 (belZ st n), .int .i64 (belZ (nxZ st n) 2), .int .u64 0, .int .u64 (0), .string (reps (belZ (nxZ (nxZ (nxZ st n) 2) 2) 4))] := ⟨_, rfl⟩
    rw [← hw9] at HR' HO9 HD9 ⊢
    clear hw9
    go_wp2_with fail
    have hF : pkF st n = _ := if_pos hz
    rw [hF]
    exact bodyPost_ret (results_cell_row Try.results27 _ _ w.heap.size TPk _ (0, 0) _ rfl HR' Try.underlying42 rfl (by kernel_rfl)) rfl ⟨rfl, HD9, HO9⟩
  · go_wp2_with fail
    refine (below_on H3.out.d (by decide)).mono ?_
    rintro _ w4 ⟨rfl, d, o⟩
    have h := H3.out.call d o
    clear d o
    have c3 := cell_of_row w4 (w.heap.size + 1) 3 _ _ (0, 0) h.box
    have f3 := fr_of h.box 3
    have H4 := Lib.hid (h.set 3 (.int .u64 (IntKind.u64.wrap (wrap64 (1 + belZ (nxZ (nxZ (nxZ st n) 2) 2) 20)))))
    clear h H3
    go_wp2_with fail
    refine (below_on H4.out.d (by decide)).mono ?_
    rintro _ w5 ⟨rfl, d, o⟩
    have h := H4.out.call d o
    clear d o
    have H5 := Lib.hid h
    clear h
    have hb4 := bel_lo (st := nxZ (nxZ (nxZ (nxZ st n) 2) 2) 20) (n := 4) (by decide) (by decide)
    have hbz : belZ (nxZ (nxZ (nxZ (nxZ st n) 2) 2) 20) 4 = bel (nxZ (nxZ (nxZ (nxZ st n) 2) 2) 20) 4 := if_neg (by decide)
    have HR := Lib.hid (fun V => rep_any (belZ (nxZ (nxZ (nxZ (nxZ st n) 2) 2) 20) 4) (by rw [hbz]; exact hb4.1) (by rw [hbz]; exact hb4.2) V)
    clear hb4 hbz
    go_wp2_with fail
    refine (HR.out _).mono ?_
    rintro _ w6 ⟨rfl, b6⟩
    have h := H5.out.below b6
    have c4 := cell_of_row w6 (w.heap.size + 1) 4 _ _ (0, 0) h.box
    have f4 := fr_of h.box 4
    have H6 : Hid (PB w (w6.setCell ⟨w.heap.size + 1, 4, none⟩ (.string (reps (belZ (nxZ (nxZ (nxZ (nxZ st n) 2) 2) 20) 4)))) g (nxZ (nxZ (nxZ (nxZ (nxZ st n) 2) 2) 20) 4) #[.int .i64 (belZ st n), .int .i64 (belZ (nxZ st n) 2), .int .u64 0, .int .u64 (IntKind.u64.wrap (wrap64 (1 + belZ (nxZ (nxZ (nxZ st n) 2) 2) 20))), .string (reps (belZ (nxZ (nxZ (nxZ (nxZ st n) 2) 2) 20) 4))]) := Lib.hid (h.set 4 (.string (reps (belZ (nxZ (nxZ (nxZ (nxZ st n) 2) 2) 20) 4))))
    clear h b6 H5 HR
    go_upto_region 7 with fail
    obtain ⟨w7, hw7⟩ : ∃ X, X = w6.setCell ⟨w.heap.size + 1, 4, none⟩ (.string (reps (belZ (nxZ (nxZ (nxZ (nxZ st n) 2) 2) 20) 4))) := ⟨_, rfl⟩
    rw [← hw7] at H6 ⊢
    clear hw7 c4 f4
    refine wp_region_lit ?_
    refine wpList_load_row rfl TPk _ rfl (w.heap.size + 1) rfl TPk _ (0, 0) _ H6.out.box Try.underlying42 rfl (by kernel_rfl) ?_
    refine wpList_store_rowTo rfl TPk _ _ rfl rfl w.heap.size _ rfl rfl TPk _ H6.out.res (by kernel_rfl) rfl (by simp [Value.oneCell']) ?_
    refine wpList_nil ?_
    have HR' := setRow_heap w7 w.heap.size _ #[.int .i64 (belZ st n), .int .i64 (belZ (nxZ st n) 2), .int .u64 0, .int .u64 (IntKind.u64.wrap (wrap64 (1 + belZ (nxZ (nxZ (nxZ st n) 2) 2) 20))), .string (reps (belZ (nxZ (nxZ (nxZ (nxZ st n) 2) 2) 20) 4))] TPk (0, 0) H6.out.res
    have HO9 := H6.out.on.setRow (Nat.le_refl _) #[.int .i64 (belZ st n), .int .i64 (belZ (nxZ st n) 2), .int .u64 0, .int .u64 (IntKind.u64.wrap (wrap64 (1 + belZ (nxZ (nxZ (nxZ st n) 2) 2) 20))), .string (reps (belZ (nxZ (nxZ (nxZ (nxZ st n) 2) 2) 20) 4))]
    have HD9 := (setRow_other w7 w.heap.size g #[.int .i64 (belZ st n), .int .i64 (belZ (nxZ st n) 2), .int .u64 0, .int .u64 (IntKind.u64.wrap (wrap64 (1 + belZ (nxZ (nxZ (nxZ st n) 2) 2) 20))), .string (reps (belZ (nxZ (nxZ (nxZ (nxZ st n) 2) 2) 20) 4))] (by have := H6.out.lt; omega)).trans H6.out.d
    obtain ⟨w9, hw9⟩ : ∃ X, X = w7.setRow w.heap.size #[.int .i64 (belZ st n), .int .i64 (belZ (nxZ st n) 2), .int .u64 0, .int .u64 (IntKind.u64.wrap (wrap64 (1 + belZ (nxZ (nxZ (nxZ st n) 2) 2) 20))), .string (reps (belZ (nxZ (nxZ (nxZ (nxZ st n) 2) 2) 20) 4))] := ⟨_, rfl⟩
    rw [← hw9] at HR' HO9 HD9 ⊢
    clear hw9
    go_wp2_with fail
    have hF : pkF st n = _ := if_neg hz
    rw [hF]
    exact bodyPost_ret (results_cell_row Try.results27 _ _ w.heap.size TPk _ (0, 0) _ rfl HR' Try.underlying42 rfl (by kernel_rfl)) rfl ⟨rfl, HD9, HO9⟩
end Go.Proofs.Ytfojmjgnndlfnaa.DiceW
