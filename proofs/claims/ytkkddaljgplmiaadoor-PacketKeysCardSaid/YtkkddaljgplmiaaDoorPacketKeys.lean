/- 'PacketKeys' holds for every input: which of two keys is ahead; a key's name. -/
import Derived.Test.YtkkddaljgplmiaaDoorKeyLess
namespace Go.Proofs.YtkkddaljgplmiaaDoor.packetKeys
open Go Go.RowKit Num Dec

abbrev K9 (w0 : World) (g : Nat) (a b k : K3) (W : World) : Prop := ((Below w0.heap.size w0 W ∧ Tab W) ∧ g + 2 < w0.heap.size) ∧ W.cell? ⟨g, 0, none⟩ = some (.int .i64 a.c) ∧ W.cell? ⟨g, 1, none⟩ = some (.int .i64 a.f) ∧ W.cell? ⟨g, 2, none⟩ = some (.int .u64 (a.s : Int)) ∧ W.cell? ⟨g + 1, 0, none⟩ = some (.int .i64 b.c) ∧ W.cell? ⟨g + 1, 1, none⟩ = some (.int .i64 b.f) ∧ W.cell? ⟨g + 1, 2, none⟩ = some (.int .u64 (b.s : Int)) ∧ W.cell? ⟨g + 2, 0, none⟩ = some (.int .i64 k.c) ∧ W.cell? ⟨g + 2, 1, none⟩ = some (.int .i64 k.f) ∧ W.cell? ⟨g + 2, 2, none⟩ = some (.int .u64 (k.s : Int))
theorem K9.call {w0 W W1 : World} {g : Nat} {a b k : K3} (h : K9 w0 g a b k W) (hb : Below W.heap.size W W1) : K9 w0 g a b k W1 := by
  have hs := h.1.1.1.size
  have hg := h.1.2
  have h0 : ∀ j, W1.cell? ⟨g, j, none⟩ = W.cell? ⟨g, j, none⟩ := fun j => hb.cell (p := ⟨g, j, none⟩) (show g < W.heap.size by omega)
  have h1 : ∀ j, W1.cell? ⟨g + 1, j, none⟩ = W.cell? ⟨g + 1, j, none⟩ := fun j => hb.cell (p := ⟨g + 1, j, none⟩) (show g + 1 < W.heap.size by omega)
  have h2 : ∀ j, W1.cell? ⟨g + 2, j, none⟩ = W.cell? ⟨g + 2, j, none⟩ := fun j => hb.cell (p := ⟨g + 2, j, none⟩) (show g + 2 < W.heap.size by omega)
  refine ⟨⟨⟨h.1.1.1.trans (hb.mono hs), tab_below h.1.1.2 hb⟩, hg⟩, ?_⟩
  have h3 := h.2
  rw [h0, h0, h0, h1, h1, h1, h2, h2, h2]
  exact h3
theorem K9.new (w : World) (a b k : K3) (ht : Tab w) : K9 (((w.alloc (.cells a.cells 24)).alloc (.cells b.cells 24)).alloc (.cells k.cells 24)) w.heap.size a b k (((w.alloc (.cells a.cells 24)).alloc (.cells b.cells 24)).alloc (.cells k.cells 24)) := by
  have s1 : (w.alloc (.cells a.cells 24)).heap.size = w.heap.size + 1 := by simp
  have s2 : ((w.alloc (.cells a.cells 24)).alloc (.cells b.cells 24)).heap.size = w.heap.size + 2 := by simp
  have h2 := heap_alloc_new ((w.alloc (.cells a.cells 24)).alloc (.cells b.cells 24)) (.cells k.cells 24)
  rw [s2] at h2
  have h1 := heap_alloc_new (w.alloc (.cells a.cells 24)) (.cells b.cells 24)
  rw [s1, ← Below.heap_alloc _ (.cells k.cells 24) _ (by omega)] at h1
  have h0 := heap_alloc_new w (.cells a.cells 24)
  rw [← Below.heap_alloc _ (.cells b.cells 24) _ (by omega), ← Below.heap_alloc _ (.cells k.cells 24) _ (by omega)] at h0
  exact ⟨⟨⟨Below.refl _ _, Lib.tabIs_alloc (Lib.tabIs_alloc (Lib.tabIs_alloc ht _) _) _⟩, by simp⟩,
    cell_of_row _ _ 0 _ _ (0, 0) h0, cell_of_row _ _ 1 _ _ (0, 0) h0, cell_of_row _ _ 2 _ _ (0, 0) h0, cell_of_row _ _ 0 _ _ (0, 0) h1, cell_of_row _ _ 1 _ _ (0, 0) h1, cell_of_row _ _ 2 _ _ (0, 0) h1, cell_of_row _ _ 0 _ _ (0, 0) h2, cell_of_row _ _ 1 _ _ (0, 0) h2, cell_of_row _ _ 2 _ _ (0, 0) h2⟩
theorem K9.tab {w0 W : World} {g : Nat} {a b k : K3} (h : K9 w0 g a b k W) : Tab W := h.1.1.2
theorem K9.drew {w0 W : World} {g : Nat} {a b k : K3} (h : K9 w0 g a b k W) : K9 w0 g a b k W.drew := h.call (Below.refl _ _).drew

set_option maxRecDepth 100000 in
set_option maxHeartbeats 1000000 in
theorem law_c (a b k : K3) (ha : a.ok) (w : World) (ht : Tab w) (X Y Z U : Bool) (hx : ltK a b = X) (hy : ltK b a = Y) (hz : ltK b k = Z) (hu : ltK a k = U) (hcb : (a.c == b.c) = false) (hxy : X = !Y) (huz : X = true → Z = true → U = true) :
    Calls Tryd.prog 3 #[.agg a.cells, .agg (b).cells, .agg k.cells] w fun e w' => e = .returned (.bool true) ∧ Below w.heap.size w w' := by
  have HX := Lib.hid (fun W => less_any a b W)
  have HY := Lib.hid (fun W => less_any b a W)
  have HZ := Lib.hid (fun W => less_any b k W)
  have HU := Lib.hid (fun W => less_any a k W)
  have HR := Lib.hid (fun W => rless_any a b W)
  rw [hx] at HX HR
  rw [hy] at HY
  rw [hz] at HZ
  rw [hu] at HU
  have HN := Lib.hid (fun W h => name_any a ha W h)
  have HM := Lib.hid (fun W h => rname_any a ha W h)
  have HA := Lib.hid (And.intro ha ht)
  clear ha ht hx hy hz hu
  have hK0 : K9 (((w.alloc (.cells #[.int .i64 a.c, .int .i64 a.f, .int .u64 (a.s : Int)] 24)).alloc (.cells #[.int .i64 b.c, .int .i64 b.f, .int .u64 (b.s : Int)] 24)).alloc (.cells #[.int .i64 k.c, .int .i64 k.f, .int .u64 (k.s : Int)] 24)) w.heap.size a b k (((w.alloc (.cells #[.int .i64 a.c, .int .i64 a.f, .int .u64 (a.s : Int)] 24)).alloc (.cells #[.int .i64 b.c, .int .i64 b.f, .int .u64 (b.s : Int)] 24)).alloc (.cells #[.int .i64 k.c, .int .i64 k.f, .int .u64 (k.s : Int)] 24)) := K9.new w a b k HA.out.2
  have HB0 := Lib.hid (show Below w.heap.size w (((w.alloc (.cells #[.int .i64 a.c, .int .i64 a.f, .int .u64 (a.s : Int)] 24)).alloc (.cells #[.int .i64 b.c, .int .i64 b.f, .int .u64 (b.s : Int)] 24)).alloc (.cells #[.int .i64 k.c, .int .i64 k.f, .int .u64 (k.s : Int)] 24)) from (((Below.refl _ _).alloc (Nat.le_refl _) _).alloc (by simp) _).alloc (by simp; omega) _)
  unfold K3.cells at *
  go_enter Tryd.func3, Tryd.ntmps3
  go_wp2_with fail
  obtain ⟨W0, hW0⟩ : ∃ W0, ((w.alloc (.cells #[.int .i64 a.c, .int .i64 a.f, .int .u64 (a.s : Int)] 24)).alloc (.cells #[.int .i64 b.c, .int .i64 b.f, .int .u64 (b.s : Int)] 24)).alloc (.cells #[.int .i64 k.c, .int .i64 k.f, .int .u64 (k.s : Int)] 24) = W0 := ⟨_, rfl⟩
  rw [hW0] at hK0 HB0 ⊢
  clear hW0
  go_region_held3 (fun W => ((Below W0.heap.size W0 W ∧ Tab W) ∧ w.heap.size + 2 < W0.heap.size) ∧ W.cell? ⟨w.heap.size, 0, none⟩ = some (.int .i64 a.c) ∧ W.cell? ⟨w.heap.size, 1, none⟩ = some (.int .i64 a.f) ∧ W.cell? ⟨w.heap.size, 2, none⟩ = some (.int .u64 (a.s : Int)) ∧ W.cell? ⟨w.heap.size + 1, 0, none⟩ = some (.int .i64 b.c) ∧ W.cell? ⟨w.heap.size + 1, 1, none⟩ = some (.int .i64 b.f) ∧ W.cell? ⟨w.heap.size + 1, 2, none⟩ = some (.int .u64 (b.s : Int)) ∧ W.cell? ⟨w.heap.size + 2, 0, none⟩ = some (.int .i64 k.c) ∧ W.cell? ⟨w.heap.size + 2, 1, none⟩ = some (.int .i64 k.f) ∧ W.cell? ⟨w.heap.size + 2, 2, none⟩ = some (.int .u64 (k.s : Int)))
    (with_reducible first | assumption | exact K9.drew (by assumption) | fail)
    (first
      | (go_at_call 4; (with_reducible first | refine (HX.out _).mono ?_ | refine (HY.out _).mono ?_ | refine (HZ.out _).mono ?_ | refine (HU.out _).mono ?_); rintro e wB ⟨rfl, hbB⟩; have hK := K9.call (w0 := W0) (g := w.heap.size) (a := a) (b := b) (k := k) (by first | assumption | exact K9.drew (by assumption)) hbB)
      | (go_at_call 5; (with_reducible first | refine (HR.out _).mono ?_); rintro e wB ⟨rfl, hbB⟩; have hK := K9.call (w0 := W0) (g := w.heap.size) (a := a) (b := b) (k := k) (by first | assumption | exact K9.drew (by assumption)) hbB))
  have HK := Lib.hid hK
  obtain ⟨c1, c2, c3, c4, c5, c6, c7, c8, c9⟩ := hK.2
  have d7 : _ := show wB.cell? ⟨w.heap.size + 1 + 1, 0, none⟩ = _ from c7
  have d8 : _ := show wB.cell? ⟨w.heap.size + 1 + 1, 1, none⟩ = _ from c8
  have d9 : _ := show wB.cell? ⟨w.heap.size + 1 + 1, 2, none⟩ = _ from c9
  clear hK hbB

  cases Y with
  | true =>
    subst hxy
    go_wp2_with fail
    refine (HR.out _).mono ?_
    rintro e v0 ⟨rfl, hb⟩
    have HK0 := Lib.hid (K9.call HK.out hb)
    clear c1 c2 c3 c4 c5 c6 c7 c8 c9 d7 d8 d9 hb
    obtain ⟨c1, c2, c3, c4, c5, c6, c7, c8, c9⟩ := HK0.out.2
    have d7 : _ := show v0.cell? ⟨w.heap.size + 1 + 1, 0, none⟩ = _ from c7
    have d8 : _ := show v0.cell? ⟨w.heap.size + 1 + 1, 1, none⟩ = _ from c8
    have d9 : _ := show v0.cell? ⟨w.heap.size + 1 + 1, 2, none⟩ = _ from c9
    go_wp2_with fail
    refine (HX.out _).mono ?_
    rintro e v1 ⟨rfl, hb⟩
    have HK1 := Lib.hid (K9.call HK0.out hb)
    clear c1 c2 c3 c4 c5 c6 c7 c8 c9 d7 d8 d9 hb
    obtain ⟨c1, c2, c3, c4, c5, c6, c7, c8, c9⟩ := HK1.out.2
    have d7 : _ := show v1.cell? ⟨w.heap.size + 1 + 1, 0, none⟩ = _ from c7
    have d8 : _ := show v1.cell? ⟨w.heap.size + 1 + 1, 1, none⟩ = _ from c8
    have d9 : _ := show v1.cell? ⟨w.heap.size + 1 + 1, 2, none⟩ = _ from c9
    go_wp2_with fail
    have hK := HK1.out
    clear c1 c2 c3 c4 c5 c6 c7 c8 c9 d7 d8 d9
    go_region_held3 (fun W => ((Below W0.heap.size W0 W ∧ Tab W) ∧ w.heap.size + 2 < W0.heap.size) ∧ W.cell? ⟨w.heap.size, 0, none⟩ = some (.int .i64 a.c) ∧ W.cell? ⟨w.heap.size, 1, none⟩ = some (.int .i64 a.f) ∧ W.cell? ⟨w.heap.size, 2, none⟩ = some (.int .u64 (a.s : Int)) ∧ W.cell? ⟨w.heap.size + 1, 0, none⟩ = some (.int .i64 b.c) ∧ W.cell? ⟨w.heap.size + 1, 1, none⟩ = some (.int .i64 b.f) ∧ W.cell? ⟨w.heap.size + 1, 2, none⟩ = some (.int .u64 (b.s : Int)) ∧ W.cell? ⟨w.heap.size + 2, 0, none⟩ = some (.int .i64 k.c) ∧ W.cell? ⟨w.heap.size + 2, 1, none⟩ = some (.int .i64 k.f) ∧ W.cell? ⟨w.heap.size + 2, 2, none⟩ = some (.int .u64 (k.s : Int)))
      (with_reducible first | assumption | exact K9.drew (by assumption) | fail)
      (first
        | (go_at_call 6; (with_reducible refine (packetApart.awake_any _).mono ?_); rintro e wB ⟨rfl, hbB⟩; have hK := K9.call (w0 := W0) (g := w.heap.size) (a := a) (b := b) (k := k) (by first | assumption | exact K9.drew (by assumption)) hbB)
        | (go_at_call 7; (with_reducible refine (HN.out _ (K9.tab (w0 := W0) (g := w.heap.size) (a := a) (b := b) (k := k) (by first | assumption | exact K9.drew (by assumption)))).mono ?_); rintro e wB ⟨rfl, hbB⟩; have hK := K9.call (w0 := W0) (g := w.heap.size) (a := a) (b := b) (k := k) (by first | assumption | exact K9.drew (by assumption)) hbB)
        | (go_at_call 8; (with_reducible refine (HM.out _ (K9.tab (w0 := W0) (g := w.heap.size) (a := a) (b := b) (k := k) (by first | assumption | exact K9.drew (by assumption)))).mono ?_); rintro e wB ⟨rfl, hbB⟩; have hK := K9.call (w0 := W0) (g := w.heap.size) (a := a) (b := b) (k := k) (by first | assumption | exact K9.drew (by assumption)) hbB))
    all_goals
      have HZZ := Lib.hid (HB0.out.trans (hK.1.1.1.mono HB0.out.size))
      go_wp2
      go_ret
      exact ⟨rfl, HZZ.out⟩
  | false =>
    subst hxy
    cases Z with
    | false =>
      go_wp2_with fail
      refine (HR.out _).mono ?_
      rintro e v0 ⟨rfl, hb⟩
      have HK0 := Lib.hid (K9.call HK.out hb)
      clear c1 c2 c3 c4 c5 c6 c7 c8 c9 d7 d8 d9 hb
      obtain ⟨c1, c2, c3, c4, c5, c6, c7, c8, c9⟩ := HK0.out.2
      have d7 : _ := show v0.cell? ⟨w.heap.size + 1 + 1, 0, none⟩ = _ from c7
      have d8 : _ := show v0.cell? ⟨w.heap.size + 1 + 1, 1, none⟩ = _ from c8
      have d9 : _ := show v0.cell? ⟨w.heap.size + 1 + 1, 2, none⟩ = _ from c9
      go_wp2_with fail
      refine (HX.out _).mono ?_
      rintro e v1 ⟨rfl, hb⟩
      have HK1 := Lib.hid (K9.call HK0.out hb)
      clear c1 c2 c3 c4 c5 c6 c7 c8 c9 d7 d8 d9 hb
      obtain ⟨c1, c2, c3, c4, c5, c6, c7, c8, c9⟩ := HK1.out.2
      have d7 : _ := show v1.cell? ⟨w.heap.size + 1 + 1, 0, none⟩ = _ from c7
      have d8 : _ := show v1.cell? ⟨w.heap.size + 1 + 1, 1, none⟩ = _ from c8
      have d9 : _ := show v1.cell? ⟨w.heap.size + 1 + 1, 2, none⟩ = _ from c9
      go_wp2_with fail
      refine (HZ.out _).mono ?_
      rintro e v2 ⟨rfl, hb⟩
      have HK2 := Lib.hid (K9.call HK1.out hb)
      clear c1 c2 c3 c4 c5 c6 c7 c8 c9 d7 d8 d9 hb
      obtain ⟨c1, c2, c3, c4, c5, c6, c7, c8, c9⟩ := HK2.out.2
      have d7 : _ := show v2.cell? ⟨w.heap.size + 1 + 1, 0, none⟩ = _ from c7
      have d8 : _ := show v2.cell? ⟨w.heap.size + 1 + 1, 1, none⟩ = _ from c8
      have d9 : _ := show v2.cell? ⟨w.heap.size + 1 + 1, 2, none⟩ = _ from c9
      go_wp2_with fail
      have hK := HK2.out
      clear c1 c2 c3 c4 c5 c6 c7 c8 c9 d7 d8 d9
      go_region_held3 (fun W => ((Below W0.heap.size W0 W ∧ Tab W) ∧ w.heap.size + 2 < W0.heap.size) ∧ W.cell? ⟨w.heap.size, 0, none⟩ = some (.int .i64 a.c) ∧ W.cell? ⟨w.heap.size, 1, none⟩ = some (.int .i64 a.f) ∧ W.cell? ⟨w.heap.size, 2, none⟩ = some (.int .u64 (a.s : Int)) ∧ W.cell? ⟨w.heap.size + 1, 0, none⟩ = some (.int .i64 b.c) ∧ W.cell? ⟨w.heap.size + 1, 1, none⟩ = some (.int .i64 b.f) ∧ W.cell? ⟨w.heap.size + 1, 2, none⟩ = some (.int .u64 (b.s : Int)) ∧ W.cell? ⟨w.heap.size + 2, 0, none⟩ = some (.int .i64 k.c) ∧ W.cell? ⟨w.heap.size + 2, 1, none⟩ = some (.int .i64 k.f) ∧ W.cell? ⟨w.heap.size + 2, 2, none⟩ = some (.int .u64 (k.s : Int)))
        (with_reducible first | assumption | exact K9.drew (by assumption) | fail)
        (first
          | (go_at_call 6; (with_reducible refine (packetApart.awake_any _).mono ?_); rintro e wB ⟨rfl, hbB⟩; have hK := K9.call (w0 := W0) (g := w.heap.size) (a := a) (b := b) (k := k) (by first | assumption | exact K9.drew (by assumption)) hbB)
          | (go_at_call 7; (with_reducible refine (HN.out _ (K9.tab (w0 := W0) (g := w.heap.size) (a := a) (b := b) (k := k) (by first | assumption | exact K9.drew (by assumption)))).mono ?_); rintro e wB ⟨rfl, hbB⟩; have hK := K9.call (w0 := W0) (g := w.heap.size) (a := a) (b := b) (k := k) (by first | assumption | exact K9.drew (by assumption)) hbB)
          | (go_at_call 8; (with_reducible refine (HM.out _ (K9.tab (w0 := W0) (g := w.heap.size) (a := a) (b := b) (k := k) (by first | assumption | exact K9.drew (by assumption)))).mono ?_); rintro e wB ⟨rfl, hbB⟩; have hK := K9.call (w0 := W0) (g := w.heap.size) (a := a) (b := b) (k := k) (by first | assumption | exact K9.drew (by assumption)) hbB))
      all_goals
        have HZZ := Lib.hid (HB0.out.trans (hK.1.1.1.mono HB0.out.size))
        go_wp2
        go_ret
        exact ⟨rfl, HZZ.out⟩
    | true =>
      obtain rfl := huz rfl rfl
      go_wp2_with fail
      refine (HR.out _).mono ?_
      rintro e v0 ⟨rfl, hb⟩
      have HK0 := Lib.hid (K9.call HK.out hb)
      clear c1 c2 c3 c4 c5 c6 c7 c8 c9 d7 d8 d9 hb
      obtain ⟨c1, c2, c3, c4, c5, c6, c7, c8, c9⟩ := HK0.out.2
      have d7 : _ := show v0.cell? ⟨w.heap.size + 1 + 1, 0, none⟩ = _ from c7
      have d8 : _ := show v0.cell? ⟨w.heap.size + 1 + 1, 1, none⟩ = _ from c8
      have d9 : _ := show v0.cell? ⟨w.heap.size + 1 + 1, 2, none⟩ = _ from c9
      go_wp2_with fail
      refine (HX.out _).mono ?_
      rintro e v1 ⟨rfl, hb⟩
      have HK1 := Lib.hid (K9.call HK0.out hb)
      clear c1 c2 c3 c4 c5 c6 c7 c8 c9 d7 d8 d9 hb
      obtain ⟨c1, c2, c3, c4, c5, c6, c7, c8, c9⟩ := HK1.out.2
      have d7 : _ := show v1.cell? ⟨w.heap.size + 1 + 1, 0, none⟩ = _ from c7
      have d8 : _ := show v1.cell? ⟨w.heap.size + 1 + 1, 1, none⟩ = _ from c8
      have d9 : _ := show v1.cell? ⟨w.heap.size + 1 + 1, 2, none⟩ = _ from c9
      go_wp2_with fail
      refine (HZ.out _).mono ?_
      rintro e v2 ⟨rfl, hb⟩
      have HK2 := Lib.hid (K9.call HK1.out hb)
      clear c1 c2 c3 c4 c5 c6 c7 c8 c9 d7 d8 d9 hb
      obtain ⟨c1, c2, c3, c4, c5, c6, c7, c8, c9⟩ := HK2.out.2
      have d7 : _ := show v2.cell? ⟨w.heap.size + 1 + 1, 0, none⟩ = _ from c7
      have d8 : _ := show v2.cell? ⟨w.heap.size + 1 + 1, 1, none⟩ = _ from c8
      have d9 : _ := show v2.cell? ⟨w.heap.size + 1 + 1, 2, none⟩ = _ from c9
      go_wp2_with fail
      refine (HU.out _).mono ?_
      rintro e v3 ⟨rfl, hb⟩
      have HK3 := Lib.hid (K9.call HK2.out hb)
      clear c1 c2 c3 c4 c5 c6 c7 c8 c9 d7 d8 d9 hb
      obtain ⟨c1, c2, c3, c4, c5, c6, c7, c8, c9⟩ := HK3.out.2
      have d7 : _ := show v3.cell? ⟨w.heap.size + 1 + 1, 0, none⟩ = _ from c7
      have d8 : _ := show v3.cell? ⟨w.heap.size + 1 + 1, 1, none⟩ = _ from c8
      have d9 : _ := show v3.cell? ⟨w.heap.size + 1 + 1, 2, none⟩ = _ from c9
      go_wp2_with fail
      have hK := HK3.out
      clear c1 c2 c3 c4 c5 c6 c7 c8 c9 d7 d8 d9
      go_region_held3 (fun W => ((Below W0.heap.size W0 W ∧ Tab W) ∧ w.heap.size + 2 < W0.heap.size) ∧ W.cell? ⟨w.heap.size, 0, none⟩ = some (.int .i64 a.c) ∧ W.cell? ⟨w.heap.size, 1, none⟩ = some (.int .i64 a.f) ∧ W.cell? ⟨w.heap.size, 2, none⟩ = some (.int .u64 (a.s : Int)) ∧ W.cell? ⟨w.heap.size + 1, 0, none⟩ = some (.int .i64 b.c) ∧ W.cell? ⟨w.heap.size + 1, 1, none⟩ = some (.int .i64 b.f) ∧ W.cell? ⟨w.heap.size + 1, 2, none⟩ = some (.int .u64 (b.s : Int)) ∧ W.cell? ⟨w.heap.size + 2, 0, none⟩ = some (.int .i64 k.c) ∧ W.cell? ⟨w.heap.size + 2, 1, none⟩ = some (.int .i64 k.f) ∧ W.cell? ⟨w.heap.size + 2, 2, none⟩ = some (.int .u64 (k.s : Int)))
        (with_reducible first | assumption | exact K9.drew (by assumption) | fail)
        (first
          | (go_at_call 6; (with_reducible refine (packetApart.awake_any _).mono ?_); rintro e wB ⟨rfl, hbB⟩; have hK := K9.call (w0 := W0) (g := w.heap.size) (a := a) (b := b) (k := k) (by first | assumption | exact K9.drew (by assumption)) hbB)
          | (go_at_call 7; (with_reducible refine (HN.out _ (K9.tab (w0 := W0) (g := w.heap.size) (a := a) (b := b) (k := k) (by first | assumption | exact K9.drew (by assumption)))).mono ?_); rintro e wB ⟨rfl, hbB⟩; have hK := K9.call (w0 := W0) (g := w.heap.size) (a := a) (b := b) (k := k) (by first | assumption | exact K9.drew (by assumption)) hbB)
          | (go_at_call 8; (with_reducible refine (HM.out _ (K9.tab (w0 := W0) (g := w.heap.size) (a := a) (b := b) (k := k) (by first | assumption | exact K9.drew (by assumption)))).mono ?_); rintro e wB ⟨rfl, hbB⟩; have hK := K9.call (w0 := W0) (g := w.heap.size) (a := a) (b := b) (k := k) (by first | assumption | exact K9.drew (by assumption)) hbB))
      all_goals
        have HZZ := Lib.hid (HB0.out.trans (hK.1.1.1.mono HB0.out.size))
        go_wp2
        go_ret
        exact ⟨rfl, HZZ.out⟩
set_option maxRecDepth 100000 in
set_option maxHeartbeats 1000000 in
theorem law_f (a k : K3) (fb : Int) (sb : Nat) (ha : a.ok) (w : World) (ht : Tab w) (X Y Z U : Bool) (hx : ltK a (⟨a.c, fb, sb⟩ : K3) = X) (hy : ltK (⟨a.c, fb, sb⟩ : K3) a = Y) (hz : ltK (⟨a.c, fb, sb⟩ : K3) k = Z) (hu : ltK a k = U) (hfb : (a.f == fb) = false) (hxy : X = !Y) (huz : X = true → Z = true → U = true) :
    Calls Tryd.prog 3 #[.agg a.cells, .agg ((⟨a.c, fb, sb⟩ : K3)).cells, .agg k.cells] w fun e w' => e = .returned (.bool true) ∧ Below w.heap.size w w' := by
  have HX := Lib.hid (fun W => less_any a (⟨a.c, fb, sb⟩ : K3) W)
  have HY := Lib.hid (fun W => less_any (⟨a.c, fb, sb⟩ : K3) a W)
  have HZ := Lib.hid (fun W => less_any (⟨a.c, fb, sb⟩ : K3) k W)
  have HU := Lib.hid (fun W => less_any a k W)
  have HR := Lib.hid (fun W => rless_any a (⟨a.c, fb, sb⟩ : K3) W)
  rw [hx] at HX HR
  rw [hy] at HY
  rw [hz] at HZ
  rw [hu] at HU
  have HN := Lib.hid (fun W h => name_any a ha W h)
  have HM := Lib.hid (fun W h => rname_any a ha W h)
  have HA := Lib.hid (And.intro ha ht)
  clear ha ht hx hy hz hu
  have hK0 : K9 (((w.alloc (.cells #[.int .i64 a.c, .int .i64 a.f, .int .u64 (a.s : Int)] 24)).alloc (.cells #[.int .i64 a.c, .int .i64 fb, .int .u64 (sb : Int)] 24)).alloc (.cells #[.int .i64 k.c, .int .i64 k.f, .int .u64 (k.s : Int)] 24)) w.heap.size a (⟨a.c, fb, sb⟩ : K3) k (((w.alloc (.cells #[.int .i64 a.c, .int .i64 a.f, .int .u64 (a.s : Int)] 24)).alloc (.cells #[.int .i64 a.c, .int .i64 fb, .int .u64 (sb : Int)] 24)).alloc (.cells #[.int .i64 k.c, .int .i64 k.f, .int .u64 (k.s : Int)] 24)) := K9.new w a (⟨a.c, fb, sb⟩ : K3) k HA.out.2
  have HB0 := Lib.hid (show Below w.heap.size w (((w.alloc (.cells #[.int .i64 a.c, .int .i64 a.f, .int .u64 (a.s : Int)] 24)).alloc (.cells #[.int .i64 a.c, .int .i64 fb, .int .u64 (sb : Int)] 24)).alloc (.cells #[.int .i64 k.c, .int .i64 k.f, .int .u64 (k.s : Int)] 24)) from (((Below.refl _ _).alloc (Nat.le_refl _) _).alloc (by simp) _).alloc (by simp; omega) _)
  unfold K3.cells at *
  go_enter Tryd.func3, Tryd.ntmps3
  go_wp2_with fail
  obtain ⟨W0, hW0⟩ : ∃ W0, ((w.alloc (.cells #[.int .i64 a.c, .int .i64 a.f, .int .u64 (a.s : Int)] 24)).alloc (.cells #[.int .i64 a.c, .int .i64 fb, .int .u64 (sb : Int)] 24)).alloc (.cells #[.int .i64 k.c, .int .i64 k.f, .int .u64 (k.s : Int)] 24) = W0 := ⟨_, rfl⟩
  rw [hW0] at hK0 HB0 ⊢
  clear hW0
  go_region_held3 (fun W => ((Below W0.heap.size W0 W ∧ Tab W) ∧ w.heap.size + 2 < W0.heap.size) ∧ W.cell? ⟨w.heap.size, 0, none⟩ = some (.int .i64 a.c) ∧ W.cell? ⟨w.heap.size, 1, none⟩ = some (.int .i64 a.f) ∧ W.cell? ⟨w.heap.size, 2, none⟩ = some (.int .u64 (a.s : Int)) ∧ W.cell? ⟨w.heap.size + 1, 0, none⟩ = some (.int .i64 a.c) ∧ W.cell? ⟨w.heap.size + 1, 1, none⟩ = some (.int .i64 fb) ∧ W.cell? ⟨w.heap.size + 1, 2, none⟩ = some (.int .u64 (sb : Int)) ∧ W.cell? ⟨w.heap.size + 2, 0, none⟩ = some (.int .i64 k.c) ∧ W.cell? ⟨w.heap.size + 2, 1, none⟩ = some (.int .i64 k.f) ∧ W.cell? ⟨w.heap.size + 2, 2, none⟩ = some (.int .u64 (k.s : Int)))
    (with_reducible first | assumption | exact K9.drew (by assumption) | fail)
    (first
      | (go_at_call 4; (with_reducible first | refine (HX.out _).mono ?_ | refine (HY.out _).mono ?_ | refine (HZ.out _).mono ?_ | refine (HU.out _).mono ?_); rintro e wB ⟨rfl, hbB⟩; have hK := K9.call (w0 := W0) (g := w.heap.size) (a := a) (b := (⟨a.c, fb, sb⟩ : K3)) (k := k) (by first | assumption | exact K9.drew (by assumption)) hbB)
      | (go_at_call 5; (with_reducible first | refine (HR.out _).mono ?_); rintro e wB ⟨rfl, hbB⟩; have hK := K9.call (w0 := W0) (g := w.heap.size) (a := a) (b := (⟨a.c, fb, sb⟩ : K3)) (k := k) (by first | assumption | exact K9.drew (by assumption)) hbB))
  have HK := Lib.hid hK
  obtain ⟨c1, c2, c3, c4, c5, c6, c7, c8, c9⟩ := hK.2
  have d7 : _ := show wB.cell? ⟨w.heap.size + 1 + 1, 0, none⟩ = _ from c7
  have d8 : _ := show wB.cell? ⟨w.heap.size + 1 + 1, 1, none⟩ = _ from c8
  have d9 : _ := show wB.cell? ⟨w.heap.size + 1 + 1, 2, none⟩ = _ from c9
  clear hK hbB

  cases Y with
  | true =>
    subst hxy
    go_wp2_with fail
    refine (HR.out _).mono ?_
    rintro e v0 ⟨rfl, hb⟩
    have HK0 := Lib.hid (K9.call HK.out hb)
    clear c1 c2 c3 c4 c5 c6 c7 c8 c9 d7 d8 d9 hb
    obtain ⟨c1, c2, c3, c4, c5, c6, c7, c8, c9⟩ := HK0.out.2
    have d7 : _ := show v0.cell? ⟨w.heap.size + 1 + 1, 0, none⟩ = _ from c7
    have d8 : _ := show v0.cell? ⟨w.heap.size + 1 + 1, 1, none⟩ = _ from c8
    have d9 : _ := show v0.cell? ⟨w.heap.size + 1 + 1, 2, none⟩ = _ from c9
    go_wp2_with fail
    refine (HX.out _).mono ?_
    rintro e v1 ⟨rfl, hb⟩
    have HK1 := Lib.hid (K9.call HK0.out hb)
    clear c1 c2 c3 c4 c5 c6 c7 c8 c9 d7 d8 d9 hb
    obtain ⟨c1, c2, c3, c4, c5, c6, c7, c8, c9⟩ := HK1.out.2
    have d7 : _ := show v1.cell? ⟨w.heap.size + 1 + 1, 0, none⟩ = _ from c7
    have d8 : _ := show v1.cell? ⟨w.heap.size + 1 + 1, 1, none⟩ = _ from c8
    have d9 : _ := show v1.cell? ⟨w.heap.size + 1 + 1, 2, none⟩ = _ from c9
    go_wp2_with fail
    have hK := HK1.out
    clear c1 c2 c3 c4 c5 c6 c7 c8 c9 d7 d8 d9
    go_region_held3 (fun W => ((Below W0.heap.size W0 W ∧ Tab W) ∧ w.heap.size + 2 < W0.heap.size) ∧ W.cell? ⟨w.heap.size, 0, none⟩ = some (.int .i64 a.c) ∧ W.cell? ⟨w.heap.size, 1, none⟩ = some (.int .i64 a.f) ∧ W.cell? ⟨w.heap.size, 2, none⟩ = some (.int .u64 (a.s : Int)) ∧ W.cell? ⟨w.heap.size + 1, 0, none⟩ = some (.int .i64 a.c) ∧ W.cell? ⟨w.heap.size + 1, 1, none⟩ = some (.int .i64 fb) ∧ W.cell? ⟨w.heap.size + 1, 2, none⟩ = some (.int .u64 (sb : Int)) ∧ W.cell? ⟨w.heap.size + 2, 0, none⟩ = some (.int .i64 k.c) ∧ W.cell? ⟨w.heap.size + 2, 1, none⟩ = some (.int .i64 k.f) ∧ W.cell? ⟨w.heap.size + 2, 2, none⟩ = some (.int .u64 (k.s : Int)))
      (with_reducible first | assumption | exact K9.drew (by assumption) | fail)
      (first
        | (go_at_call 6; (with_reducible refine (packetApart.awake_any _).mono ?_); rintro e wB ⟨rfl, hbB⟩; have hK := K9.call (w0 := W0) (g := w.heap.size) (a := a) (b := (⟨a.c, fb, sb⟩ : K3)) (k := k) (by first | assumption | exact K9.drew (by assumption)) hbB)
        | (go_at_call 7; (with_reducible refine (HN.out _ (K9.tab (w0 := W0) (g := w.heap.size) (a := a) (b := (⟨a.c, fb, sb⟩ : K3)) (k := k) (by first | assumption | exact K9.drew (by assumption)))).mono ?_); rintro e wB ⟨rfl, hbB⟩; have hK := K9.call (w0 := W0) (g := w.heap.size) (a := a) (b := (⟨a.c, fb, sb⟩ : K3)) (k := k) (by first | assumption | exact K9.drew (by assumption)) hbB)
        | (go_at_call 8; (with_reducible refine (HM.out _ (K9.tab (w0 := W0) (g := w.heap.size) (a := a) (b := (⟨a.c, fb, sb⟩ : K3)) (k := k) (by first | assumption | exact K9.drew (by assumption)))).mono ?_); rintro e wB ⟨rfl, hbB⟩; have hK := K9.call (w0 := W0) (g := w.heap.size) (a := a) (b := (⟨a.c, fb, sb⟩ : K3)) (k := k) (by first | assumption | exact K9.drew (by assumption)) hbB))
    all_goals
      have HZZ := Lib.hid (HB0.out.trans (hK.1.1.1.mono HB0.out.size))
      go_wp2
      go_ret
      exact ⟨rfl, HZZ.out⟩
  | false =>
    subst hxy
    cases Z with
    | false =>
      go_wp2_with fail
      refine (HR.out _).mono ?_
      rintro e v0 ⟨rfl, hb⟩
      have HK0 := Lib.hid (K9.call HK.out hb)
      clear c1 c2 c3 c4 c5 c6 c7 c8 c9 d7 d8 d9 hb
      obtain ⟨c1, c2, c3, c4, c5, c6, c7, c8, c9⟩ := HK0.out.2
      have d7 : _ := show v0.cell? ⟨w.heap.size + 1 + 1, 0, none⟩ = _ from c7
      have d8 : _ := show v0.cell? ⟨w.heap.size + 1 + 1, 1, none⟩ = _ from c8
      have d9 : _ := show v0.cell? ⟨w.heap.size + 1 + 1, 2, none⟩ = _ from c9
      go_wp2_with fail
      refine (HX.out _).mono ?_
      rintro e v1 ⟨rfl, hb⟩
      have HK1 := Lib.hid (K9.call HK0.out hb)
      clear c1 c2 c3 c4 c5 c6 c7 c8 c9 d7 d8 d9 hb
      obtain ⟨c1, c2, c3, c4, c5, c6, c7, c8, c9⟩ := HK1.out.2
      have d7 : _ := show v1.cell? ⟨w.heap.size + 1 + 1, 0, none⟩ = _ from c7
      have d8 : _ := show v1.cell? ⟨w.heap.size + 1 + 1, 1, none⟩ = _ from c8
      have d9 : _ := show v1.cell? ⟨w.heap.size + 1 + 1, 2, none⟩ = _ from c9
      go_wp2_with fail
      refine (HZ.out _).mono ?_
      rintro e v2 ⟨rfl, hb⟩
      have HK2 := Lib.hid (K9.call HK1.out hb)
      clear c1 c2 c3 c4 c5 c6 c7 c8 c9 d7 d8 d9 hb
      obtain ⟨c1, c2, c3, c4, c5, c6, c7, c8, c9⟩ := HK2.out.2
      have d7 : _ := show v2.cell? ⟨w.heap.size + 1 + 1, 0, none⟩ = _ from c7
      have d8 : _ := show v2.cell? ⟨w.heap.size + 1 + 1, 1, none⟩ = _ from c8
      have d9 : _ := show v2.cell? ⟨w.heap.size + 1 + 1, 2, none⟩ = _ from c9
      go_wp2_with fail
      have hK := HK2.out
      clear c1 c2 c3 c4 c5 c6 c7 c8 c9 d7 d8 d9
      go_region_held3 (fun W => ((Below W0.heap.size W0 W ∧ Tab W) ∧ w.heap.size + 2 < W0.heap.size) ∧ W.cell? ⟨w.heap.size, 0, none⟩ = some (.int .i64 a.c) ∧ W.cell? ⟨w.heap.size, 1, none⟩ = some (.int .i64 a.f) ∧ W.cell? ⟨w.heap.size, 2, none⟩ = some (.int .u64 (a.s : Int)) ∧ W.cell? ⟨w.heap.size + 1, 0, none⟩ = some (.int .i64 a.c) ∧ W.cell? ⟨w.heap.size + 1, 1, none⟩ = some (.int .i64 fb) ∧ W.cell? ⟨w.heap.size + 1, 2, none⟩ = some (.int .u64 (sb : Int)) ∧ W.cell? ⟨w.heap.size + 2, 0, none⟩ = some (.int .i64 k.c) ∧ W.cell? ⟨w.heap.size + 2, 1, none⟩ = some (.int .i64 k.f) ∧ W.cell? ⟨w.heap.size + 2, 2, none⟩ = some (.int .u64 (k.s : Int)))
        (with_reducible first | assumption | exact K9.drew (by assumption) | fail)
        (first
          | (go_at_call 6; (with_reducible refine (packetApart.awake_any _).mono ?_); rintro e wB ⟨rfl, hbB⟩; have hK := K9.call (w0 := W0) (g := w.heap.size) (a := a) (b := (⟨a.c, fb, sb⟩ : K3)) (k := k) (by first | assumption | exact K9.drew (by assumption)) hbB)
          | (go_at_call 7; (with_reducible refine (HN.out _ (K9.tab (w0 := W0) (g := w.heap.size) (a := a) (b := (⟨a.c, fb, sb⟩ : K3)) (k := k) (by first | assumption | exact K9.drew (by assumption)))).mono ?_); rintro e wB ⟨rfl, hbB⟩; have hK := K9.call (w0 := W0) (g := w.heap.size) (a := a) (b := (⟨a.c, fb, sb⟩ : K3)) (k := k) (by first | assumption | exact K9.drew (by assumption)) hbB)
          | (go_at_call 8; (with_reducible refine (HM.out _ (K9.tab (w0 := W0) (g := w.heap.size) (a := a) (b := (⟨a.c, fb, sb⟩ : K3)) (k := k) (by first | assumption | exact K9.drew (by assumption)))).mono ?_); rintro e wB ⟨rfl, hbB⟩; have hK := K9.call (w0 := W0) (g := w.heap.size) (a := a) (b := (⟨a.c, fb, sb⟩ : K3)) (k := k) (by first | assumption | exact K9.drew (by assumption)) hbB))
      all_goals
        have HZZ := Lib.hid (HB0.out.trans (hK.1.1.1.mono HB0.out.size))
        go_wp2
        go_ret
        exact ⟨rfl, HZZ.out⟩
    | true =>
      obtain rfl := huz rfl rfl
      go_wp2_with fail
      refine (HR.out _).mono ?_
      rintro e v0 ⟨rfl, hb⟩
      have HK0 := Lib.hid (K9.call HK.out hb)
      clear c1 c2 c3 c4 c5 c6 c7 c8 c9 d7 d8 d9 hb
      obtain ⟨c1, c2, c3, c4, c5, c6, c7, c8, c9⟩ := HK0.out.2
      have d7 : _ := show v0.cell? ⟨w.heap.size + 1 + 1, 0, none⟩ = _ from c7
      have d8 : _ := show v0.cell? ⟨w.heap.size + 1 + 1, 1, none⟩ = _ from c8
      have d9 : _ := show v0.cell? ⟨w.heap.size + 1 + 1, 2, none⟩ = _ from c9
      go_wp2_with fail
      refine (HX.out _).mono ?_
      rintro e v1 ⟨rfl, hb⟩
      have HK1 := Lib.hid (K9.call HK0.out hb)
      clear c1 c2 c3 c4 c5 c6 c7 c8 c9 d7 d8 d9 hb
      obtain ⟨c1, c2, c3, c4, c5, c6, c7, c8, c9⟩ := HK1.out.2
      have d7 : _ := show v1.cell? ⟨w.heap.size + 1 + 1, 0, none⟩ = _ from c7
      have d8 : _ := show v1.cell? ⟨w.heap.size + 1 + 1, 1, none⟩ = _ from c8
      have d9 : _ := show v1.cell? ⟨w.heap.size + 1 + 1, 2, none⟩ = _ from c9
      go_wp2_with fail
      refine (HZ.out _).mono ?_
      rintro e v2 ⟨rfl, hb⟩
      have HK2 := Lib.hid (K9.call HK1.out hb)
      clear c1 c2 c3 c4 c5 c6 c7 c8 c9 d7 d8 d9 hb
      obtain ⟨c1, c2, c3, c4, c5, c6, c7, c8, c9⟩ := HK2.out.2
      have d7 : _ := show v2.cell? ⟨w.heap.size + 1 + 1, 0, none⟩ = _ from c7
      have d8 : _ := show v2.cell? ⟨w.heap.size + 1 + 1, 1, none⟩ = _ from c8
      have d9 : _ := show v2.cell? ⟨w.heap.size + 1 + 1, 2, none⟩ = _ from c9
      go_wp2_with fail
      refine (HU.out _).mono ?_
      rintro e v3 ⟨rfl, hb⟩
      have HK3 := Lib.hid (K9.call HK2.out hb)
      clear c1 c2 c3 c4 c5 c6 c7 c8 c9 d7 d8 d9 hb
      obtain ⟨c1, c2, c3, c4, c5, c6, c7, c8, c9⟩ := HK3.out.2
      have d7 : _ := show v3.cell? ⟨w.heap.size + 1 + 1, 0, none⟩ = _ from c7
      have d8 : _ := show v3.cell? ⟨w.heap.size + 1 + 1, 1, none⟩ = _ from c8
      have d9 : _ := show v3.cell? ⟨w.heap.size + 1 + 1, 2, none⟩ = _ from c9
      go_wp2_with fail
      have hK := HK3.out
      clear c1 c2 c3 c4 c5 c6 c7 c8 c9 d7 d8 d9
      go_region_held3 (fun W => ((Below W0.heap.size W0 W ∧ Tab W) ∧ w.heap.size + 2 < W0.heap.size) ∧ W.cell? ⟨w.heap.size, 0, none⟩ = some (.int .i64 a.c) ∧ W.cell? ⟨w.heap.size, 1, none⟩ = some (.int .i64 a.f) ∧ W.cell? ⟨w.heap.size, 2, none⟩ = some (.int .u64 (a.s : Int)) ∧ W.cell? ⟨w.heap.size + 1, 0, none⟩ = some (.int .i64 a.c) ∧ W.cell? ⟨w.heap.size + 1, 1, none⟩ = some (.int .i64 fb) ∧ W.cell? ⟨w.heap.size + 1, 2, none⟩ = some (.int .u64 (sb : Int)) ∧ W.cell? ⟨w.heap.size + 2, 0, none⟩ = some (.int .i64 k.c) ∧ W.cell? ⟨w.heap.size + 2, 1, none⟩ = some (.int .i64 k.f) ∧ W.cell? ⟨w.heap.size + 2, 2, none⟩ = some (.int .u64 (k.s : Int)))
        (with_reducible first | assumption | exact K9.drew (by assumption) | fail)
        (first
          | (go_at_call 6; (with_reducible refine (packetApart.awake_any _).mono ?_); rintro e wB ⟨rfl, hbB⟩; have hK := K9.call (w0 := W0) (g := w.heap.size) (a := a) (b := (⟨a.c, fb, sb⟩ : K3)) (k := k) (by first | assumption | exact K9.drew (by assumption)) hbB)
          | (go_at_call 7; (with_reducible refine (HN.out _ (K9.tab (w0 := W0) (g := w.heap.size) (a := a) (b := (⟨a.c, fb, sb⟩ : K3)) (k := k) (by first | assumption | exact K9.drew (by assumption)))).mono ?_); rintro e wB ⟨rfl, hbB⟩; have hK := K9.call (w0 := W0) (g := w.heap.size) (a := a) (b := (⟨a.c, fb, sb⟩ : K3)) (k := k) (by first | assumption | exact K9.drew (by assumption)) hbB)
          | (go_at_call 8; (with_reducible refine (HM.out _ (K9.tab (w0 := W0) (g := w.heap.size) (a := a) (b := (⟨a.c, fb, sb⟩ : K3)) (k := k) (by first | assumption | exact K9.drew (by assumption)))).mono ?_); rintro e wB ⟨rfl, hbB⟩; have hK := K9.call (w0 := W0) (g := w.heap.size) (a := a) (b := (⟨a.c, fb, sb⟩ : K3)) (k := k) (by first | assumption | exact K9.drew (by assumption)) hbB))
      all_goals
        have HZZ := Lib.hid (HB0.out.trans (hK.1.1.1.mono HB0.out.size))
        go_wp2
        go_ret
        exact ⟨rfl, HZZ.out⟩
set_option maxRecDepth 100000 in
set_option maxHeartbeats 1000000 in
theorem law_s (a k : K3) (sb : Nat) (ha : a.ok) (w : World) (ht : Tab w) (X Y Z U : Bool) (hx : ltK a (⟨a.c, a.f, sb⟩ : K3) = X) (hy : ltK (⟨a.c, a.f, sb⟩ : K3) a = Y) (hz : ltK (⟨a.c, a.f, sb⟩ : K3) k = Z) (hu : ltK a k = U) (hsb : ((a.s : Int) == (sb : Int)) = false) (hxy : X = !Y) (huz : X = true → Z = true → U = true) :
    Calls Tryd.prog 3 #[.agg a.cells, .agg ((⟨a.c, a.f, sb⟩ : K3)).cells, .agg k.cells] w fun e w' => e = .returned (.bool true) ∧ Below w.heap.size w w' := by
  have HX := Lib.hid (fun W => less_any a (⟨a.c, a.f, sb⟩ : K3) W)
  have HY := Lib.hid (fun W => less_any (⟨a.c, a.f, sb⟩ : K3) a W)
  have HZ := Lib.hid (fun W => less_any (⟨a.c, a.f, sb⟩ : K3) k W)
  have HU := Lib.hid (fun W => less_any a k W)
  have HR := Lib.hid (fun W => rless_any a (⟨a.c, a.f, sb⟩ : K3) W)
  rw [hx] at HX HR
  rw [hy] at HY
  rw [hz] at HZ
  rw [hu] at HU
  have HN := Lib.hid (fun W h => name_any a ha W h)
  have HM := Lib.hid (fun W h => rname_any a ha W h)
  have HA := Lib.hid (And.intro ha ht)
  clear ha ht hx hy hz hu
  have hK0 : K9 (((w.alloc (.cells #[.int .i64 a.c, .int .i64 a.f, .int .u64 (a.s : Int)] 24)).alloc (.cells #[.int .i64 a.c, .int .i64 a.f, .int .u64 (sb : Int)] 24)).alloc (.cells #[.int .i64 k.c, .int .i64 k.f, .int .u64 (k.s : Int)] 24)) w.heap.size a (⟨a.c, a.f, sb⟩ : K3) k (((w.alloc (.cells #[.int .i64 a.c, .int .i64 a.f, .int .u64 (a.s : Int)] 24)).alloc (.cells #[.int .i64 a.c, .int .i64 a.f, .int .u64 (sb : Int)] 24)).alloc (.cells #[.int .i64 k.c, .int .i64 k.f, .int .u64 (k.s : Int)] 24)) := K9.new w a (⟨a.c, a.f, sb⟩ : K3) k HA.out.2
  have HB0 := Lib.hid (show Below w.heap.size w (((w.alloc (.cells #[.int .i64 a.c, .int .i64 a.f, .int .u64 (a.s : Int)] 24)).alloc (.cells #[.int .i64 a.c, .int .i64 a.f, .int .u64 (sb : Int)] 24)).alloc (.cells #[.int .i64 k.c, .int .i64 k.f, .int .u64 (k.s : Int)] 24)) from (((Below.refl _ _).alloc (Nat.le_refl _) _).alloc (by simp) _).alloc (by simp; omega) _)
  unfold K3.cells at *
  go_enter Tryd.func3, Tryd.ntmps3
  go_wp2_with fail
  obtain ⟨W0, hW0⟩ : ∃ W0, ((w.alloc (.cells #[.int .i64 a.c, .int .i64 a.f, .int .u64 (a.s : Int)] 24)).alloc (.cells #[.int .i64 a.c, .int .i64 a.f, .int .u64 (sb : Int)] 24)).alloc (.cells #[.int .i64 k.c, .int .i64 k.f, .int .u64 (k.s : Int)] 24) = W0 := ⟨_, rfl⟩
  rw [hW0] at hK0 HB0 ⊢
  clear hW0
  go_region_held3 (fun W => ((Below W0.heap.size W0 W ∧ Tab W) ∧ w.heap.size + 2 < W0.heap.size) ∧ W.cell? ⟨w.heap.size, 0, none⟩ = some (.int .i64 a.c) ∧ W.cell? ⟨w.heap.size, 1, none⟩ = some (.int .i64 a.f) ∧ W.cell? ⟨w.heap.size, 2, none⟩ = some (.int .u64 (a.s : Int)) ∧ W.cell? ⟨w.heap.size + 1, 0, none⟩ = some (.int .i64 a.c) ∧ W.cell? ⟨w.heap.size + 1, 1, none⟩ = some (.int .i64 a.f) ∧ W.cell? ⟨w.heap.size + 1, 2, none⟩ = some (.int .u64 (sb : Int)) ∧ W.cell? ⟨w.heap.size + 2, 0, none⟩ = some (.int .i64 k.c) ∧ W.cell? ⟨w.heap.size + 2, 1, none⟩ = some (.int .i64 k.f) ∧ W.cell? ⟨w.heap.size + 2, 2, none⟩ = some (.int .u64 (k.s : Int)))
    (with_reducible first | assumption | exact K9.drew (by assumption) | fail)
    (first
      | (go_at_call 4; (with_reducible first | refine (HX.out _).mono ?_ | refine (HY.out _).mono ?_ | refine (HZ.out _).mono ?_ | refine (HU.out _).mono ?_); rintro e wB ⟨rfl, hbB⟩; have hK := K9.call (w0 := W0) (g := w.heap.size) (a := a) (b := (⟨a.c, a.f, sb⟩ : K3)) (k := k) (by first | assumption | exact K9.drew (by assumption)) hbB)
      | (go_at_call 5; (with_reducible first | refine (HR.out _).mono ?_); rintro e wB ⟨rfl, hbB⟩; have hK := K9.call (w0 := W0) (g := w.heap.size) (a := a) (b := (⟨a.c, a.f, sb⟩ : K3)) (k := k) (by first | assumption | exact K9.drew (by assumption)) hbB))
  have HK := Lib.hid hK
  obtain ⟨c1, c2, c3, c4, c5, c6, c7, c8, c9⟩ := hK.2
  have d7 : _ := show wB.cell? ⟨w.heap.size + 1 + 1, 0, none⟩ = _ from c7
  have d8 : _ := show wB.cell? ⟨w.heap.size + 1 + 1, 1, none⟩ = _ from c8
  have d9 : _ := show wB.cell? ⟨w.heap.size + 1 + 1, 2, none⟩ = _ from c9
  clear hK hbB

  cases Y with
  | true =>
    subst hxy
    go_wp2_with fail
    refine (HR.out _).mono ?_
    rintro e v0 ⟨rfl, hb⟩
    have HK0 := Lib.hid (K9.call HK.out hb)
    clear c1 c2 c3 c4 c5 c6 c7 c8 c9 d7 d8 d9 hb
    obtain ⟨c1, c2, c3, c4, c5, c6, c7, c8, c9⟩ := HK0.out.2
    have d7 : _ := show v0.cell? ⟨w.heap.size + 1 + 1, 0, none⟩ = _ from c7
    have d8 : _ := show v0.cell? ⟨w.heap.size + 1 + 1, 1, none⟩ = _ from c8
    have d9 : _ := show v0.cell? ⟨w.heap.size + 1 + 1, 2, none⟩ = _ from c9
    go_wp2_with fail
    refine (HX.out _).mono ?_
    rintro e v1 ⟨rfl, hb⟩
    have HK1 := Lib.hid (K9.call HK0.out hb)
    clear c1 c2 c3 c4 c5 c6 c7 c8 c9 d7 d8 d9 hb
    obtain ⟨c1, c2, c3, c4, c5, c6, c7, c8, c9⟩ := HK1.out.2
    have d7 : _ := show v1.cell? ⟨w.heap.size + 1 + 1, 0, none⟩ = _ from c7
    have d8 : _ := show v1.cell? ⟨w.heap.size + 1 + 1, 1, none⟩ = _ from c8
    have d9 : _ := show v1.cell? ⟨w.heap.size + 1 + 1, 2, none⟩ = _ from c9
    go_wp2_with fail
    have hK := HK1.out
    clear c1 c2 c3 c4 c5 c6 c7 c8 c9 d7 d8 d9
    go_region_held3 (fun W => ((Below W0.heap.size W0 W ∧ Tab W) ∧ w.heap.size + 2 < W0.heap.size) ∧ W.cell? ⟨w.heap.size, 0, none⟩ = some (.int .i64 a.c) ∧ W.cell? ⟨w.heap.size, 1, none⟩ = some (.int .i64 a.f) ∧ W.cell? ⟨w.heap.size, 2, none⟩ = some (.int .u64 (a.s : Int)) ∧ W.cell? ⟨w.heap.size + 1, 0, none⟩ = some (.int .i64 a.c) ∧ W.cell? ⟨w.heap.size + 1, 1, none⟩ = some (.int .i64 a.f) ∧ W.cell? ⟨w.heap.size + 1, 2, none⟩ = some (.int .u64 (sb : Int)) ∧ W.cell? ⟨w.heap.size + 2, 0, none⟩ = some (.int .i64 k.c) ∧ W.cell? ⟨w.heap.size + 2, 1, none⟩ = some (.int .i64 k.f) ∧ W.cell? ⟨w.heap.size + 2, 2, none⟩ = some (.int .u64 (k.s : Int)))
      (with_reducible first | assumption | exact K9.drew (by assumption) | fail)
      (first
        | (go_at_call 6; (with_reducible refine (packetApart.awake_any _).mono ?_); rintro e wB ⟨rfl, hbB⟩; have hK := K9.call (w0 := W0) (g := w.heap.size) (a := a) (b := (⟨a.c, a.f, sb⟩ : K3)) (k := k) (by first | assumption | exact K9.drew (by assumption)) hbB)
        | (go_at_call 7; (with_reducible refine (HN.out _ (K9.tab (w0 := W0) (g := w.heap.size) (a := a) (b := (⟨a.c, a.f, sb⟩ : K3)) (k := k) (by first | assumption | exact K9.drew (by assumption)))).mono ?_); rintro e wB ⟨rfl, hbB⟩; have hK := K9.call (w0 := W0) (g := w.heap.size) (a := a) (b := (⟨a.c, a.f, sb⟩ : K3)) (k := k) (by first | assumption | exact K9.drew (by assumption)) hbB)
        | (go_at_call 8; (with_reducible refine (HM.out _ (K9.tab (w0 := W0) (g := w.heap.size) (a := a) (b := (⟨a.c, a.f, sb⟩ : K3)) (k := k) (by first | assumption | exact K9.drew (by assumption)))).mono ?_); rintro e wB ⟨rfl, hbB⟩; have hK := K9.call (w0 := W0) (g := w.heap.size) (a := a) (b := (⟨a.c, a.f, sb⟩ : K3)) (k := k) (by first | assumption | exact K9.drew (by assumption)) hbB))
    all_goals
      have HZZ := Lib.hid (HB0.out.trans (hK.1.1.1.mono HB0.out.size))
      go_wp2
      go_ret
      exact ⟨rfl, HZZ.out⟩
  | false =>
    subst hxy
    cases Z with
    | false =>
      go_wp2_with fail
      refine (HR.out _).mono ?_
      rintro e v0 ⟨rfl, hb⟩
      have HK0 := Lib.hid (K9.call HK.out hb)
      clear c1 c2 c3 c4 c5 c6 c7 c8 c9 d7 d8 d9 hb
      obtain ⟨c1, c2, c3, c4, c5, c6, c7, c8, c9⟩ := HK0.out.2
      have d7 : _ := show v0.cell? ⟨w.heap.size + 1 + 1, 0, none⟩ = _ from c7
      have d8 : _ := show v0.cell? ⟨w.heap.size + 1 + 1, 1, none⟩ = _ from c8
      have d9 : _ := show v0.cell? ⟨w.heap.size + 1 + 1, 2, none⟩ = _ from c9
      go_wp2_with fail
      refine (HX.out _).mono ?_
      rintro e v1 ⟨rfl, hb⟩
      have HK1 := Lib.hid (K9.call HK0.out hb)
      clear c1 c2 c3 c4 c5 c6 c7 c8 c9 d7 d8 d9 hb
      obtain ⟨c1, c2, c3, c4, c5, c6, c7, c8, c9⟩ := HK1.out.2
      have d7 : _ := show v1.cell? ⟨w.heap.size + 1 + 1, 0, none⟩ = _ from c7
      have d8 : _ := show v1.cell? ⟨w.heap.size + 1 + 1, 1, none⟩ = _ from c8
      have d9 : _ := show v1.cell? ⟨w.heap.size + 1 + 1, 2, none⟩ = _ from c9
      go_wp2_with fail
      refine (HZ.out _).mono ?_
      rintro e v2 ⟨rfl, hb⟩
      have HK2 := Lib.hid (K9.call HK1.out hb)
      clear c1 c2 c3 c4 c5 c6 c7 c8 c9 d7 d8 d9 hb
      obtain ⟨c1, c2, c3, c4, c5, c6, c7, c8, c9⟩ := HK2.out.2
      have d7 : _ := show v2.cell? ⟨w.heap.size + 1 + 1, 0, none⟩ = _ from c7
      have d8 : _ := show v2.cell? ⟨w.heap.size + 1 + 1, 1, none⟩ = _ from c8
      have d9 : _ := show v2.cell? ⟨w.heap.size + 1 + 1, 2, none⟩ = _ from c9
      go_wp2_with fail
      have hK := HK2.out
      clear c1 c2 c3 c4 c5 c6 c7 c8 c9 d7 d8 d9
      go_region_held3 (fun W => ((Below W0.heap.size W0 W ∧ Tab W) ∧ w.heap.size + 2 < W0.heap.size) ∧ W.cell? ⟨w.heap.size, 0, none⟩ = some (.int .i64 a.c) ∧ W.cell? ⟨w.heap.size, 1, none⟩ = some (.int .i64 a.f) ∧ W.cell? ⟨w.heap.size, 2, none⟩ = some (.int .u64 (a.s : Int)) ∧ W.cell? ⟨w.heap.size + 1, 0, none⟩ = some (.int .i64 a.c) ∧ W.cell? ⟨w.heap.size + 1, 1, none⟩ = some (.int .i64 a.f) ∧ W.cell? ⟨w.heap.size + 1, 2, none⟩ = some (.int .u64 (sb : Int)) ∧ W.cell? ⟨w.heap.size + 2, 0, none⟩ = some (.int .i64 k.c) ∧ W.cell? ⟨w.heap.size + 2, 1, none⟩ = some (.int .i64 k.f) ∧ W.cell? ⟨w.heap.size + 2, 2, none⟩ = some (.int .u64 (k.s : Int)))
        (with_reducible first | assumption | exact K9.drew (by assumption) | fail)
        (first
          | (go_at_call 6; (with_reducible refine (packetApart.awake_any _).mono ?_); rintro e wB ⟨rfl, hbB⟩; have hK := K9.call (w0 := W0) (g := w.heap.size) (a := a) (b := (⟨a.c, a.f, sb⟩ : K3)) (k := k) (by first | assumption | exact K9.drew (by assumption)) hbB)
          | (go_at_call 7; (with_reducible refine (HN.out _ (K9.tab (w0 := W0) (g := w.heap.size) (a := a) (b := (⟨a.c, a.f, sb⟩ : K3)) (k := k) (by first | assumption | exact K9.drew (by assumption)))).mono ?_); rintro e wB ⟨rfl, hbB⟩; have hK := K9.call (w0 := W0) (g := w.heap.size) (a := a) (b := (⟨a.c, a.f, sb⟩ : K3)) (k := k) (by first | assumption | exact K9.drew (by assumption)) hbB)
          | (go_at_call 8; (with_reducible refine (HM.out _ (K9.tab (w0 := W0) (g := w.heap.size) (a := a) (b := (⟨a.c, a.f, sb⟩ : K3)) (k := k) (by first | assumption | exact K9.drew (by assumption)))).mono ?_); rintro e wB ⟨rfl, hbB⟩; have hK := K9.call (w0 := W0) (g := w.heap.size) (a := a) (b := (⟨a.c, a.f, sb⟩ : K3)) (k := k) (by first | assumption | exact K9.drew (by assumption)) hbB))
      all_goals
        have HZZ := Lib.hid (HB0.out.trans (hK.1.1.1.mono HB0.out.size))
        go_wp2
        go_ret
        exact ⟨rfl, HZZ.out⟩
    | true =>
      obtain rfl := huz rfl rfl
      go_wp2_with fail
      refine (HR.out _).mono ?_
      rintro e v0 ⟨rfl, hb⟩
      have HK0 := Lib.hid (K9.call HK.out hb)
      clear c1 c2 c3 c4 c5 c6 c7 c8 c9 d7 d8 d9 hb
      obtain ⟨c1, c2, c3, c4, c5, c6, c7, c8, c9⟩ := HK0.out.2
      have d7 : _ := show v0.cell? ⟨w.heap.size + 1 + 1, 0, none⟩ = _ from c7
      have d8 : _ := show v0.cell? ⟨w.heap.size + 1 + 1, 1, none⟩ = _ from c8
      have d9 : _ := show v0.cell? ⟨w.heap.size + 1 + 1, 2, none⟩ = _ from c9
      go_wp2_with fail
      refine (HX.out _).mono ?_
      rintro e v1 ⟨rfl, hb⟩
      have HK1 := Lib.hid (K9.call HK0.out hb)
      clear c1 c2 c3 c4 c5 c6 c7 c8 c9 d7 d8 d9 hb
      obtain ⟨c1, c2, c3, c4, c5, c6, c7, c8, c9⟩ := HK1.out.2
      have d7 : _ := show v1.cell? ⟨w.heap.size + 1 + 1, 0, none⟩ = _ from c7
      have d8 : _ := show v1.cell? ⟨w.heap.size + 1 + 1, 1, none⟩ = _ from c8
      have d9 : _ := show v1.cell? ⟨w.heap.size + 1 + 1, 2, none⟩ = _ from c9
      go_wp2_with fail
      refine (HZ.out _).mono ?_
      rintro e v2 ⟨rfl, hb⟩
      have HK2 := Lib.hid (K9.call HK1.out hb)
      clear c1 c2 c3 c4 c5 c6 c7 c8 c9 d7 d8 d9 hb
      obtain ⟨c1, c2, c3, c4, c5, c6, c7, c8, c9⟩ := HK2.out.2
      have d7 : _ := show v2.cell? ⟨w.heap.size + 1 + 1, 0, none⟩ = _ from c7
      have d8 : _ := show v2.cell? ⟨w.heap.size + 1 + 1, 1, none⟩ = _ from c8
      have d9 : _ := show v2.cell? ⟨w.heap.size + 1 + 1, 2, none⟩ = _ from c9
      go_wp2_with fail
      refine (HU.out _).mono ?_
      rintro e v3 ⟨rfl, hb⟩
      have HK3 := Lib.hid (K9.call HK2.out hb)
      clear c1 c2 c3 c4 c5 c6 c7 c8 c9 d7 d8 d9 hb
      obtain ⟨c1, c2, c3, c4, c5, c6, c7, c8, c9⟩ := HK3.out.2
      have d7 : _ := show v3.cell? ⟨w.heap.size + 1 + 1, 0, none⟩ = _ from c7
      have d8 : _ := show v3.cell? ⟨w.heap.size + 1 + 1, 1, none⟩ = _ from c8
      have d9 : _ := show v3.cell? ⟨w.heap.size + 1 + 1, 2, none⟩ = _ from c9
      go_wp2_with fail
      have hK := HK3.out
      clear c1 c2 c3 c4 c5 c6 c7 c8 c9 d7 d8 d9
      go_region_held3 (fun W => ((Below W0.heap.size W0 W ∧ Tab W) ∧ w.heap.size + 2 < W0.heap.size) ∧ W.cell? ⟨w.heap.size, 0, none⟩ = some (.int .i64 a.c) ∧ W.cell? ⟨w.heap.size, 1, none⟩ = some (.int .i64 a.f) ∧ W.cell? ⟨w.heap.size, 2, none⟩ = some (.int .u64 (a.s : Int)) ∧ W.cell? ⟨w.heap.size + 1, 0, none⟩ = some (.int .i64 a.c) ∧ W.cell? ⟨w.heap.size + 1, 1, none⟩ = some (.int .i64 a.f) ∧ W.cell? ⟨w.heap.size + 1, 2, none⟩ = some (.int .u64 (sb : Int)) ∧ W.cell? ⟨w.heap.size + 2, 0, none⟩ = some (.int .i64 k.c) ∧ W.cell? ⟨w.heap.size + 2, 1, none⟩ = some (.int .i64 k.f) ∧ W.cell? ⟨w.heap.size + 2, 2, none⟩ = some (.int .u64 (k.s : Int)))
        (with_reducible first | assumption | exact K9.drew (by assumption) | fail)
        (first
          | (go_at_call 6; (with_reducible refine (packetApart.awake_any _).mono ?_); rintro e wB ⟨rfl, hbB⟩; have hK := K9.call (w0 := W0) (g := w.heap.size) (a := a) (b := (⟨a.c, a.f, sb⟩ : K3)) (k := k) (by first | assumption | exact K9.drew (by assumption)) hbB)
          | (go_at_call 7; (with_reducible refine (HN.out _ (K9.tab (w0 := W0) (g := w.heap.size) (a := a) (b := (⟨a.c, a.f, sb⟩ : K3)) (k := k) (by first | assumption | exact K9.drew (by assumption)))).mono ?_); rintro e wB ⟨rfl, hbB⟩; have hK := K9.call (w0 := W0) (g := w.heap.size) (a := a) (b := (⟨a.c, a.f, sb⟩ : K3)) (k := k) (by first | assumption | exact K9.drew (by assumption)) hbB)
          | (go_at_call 8; (with_reducible refine (HM.out _ (K9.tab (w0 := W0) (g := w.heap.size) (a := a) (b := (⟨a.c, a.f, sb⟩ : K3)) (k := k) (by first | assumption | exact K9.drew (by assumption)))).mono ?_); rintro e wB ⟨rfl, hbB⟩; have hK := K9.call (w0 := W0) (g := w.heap.size) (a := a) (b := (⟨a.c, a.f, sb⟩ : K3)) (k := k) (by first | assumption | exact K9.drew (by assumption)) hbB))
      all_goals
        have HZZ := Lib.hid (HB0.out.trans (hK.1.1.1.mono HB0.out.size))
        go_wp2
        go_ret
        exact ⟨rfl, HZZ.out⟩
set_option maxRecDepth 100000 in
set_option maxHeartbeats 1000000 in
theorem law_e (a k : K3) (ha : a.ok) (w : World) (ht : Tab w) (X Y : Bool) (hx : ltK a a = X) (hy : ltK a a = Y) (hxy : X = false) (hyy : Y = false) :
    Calls Tryd.prog 3 #[.agg a.cells, .agg a.cells, .agg k.cells] w fun e w' => e = .returned (.bool true) ∧ Below w.heap.size w w' := by
  have HX := Lib.hid (fun W => less_any a a W)
  have HY := Lib.hid (fun W => less_any a a W)
  have HZ := Lib.hid (fun W => less_any a k W)
  have HU := Lib.hid (fun W => less_any a k W)
  have HR := Lib.hid (fun W => rless_any a a W)
  rw [hx] at HX HR
  rw [hy] at HY
  have HN := Lib.hid (fun W h => name_any a ha W h)
  have HM := Lib.hid (fun W h => rname_any a ha W h)
  have HA := Lib.hid (And.intro ha ht)
  clear ha ht hx hy
  have hK0 : K9 (((w.alloc (.cells #[.int .i64 a.c, .int .i64 a.f, .int .u64 (a.s : Int)] 24)).alloc (.cells #[.int .i64 a.c, .int .i64 a.f, .int .u64 (a.s : Int)] 24)).alloc (.cells #[.int .i64 k.c, .int .i64 k.f, .int .u64 (k.s : Int)] 24)) w.heap.size a a k (((w.alloc (.cells #[.int .i64 a.c, .int .i64 a.f, .int .u64 (a.s : Int)] 24)).alloc (.cells #[.int .i64 a.c, .int .i64 a.f, .int .u64 (a.s : Int)] 24)).alloc (.cells #[.int .i64 k.c, .int .i64 k.f, .int .u64 (k.s : Int)] 24)) := K9.new w a a k HA.out.2
  have HB0 := Lib.hid (show Below w.heap.size w (((w.alloc (.cells #[.int .i64 a.c, .int .i64 a.f, .int .u64 (a.s : Int)] 24)).alloc (.cells #[.int .i64 a.c, .int .i64 a.f, .int .u64 (a.s : Int)] 24)).alloc (.cells #[.int .i64 k.c, .int .i64 k.f, .int .u64 (k.s : Int)] 24)) from (((Below.refl _ _).alloc (Nat.le_refl _) _).alloc (by simp) _).alloc (by simp; omega) _)
  unfold K3.cells at *
  go_enter Tryd.func3, Tryd.ntmps3
  go_wp2_with fail
  obtain ⟨W0, hW0⟩ : ∃ W0, ((w.alloc (.cells #[.int .i64 a.c, .int .i64 a.f, .int .u64 (a.s : Int)] 24)).alloc (.cells #[.int .i64 a.c, .int .i64 a.f, .int .u64 (a.s : Int)] 24)).alloc (.cells #[.int .i64 k.c, .int .i64 k.f, .int .u64 (k.s : Int)] 24) = W0 := ⟨_, rfl⟩
  rw [hW0] at hK0 HB0 ⊢
  clear hW0
  go_region_held3 (fun W => ((Below W0.heap.size W0 W ∧ Tab W) ∧ w.heap.size + 2 < W0.heap.size) ∧ W.cell? ⟨w.heap.size, 0, none⟩ = some (.int .i64 a.c) ∧ W.cell? ⟨w.heap.size, 1, none⟩ = some (.int .i64 a.f) ∧ W.cell? ⟨w.heap.size, 2, none⟩ = some (.int .u64 (a.s : Int)) ∧ W.cell? ⟨w.heap.size + 1, 0, none⟩ = some (.int .i64 a.c) ∧ W.cell? ⟨w.heap.size + 1, 1, none⟩ = some (.int .i64 a.f) ∧ W.cell? ⟨w.heap.size + 1, 2, none⟩ = some (.int .u64 (a.s : Int)) ∧ W.cell? ⟨w.heap.size + 2, 0, none⟩ = some (.int .i64 k.c) ∧ W.cell? ⟨w.heap.size + 2, 1, none⟩ = some (.int .i64 k.f) ∧ W.cell? ⟨w.heap.size + 2, 2, none⟩ = some (.int .u64 (k.s : Int)))
    (with_reducible first | assumption | exact K9.drew (by assumption) | fail)
    (first
      | (go_at_call 4; (with_reducible first | refine (HX.out _).mono ?_ | refine (HY.out _).mono ?_ | refine (HZ.out _).mono ?_ | refine (HU.out _).mono ?_); rintro e wB ⟨rfl, hbB⟩; have hK := K9.call (w0 := W0) (g := w.heap.size) (a := a) (b := a) (k := k) (by first | assumption | exact K9.drew (by assumption)) hbB)
      | (go_at_call 5; (with_reducible first | refine (HR.out _).mono ?_); rintro e wB ⟨rfl, hbB⟩; have hK := K9.call (w0 := W0) (g := w.heap.size) (a := a) (b := a) (k := k) (by first | assumption | exact K9.drew (by assumption)) hbB))
  have HK := Lib.hid hK
  obtain ⟨c1, c2, c3, c4, c5, c6, c7, c8, c9⟩ := hK.2
  have d7 : _ := show wB.cell? ⟨w.heap.size + 1 + 1, 0, none⟩ = _ from c7
  have d8 : _ := show wB.cell? ⟨w.heap.size + 1 + 1, 1, none⟩ = _ from c8
  have d9 : _ := show wB.cell? ⟨w.heap.size + 1 + 1, 2, none⟩ = _ from c9
  clear hK hbB

  subst hxy hyy
  go_wp2_with fail
  refine (HR.out _).mono ?_
  rintro e v0 ⟨rfl, hb⟩
  have HK0 := Lib.hid (K9.call HK.out hb)
  clear c1 c2 c3 c4 c5 c6 c7 c8 c9 d7 d8 d9 hb
  obtain ⟨c1, c2, c3, c4, c5, c6, c7, c8, c9⟩ := HK0.out.2
  have d7 : _ := show v0.cell? ⟨w.heap.size + 1 + 1, 0, none⟩ = _ from c7
  have d8 : _ := show v0.cell? ⟨w.heap.size + 1 + 1, 1, none⟩ = _ from c8
  have d9 : _ := show v0.cell? ⟨w.heap.size + 1 + 1, 2, none⟩ = _ from c9
  go_wp2_with fail
  refine (HX.out _).mono ?_
  rintro e v1 ⟨rfl, hb⟩
  have HK1 := Lib.hid (K9.call HK0.out hb)
  clear c1 c2 c3 c4 c5 c6 c7 c8 c9 d7 d8 d9 hb
  obtain ⟨c1, c2, c3, c4, c5, c6, c7, c8, c9⟩ := HK1.out.2
  have d7 : _ := show v1.cell? ⟨w.heap.size + 1 + 1, 0, none⟩ = _ from c7
  have d8 : _ := show v1.cell? ⟨w.heap.size + 1 + 1, 1, none⟩ = _ from c8
  have d9 : _ := show v1.cell? ⟨w.heap.size + 1 + 1, 2, none⟩ = _ from c9
  go_wp2_with fail
  have hK := HK1.out
  clear c1 c2 c3 c4 c5 c6 c7 c8 c9 d7 d8 d9
  go_region_held3 (fun W => ((Below W0.heap.size W0 W ∧ Tab W) ∧ w.heap.size + 2 < W0.heap.size) ∧ W.cell? ⟨w.heap.size, 0, none⟩ = some (.int .i64 a.c) ∧ W.cell? ⟨w.heap.size, 1, none⟩ = some (.int .i64 a.f) ∧ W.cell? ⟨w.heap.size, 2, none⟩ = some (.int .u64 (a.s : Int)) ∧ W.cell? ⟨w.heap.size + 1, 0, none⟩ = some (.int .i64 a.c) ∧ W.cell? ⟨w.heap.size + 1, 1, none⟩ = some (.int .i64 a.f) ∧ W.cell? ⟨w.heap.size + 1, 2, none⟩ = some (.int .u64 (a.s : Int)) ∧ W.cell? ⟨w.heap.size + 2, 0, none⟩ = some (.int .i64 k.c) ∧ W.cell? ⟨w.heap.size + 2, 1, none⟩ = some (.int .i64 k.f) ∧ W.cell? ⟨w.heap.size + 2, 2, none⟩ = some (.int .u64 (k.s : Int)))
    (with_reducible first | assumption | exact K9.drew (by assumption) | fail)
    (first
      | (go_at_call 6; (with_reducible refine (packetApart.awake_any _).mono ?_); rintro e wB ⟨rfl, hbB⟩; have hK := K9.call (w0 := W0) (g := w.heap.size) (a := a) (b := a) (k := k) (by first | assumption | exact K9.drew (by assumption)) hbB)
      | (go_at_call 7; (with_reducible refine (HN.out _ (K9.tab (w0 := W0) (g := w.heap.size) (a := a) (b := a) (k := k) (by first | assumption | exact K9.drew (by assumption)))).mono ?_); rintro e wB ⟨rfl, hbB⟩; have hK := K9.call (w0 := W0) (g := w.heap.size) (a := a) (b := a) (k := k) (by first | assumption | exact K9.drew (by assumption)) hbB)
      | (go_at_call 8; (with_reducible refine (HM.out _ (K9.tab (w0 := W0) (g := w.heap.size) (a := a) (b := a) (k := k) (by first | assumption | exact K9.drew (by assumption)))).mono ?_); rintro e wB ⟨rfl, hbB⟩; have hK := K9.call (w0 := W0) (g := w.heap.size) (a := a) (b := a) (k := k) (by first | assumption | exact K9.drew (by assumption)) hbB))
  all_goals
    have HZZ := Lib.hid (HB0.out.trans (hK.1.1.1.mono HB0.out.size))
    go_wp2
    go_ret
    exact ⟨rfl, HZZ.out⟩

theorem lt_anti (a b : K3) (h : ¬ (a.c = b.c ∧ a.f = b.f ∧ a.s = b.s)) : ltK a b = !ltK b a := by
  unfold ltK
  rw [← decide_not]
  apply decide_eq_decide.2
  omega
theorem lt_trans (a b k : K3) (h1 : ltK a b = true) (h2 : ltK b k = true) : ltK a k = true := by
  unfold ltK at *
  rw [decide_eq_true_eq] at *
  omega
theorem lt_irr (a : K3) : ltK a a = false := by
  unfold ltK
  apply decide_eq_false
  omega

theorem law_any (a b k : K3) (ha : a.ok) (w : World) (ht : Tab w) :
    Calls Tryd.prog 3 #[.agg a.cells, .agg b.cells, .agg k.cells] w fun e w' => e = .returned (.bool true) ∧ Below w.heap.size w w' := by
  by_cases hc : a.c = b.c
  · by_cases hf : a.f = b.f
    · by_cases hs : a.s = b.s
      · obtain rfl : a = b := by cases a; cases b; simp only at hc hf hs; subst hc hf hs; rfl
        exact law_e a k ha w ht _ _ rfl rfl (lt_irr a) (lt_irr a)
      · obtain ⟨bc, bf, bs⟩ := b
        simp only at hc hf hs
        subst hc hf
        have hsi : ¬ (a.s : Int) = (bs : Int) := by omega
        exact law_s a k bs ha w ht _ _ _ _ rfl rfl rfl rfl (by simpa using hsi) (lt_anti _ _ (fun h => hs h.2.2)) (lt_trans _ _ _)
    · obtain ⟨bc, bf, bs⟩ := b
      simp only at hc hf
      subst hc
      exact law_f a k bf bs ha w ht _ _ _ _ rfl rfl rfl rfl (by simpa using hf) (lt_anti _ _ (fun h => hf h.2.1)) (lt_trans _ _ _)
  · exact law_c a b k ha w ht _ _ _ _ rfl rfl rfl rfl (by simpa using hc) (lt_anti _ _ (fun h => hc h.1)) (lt_trans _ _ _)
end Go.Proofs.YtkkddaljgplmiaaDoor.packetKeys
