/- wire.Unpack of events, event.Unpack: which log any bytes are. -/
import Derived.Test.YthamemaomedldaaEvEach
namespace Go.Proofs.Ythamemaomedldaa.Rd
open Go Go.RowKit Num Texts Packet
open Ev (E8 evs own_form8)

/-- the events of bytes, or which one is none, and why -/
def unpackE (s : ByteArray) : List E8 × Nat × Int := if ((R2.mk s 0).list 1024).2.end' ≠ 0 then ([], 0, ((R2.mk s 0).list 1024).2.end') else eachE 0 ((R2.mk s 0).list 1024).1

set_option maxRecDepth 20000 in
set_option maxHeartbeats 2000000 in
theorem weunpack_any (s : ByteArray) (hs : s.size ≤ 1099511627776) (W : World) :
    Calls Try.prog 21 #[.string s, .func (.func 22) #[] #[]] W fun e w' => (∃ v, e = .returned (.tuple #[v, .int .i64 ((unpackE s).2.1 : Int), .int .i64 (unpackE s).2.2]) ∧ w'.ownsRow W.heap.size 30 8 v (unpackE s).1.length (evs (unpackE s).1)) ∧ Below W.heap.size W w' := by
  have HT := Lib.hid (fun (R : Nat) (V : World) (h : Lies V R ⟨s, 0⟩) => rlist_any R ⟨s, 0⟩ 1024 (by decide) hs V h)
  have hsz := R2.list_size ⟨s, 0⟩ 1024
  have hu : unpackE s = if ((R2.mk s 0).list 1024).2.end' ≠ 0 then ([], 0, ((R2.mk s 0).list 1024).2.end') else eachE 0 ((R2.mk s 0).list 1024).1 := rfl
  generalize unpackE s = U at *
  generalize (R2.mk s 0).list 1024 = x at *
  obtain ⟨xs, r⟩ := x
  dsimp only at hu HT hsz
  have HU := Lib.hid hu
  have HSz := Lib.hid hsz
  clear hu hsz
  go_enter Try.func21, Try.ntmps21
  go_wp2_with fail
  refine (new_any s _).mono ?_
  rintro _ w1 ⟨rfl, hw⟩
  have hR : Lies w1 W.heap.size ⟨s, 0⟩ := by rw [hw]; exact heap_alloc_new W _
  have HB := Lib.hid (show Below W.heap.size W w1 by rw [hw]; exact (Below.refl _ _).alloc (Nat.le_refl _) _)
  clear hw
  go_wp2_with fail
  refine (HT.out _ _ hR).mono ?_
  rintro _ w2 ⟨⟨v, rfl, hv⟩, hR2, hO⟩
  obtain ⟨A, c, rfl⟩ := own_form hv
  have HB2 := Lib.hid (Only.below HB.out hO (Nat.le_refl _) HB.out.size)
  have HV := Lib.hid hv
  have HE := Lib.hid (end_any W.heap.size r w2 hR2)
  clear hv hR hR2 hO HB HT
  go_wp2_with fail
  refine HE.out.mono ?_
  rintro _ w3 ⟨rfl, hw⟩
  obtain rfl := hw.symm
  clear hw HE
  obtain ⟨e, hee⟩ : ∃ e, e = r.end' := ⟨_, rfl⟩
  rw [← hee]
  have HEe : Hid (r.end' = e) := Lib.hid hee.symm
  clear hee
  by_cases he : e = 0
  · subst he
    have HX : Hid (U = eachE 0 xs) := Lib.hid (by rw [HU.out, HEe.out, if_neg (by simp)])
    clear HU HEe
    have HEa := Lib.hid (eeach_any A xs.length c xs w2 (own_rds HV.out) (fun i => by
      rw [List.getD_eq_getElem?_getD]
      by_cases hi : i < xs.length
      · rw [List.getElem?_eq_getElem hi]
        have := HSz.out.2 _ (List.getElem_mem hi)
        show xs[i].size ≤ _
        omega
      · rw [List.getElem?_eq_none (by omega)]; exact Nat.zero_le _) (by have := HSz.out.1; omega))
    clear HV HSz
    go_wp2_with fail
    refine HEa.out.mono ?_
    rintro _ w4 ⟨⟨v4, rfl, hrow⟩, b4⟩
    have HRow := Lib.hid (Msg.own_base hrow HB2.out.size)
    have HB4 := Lib.hid (HB2.out.trans (b4.mono HB2.out.size))
    obtain ⟨Av, cv, rfl⟩ := own_form8 hrow
    clear hrow b4 HEa
    go_wp2
    refine bodyPost_ret (results_tmp3 rfl _ _ _) rfl ?_
    exact ⟨⟨_, by rw [HX.out]; rfl, by rw [HX.out]; exact HRow.out⟩, HB4.out⟩
  · have he2 : (e == 0) = false := by simpa using he
    have HX : Hid (U = ([], 0, e)) := Lib.hid (by rw [HU.out, HEe.out, if_pos he])
    clear HU HEe HV HSz
    go_wp2
    refine bodyPost_ret (results_tmp3 rfl _ _ _) rfl ?_
    exact ⟨⟨.slice none 0 0, by rw [HX.out]; rfl, by rw [HX.out]; exact World.ownsRow_nil _ _ _ _⟩, HB2.out⟩

set_option maxRecDepth 20000 in
set_option maxHeartbeats 1000000 in
theorem eunpack_any (s : ByteArray) (hs : s.size ≤ 1099511627776) (W : World) :
    Calls Try.prog 9 #[.string s] W fun e w' => (∃ v, e = .returned (.tuple #[v, .int .i64 ((unpackE s).2.1 : Int), .int .i64 (unpackE s).2.2]) ∧ w'.ownsRow W.heap.size 30 8 v (unpackE s).1.length (evs (unpackE s).1)) ∧ Below W.heap.size W w' := by
  have HU := Lib.hid (fun V => weunpack_any s hs V)
  generalize unpackE s = U at *
  clear hs
  go_enter Try.func9, Try.ntmps9
  go_wp2_with fail
  refine (HU.out _).mono ?_
  rintro _ w4 ⟨⟨v4, rfl, hrow⟩, b4⟩
  obtain ⟨Av, cv, rfl⟩ := own_form8 hrow
  have HRow := Lib.hid hrow
  have HB4 := Lib.hid b4
  clear hrow b4
  go_wp2
  refine bodyPost_ret (results_tmp3 rfl _ _ _) rfl ?_
  exact ⟨⟨_, rfl, HRow.out⟩, HB4.out⟩
end Go.Proofs.Ythamemaomedldaa.Rd
