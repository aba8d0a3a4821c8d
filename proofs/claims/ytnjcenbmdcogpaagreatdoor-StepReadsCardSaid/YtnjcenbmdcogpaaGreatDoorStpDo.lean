import Derived.Test.YtnjcenbmdcogpaaGreatDoorStpLine
import Derived.Test.YtnjcenbmdcogpaaGreatDoorPgLine
import Derived.Test.YtnjcenbmdcogpaaGreatDoorPacketRef
import Derived.Test.YtnjcenbmdcogpaaGreatDoorPacketTake
import Derived.Test.YtnjcenbmdcogpaaGreatDoorStpParse0
/- Steps: a step's bytes, by the program and by the page. -/
namespace Go.Proofs.YtnjcenbmdcogpaaGreatDoor.Sp
open Go Go.Lib Go.RowKit Num

def St.p (x : St) : Packet.P5 := ⟨x.c, x.f, x.s, x.t, x.d⟩
def bytesS (x : St) : ByteArray :=
  if x.k = 1 ∨ x.k = 5 then kS x.k ++ kS x.n else if x.k = 2 ∨ x.k = 4 then kS x.k ++ kS x.sd else
  if x.k = 3 then kS 3 ++ x.p.bytes else if x.k = 6 then kS 6 ++ kS x.sd ++ kS x.n else kS x.k
theorem pby_sz (p : Packet.P5) (h : p.d.size ≤ 64) : (kS 3).size + p.bytes.size ≤ 9223372036854775807 := by
  unfold Packet.P5.bytes
  have := Packet.textB_size p.d h
  have := kS_size p.c; have := kS_size p.f; have := kS_size p.s; have := kS_size p.t; have := kS_size 3
  simp only [ByteArray.size_append]
  omega

set_option maxHeartbeats 1000000 in
set_option maxRecDepth 100000 in
theorem put_1 (n : Int) (n0 : 0 ≤ n) (n1 : n ≤ 2147483647) (w : World) : Calls Tryz.prog 8 #[.agg #[.int .i64 1, .int .i64 0, .int .i64 n, .int .i64 0, .int .i64 0, .int .u64 0, .int .u64 0, .string ⟨#[]⟩]] w fun e w' => e = .returned (.tuple #[.string (bytesS (⟨1, 0, n, 0, 0, 0, 0, ⟨#[]⟩⟩ : St)), .int .i64 0]) ∧ Below w.heap.size w w' := by
  have HRt := Lib.hid (fun W => right_1 0 n 0 0 0 0 ⟨#[]⟩ W)
  rw [show decide (rightP (⟨1, 0, n, 0, 0, 0, 0, ⟨#[]⟩⟩ : St)) = true from decide_eq_true ((rightP_1 _ _ _ _ _ _ _).2 ⟨by omega, by omega, by omega, by omega, rfl, rfl, rfl, rfl, rfl⟩)] at HRt
  rw [show bytesS (⟨1, 0, n, 0, 0, 0, 0, ⟨#[]⟩⟩ : St) = kS 1 ++ kS n from rfl]
  have hwn : IntKind.u64.wrap n = n := IntWalk.u64_in _ ⟨by omega, by omega⟩
  have k2 := add_run Tryz.prog
  have k3 := add_run3 Tryz.prog
  obtain ⟨x, hx⟩ : ∃ x, x = (⟨1, 0, n, 0, 0, 0, 0, ⟨#[]⟩⟩ : St) := ⟨_, rfl⟩
  go_enter Tryz.func8, Tryz.ntmps8
  go_wp2_with fail
  refine (HRt.out _).mono ?_
  rintro _ w1 ⟨rfl, hb⟩
  have HX1 : Hid (LB w x w1) := Lib.hid (LB.start (by rw [hx]; exact hb))
  clear hb
  obtain ⟨c0, c1, c2, c3, c4, c5, c6, c7⟩ := HX1.out.cells
  rw [hx] at c0 c1 c2 c3 c4 c5 c6 c7
  dsimp only at c0 c1 c2 c3 c4 c5 c6 c7
  have lt := HX1.out.lt
  go_wp2_with fail
  refine (parts_1 _).mono ?_
  rintro _ wq ⟨rfl, hq⟩
  obtain rfl := hq.symm
  clear hq
  go_wp2_with fail
  refine (num_int 1 (by omega) (by omega) _).mono ?_
  rintro _ w2 ⟨rfl, hb2⟩
  have HX2 := Lib.hid (HX1.out.below hb2)
  clear hb2
  clear c0 c1 c2 c3 c4 c5 c6 c7 lt
  obtain ⟨c0, c1, c2, c3, c4, c5, c6, c7⟩ := HX2.out.cells
  rw [hx] at c0 c1 c2 c3 c4 c5 c6 c7
  dsimp only at c0 c1 c2 c3 c4 c5 c6 c7
  have lt := HX2.out.lt
  go_wp2_with fail
  refine (num_int n (by omega) (by omega) _).mono ?_
  rintro _ w3 ⟨rfl, hb3⟩
  have HX3 := Lib.hid (HX2.out.below hb3)
  clear hb3
  clear c0 c1 c2 c3 c4 c5 c6 c7 lt
  obtain ⟨c0, c1, c2, c3, c4, c5, c6, c7⟩ := HX3.out.cells
  rw [hx] at c0 c1 c2 c3 c4 c5 c6 c7
  dsimp only at c0 c1 c2 c3 c4 c5 c6 c7
  have lt := HX3.out.lt
  go_wp2
  go_ret2
  exact ⟨rfl, HX3.out.b⟩
set_option maxHeartbeats 1000000 in
set_option maxRecDepth 100000 in
theorem rput_1 (n : Int) (n0 : 0 ≤ n) (n1 : n ≤ 2147483647) (w : World) : Calls Tryz.prog 14 #[.agg #[.int .i64 1, .int .i64 0, .int .i64 n, .int .i64 0, .int .i64 0, .int .u64 0, .int .u64 0, .string ⟨#[]⟩]] w fun e w' => e = .returned (.string (bytesS (⟨1, 0, n, 0, 0, 0, 0, ⟨#[]⟩⟩ : St))) ∧ Below w.heap.size w w' := by
  rw [show bytesS (⟨1, 0, n, 0, 0, 0, 0, ⟨#[]⟩⟩ : St) = kS 1 ++ kS n from rfl]
  have hwn : IntKind.u64.wrap n = n := IntWalk.u64_in _ ⟨by omega, by omega⟩
  have k2 := add_run Tryz.prog
  have k3 := add_run3 Tryz.prog
  obtain ⟨x, hx⟩ : ∃ x, x = (⟨1, 0, n, 0, 0, 0, 0, ⟨#[]⟩⟩ : St) := ⟨_, rfl⟩
  go_enter Tryz.func14, Tryz.ntmps14
  go_wp2_with fail
  refine (St15.has_1 _).mono ?_
  rintro _ w1 ⟨rfl, hb⟩
  have HX1 : Hid (LB w x w1) := Lib.hid (LB.start (by rw [hx]; exact hb))
  clear hb
  obtain ⟨c0, c1, c2, c3, c4, c5, c6, c7⟩ := HX1.out.cells
  rw [hx] at c0 c1 c2 c3 c4 c5 c6 c7
  dsimp only at c0 c1 c2 c3 c4 c5 c6 c7
  have lt := HX1.out.lt
  go_wp2_with fail
  refine (ref_num_int 1 (by omega) (by omega) _).mono ?_
  rintro _ w2 ⟨rfl, hb2⟩
  have HX2 := Lib.hid (HX1.out.below hb2)
  clear hb2
  clear c0 c1 c2 c3 c4 c5 c6 c7 lt
  obtain ⟨c0, c1, c2, c3, c4, c5, c6, c7⟩ := HX2.out.cells
  rw [hx] at c0 c1 c2 c3 c4 c5 c6 c7
  dsimp only at c0 c1 c2 c3 c4 c5 c6 c7
  have lt := HX2.out.lt
  go_wp2_with fail
  refine (St15.in_n_115 _).mono ?_
  rintro _ wq ⟨rfl, hq⟩
  obtain rfl := hq.symm
  clear hq
  go_wp2_with fail
  refine (in_n_110 _).mono ?_
  rintro _ wq ⟨rfl, hq⟩
  obtain rfl := hq.symm
  clear hq
  go_wp2_with fail
  refine (ref_num_int n (by omega) (by omega) _).mono ?_
  rintro _ w3 ⟨rfl, hb3⟩
  have HX3 := Lib.hid (HX2.out.below hb3)
  clear hb3
  clear c0 c1 c2 c3 c4 c5 c6 c7 lt
  obtain ⟨c0, c1, c2, c3, c4, c5, c6, c7⟩ := HX3.out.cells
  rw [hx] at c0 c1 c2 c3 c4 c5 c6 c7
  dsimp only at c0 c1 c2 c3 c4 c5 c6 c7
  have lt := HX3.out.lt
  go_wp2_with fail
  refine (St15.in_n_112 _).mono ?_
  rintro _ wq ⟨rfl, hq⟩
  obtain rfl := hq.symm
  clear hq
  go_wp2
  go_ret
  exact ⟨rfl, HX3.out.b⟩

set_option maxHeartbeats 1000000 in
set_option maxRecDepth 100000 in
theorem put_2 (sd : Int) (s0 : 0 ≤ sd) (s1 : sd ≤ 1) (w : World) : Calls Tryz.prog 8 #[.agg #[.int .i64 2, .int .i64 sd, .int .i64 0, .int .i64 0, .int .i64 0, .int .u64 0, .int .u64 0, .string ⟨#[]⟩]] w fun e w' => e = .returned (.tuple #[.string (bytesS (⟨2, sd, 0, 0, 0, 0, 0, ⟨#[]⟩⟩ : St)), .int .i64 0]) ∧ Below w.heap.size w w' := by
  have HRt := Lib.hid (fun W => right_2 sd 0 0 0 0 0 ⟨#[]⟩ W)
  rw [show decide (rightP (⟨2, sd, 0, 0, 0, 0, 0, ⟨#[]⟩⟩ : St)) = true from decide_eq_true ((rightP_2 _ _ _ _ _ _ _).2 ⟨by omega, by omega, by omega, by omega, rfl, rfl, rfl, rfl, rfl⟩)] at HRt
  rw [show bytesS (⟨2, sd, 0, 0, 0, 0, 0, ⟨#[]⟩⟩ : St) = kS 2 ++ kS sd from rfl]
  have hwsd : IntKind.u64.wrap sd = sd := IntWalk.u64_in _ ⟨by omega, by omega⟩
  have k2 := add_run Tryz.prog
  have k3 := add_run3 Tryz.prog
  obtain ⟨x, hx⟩ : ∃ x, x = (⟨2, sd, 0, 0, 0, 0, 0, ⟨#[]⟩⟩ : St) := ⟨_, rfl⟩
  go_enter Tryz.func8, Tryz.ntmps8
  go_wp2_with fail
  refine (HRt.out _).mono ?_
  rintro _ w1 ⟨rfl, hb⟩
  have HX1 : Hid (LB w x w1) := Lib.hid (LB.start (by rw [hx]; exact hb))
  clear hb
  obtain ⟨c0, c1, c2, c3, c4, c5, c6, c7⟩ := HX1.out.cells
  rw [hx] at c0 c1 c2 c3 c4 c5 c6 c7
  dsimp only at c0 c1 c2 c3 c4 c5 c6 c7
  have lt := HX1.out.lt
  go_wp2_with fail
  refine (parts_2 _).mono ?_
  rintro _ wq ⟨rfl, hq⟩
  obtain rfl := hq.symm
  clear hq
  go_wp2_with fail
  refine (num_int 2 (by omega) (by omega) _).mono ?_
  rintro _ w2 ⟨rfl, hb2⟩
  have HX2 := Lib.hid (HX1.out.below hb2)
  clear hb2
  clear c0 c1 c2 c3 c4 c5 c6 c7 lt
  obtain ⟨c0, c1, c2, c3, c4, c5, c6, c7⟩ := HX2.out.cells
  rw [hx] at c0 c1 c2 c3 c4 c5 c6 c7
  dsimp only at c0 c1 c2 c3 c4 c5 c6 c7
  have lt := HX2.out.lt
  go_wp2_with fail
  refine (num_int sd (by omega) (by omega) _).mono ?_
  rintro _ w3 ⟨rfl, hb3⟩
  have HX3 := Lib.hid (HX2.out.below hb3)
  clear hb3
  clear c0 c1 c2 c3 c4 c5 c6 c7 lt
  obtain ⟨c0, c1, c2, c3, c4, c5, c6, c7⟩ := HX3.out.cells
  rw [hx] at c0 c1 c2 c3 c4 c5 c6 c7
  dsimp only at c0 c1 c2 c3 c4 c5 c6 c7
  have lt := HX3.out.lt
  go_wp2
  go_ret2
  exact ⟨rfl, HX3.out.b⟩
set_option maxHeartbeats 1000000 in
set_option maxRecDepth 100000 in
theorem rput_2 (sd : Int) (s0 : 0 ≤ sd) (s1 : sd ≤ 1) (w : World) : Calls Tryz.prog 14 #[.agg #[.int .i64 2, .int .i64 sd, .int .i64 0, .int .i64 0, .int .i64 0, .int .u64 0, .int .u64 0, .string ⟨#[]⟩]] w fun e w' => e = .returned (.string (bytesS (⟨2, sd, 0, 0, 0, 0, 0, ⟨#[]⟩⟩ : St))) ∧ Below w.heap.size w w' := by
  rw [show bytesS (⟨2, sd, 0, 0, 0, 0, 0, ⟨#[]⟩⟩ : St) = kS 2 ++ kS sd from rfl]
  have hwsd : IntKind.u64.wrap sd = sd := IntWalk.u64_in _ ⟨by omega, by omega⟩
  have k2 := add_run Tryz.prog
  have k3 := add_run3 Tryz.prog
  obtain ⟨x, hx⟩ : ∃ x, x = (⟨2, sd, 0, 0, 0, 0, 0, ⟨#[]⟩⟩ : St) := ⟨_, rfl⟩
  go_enter Tryz.func14, Tryz.ntmps14
  go_wp2_with fail
  refine (St15.has_2 _).mono ?_
  rintro _ w1 ⟨rfl, hb⟩
  have HX1 : Hid (LB w x w1) := Lib.hid (LB.start (by rw [hx]; exact hb))
  clear hb
  obtain ⟨c0, c1, c2, c3, c4, c5, c6, c7⟩ := HX1.out.cells
  rw [hx] at c0 c1 c2 c3 c4 c5 c6 c7
  dsimp only at c0 c1 c2 c3 c4 c5 c6 c7
  have lt := HX1.out.lt
  go_wp2_with fail
  refine (ref_num_int 2 (by omega) (by omega) _).mono ?_
  rintro _ w2 ⟨rfl, hb2⟩
  have HX2 := Lib.hid (HX1.out.below hb2)
  clear hb2
  clear c0 c1 c2 c3 c4 c5 c6 c7 lt
  obtain ⟨c0, c1, c2, c3, c4, c5, c6, c7⟩ := HX2.out.cells
  rw [hx] at c0 c1 c2 c3 c4 c5 c6 c7
  dsimp only at c0 c1 c2 c3 c4 c5 c6 c7
  have lt := HX2.out.lt
  go_wp2_with fail
  refine (St15.in_s_115 _).mono ?_
  rintro _ wq ⟨rfl, hq⟩
  obtain rfl := hq.symm
  clear hq
  go_wp2_with fail
  refine (ref_num_int sd (by omega) (by omega) _).mono ?_
  rintro _ w3 ⟨rfl, hb3⟩
  have HX3 := Lib.hid (HX2.out.below hb3)
  clear hb3
  clear c0 c1 c2 c3 c4 c5 c6 c7 lt
  obtain ⟨c0, c1, c2, c3, c4, c5, c6, c7⟩ := HX3.out.cells
  rw [hx] at c0 c1 c2 c3 c4 c5 c6 c7
  dsimp only at c0 c1 c2 c3 c4 c5 c6 c7
  have lt := HX3.out.lt
  go_wp2_with fail
  refine (in_s_110 _).mono ?_
  rintro _ wq ⟨rfl, hq⟩
  obtain rfl := hq.symm
  clear hq
  go_wp2_with fail
  refine (St15.in_s_112 _).mono ?_
  rintro _ wq ⟨rfl, hq⟩
  obtain rfl := hq.symm
  clear hq
  go_wp2
  go_ret
  exact ⟨rfl, HX3.out.b⟩

set_option maxHeartbeats 1000000 in
set_option maxRecDepth 100000 in
theorem put_4 (sd : Int) (s0 : 0 ≤ sd) (s1 : sd ≤ 1) (w : World) : Calls Tryz.prog 8 #[.agg #[.int .i64 4, .int .i64 sd, .int .i64 0, .int .i64 0, .int .i64 0, .int .u64 0, .int .u64 0, .string ⟨#[]⟩]] w fun e w' => e = .returned (.tuple #[.string (bytesS (⟨4, sd, 0, 0, 0, 0, 0, ⟨#[]⟩⟩ : St)), .int .i64 0]) ∧ Below w.heap.size w w' := by
  have HRt := Lib.hid (fun W => right_4 sd 0 0 0 0 0 ⟨#[]⟩ W)
  rw [show decide (rightP (⟨4, sd, 0, 0, 0, 0, 0, ⟨#[]⟩⟩ : St)) = true from decide_eq_true ((rightP_4 _ _ _ _ _ _ _).2 ⟨by omega, by omega, by omega, by omega, rfl, rfl, rfl, rfl, rfl⟩)] at HRt
  rw [show bytesS (⟨4, sd, 0, 0, 0, 0, 0, ⟨#[]⟩⟩ : St) = kS 4 ++ kS sd from rfl]
  have hwsd : IntKind.u64.wrap sd = sd := IntWalk.u64_in _ ⟨by omega, by omega⟩
  have k2 := add_run Tryz.prog
  have k3 := add_run3 Tryz.prog
  obtain ⟨x, hx⟩ : ∃ x, x = (⟨4, sd, 0, 0, 0, 0, 0, ⟨#[]⟩⟩ : St) := ⟨_, rfl⟩
  go_enter Tryz.func8, Tryz.ntmps8
  go_wp2_with fail
  refine (HRt.out _).mono ?_
  rintro _ w1 ⟨rfl, hb⟩
  have HX1 : Hid (LB w x w1) := Lib.hid (LB.start (by rw [hx]; exact hb))
  clear hb
  obtain ⟨c0, c1, c2, c3, c4, c5, c6, c7⟩ := HX1.out.cells
  rw [hx] at c0 c1 c2 c3 c4 c5 c6 c7
  dsimp only at c0 c1 c2 c3 c4 c5 c6 c7
  have lt := HX1.out.lt
  go_wp2_with fail
  refine (parts_4 _).mono ?_
  rintro _ wq ⟨rfl, hq⟩
  obtain rfl := hq.symm
  clear hq
  go_wp2_with fail
  refine (num_int 4 (by omega) (by omega) _).mono ?_
  rintro _ w2 ⟨rfl, hb2⟩
  have HX2 := Lib.hid (HX1.out.below hb2)
  clear hb2
  clear c0 c1 c2 c3 c4 c5 c6 c7 lt
  obtain ⟨c0, c1, c2, c3, c4, c5, c6, c7⟩ := HX2.out.cells
  rw [hx] at c0 c1 c2 c3 c4 c5 c6 c7
  dsimp only at c0 c1 c2 c3 c4 c5 c6 c7
  have lt := HX2.out.lt
  go_wp2_with fail
  refine (num_int sd (by omega) (by omega) _).mono ?_
  rintro _ w3 ⟨rfl, hb3⟩
  have HX3 := Lib.hid (HX2.out.below hb3)
  clear hb3
  clear c0 c1 c2 c3 c4 c5 c6 c7 lt
  obtain ⟨c0, c1, c2, c3, c4, c5, c6, c7⟩ := HX3.out.cells
  rw [hx] at c0 c1 c2 c3 c4 c5 c6 c7
  dsimp only at c0 c1 c2 c3 c4 c5 c6 c7
  have lt := HX3.out.lt
  go_wp2
  go_ret2
  exact ⟨rfl, HX3.out.b⟩
set_option maxHeartbeats 1000000 in
set_option maxRecDepth 100000 in
theorem rput_4 (sd : Int) (s0 : 0 ≤ sd) (s1 : sd ≤ 1) (w : World) : Calls Tryz.prog 14 #[.agg #[.int .i64 4, .int .i64 sd, .int .i64 0, .int .i64 0, .int .i64 0, .int .u64 0, .int .u64 0, .string ⟨#[]⟩]] w fun e w' => e = .returned (.string (bytesS (⟨4, sd, 0, 0, 0, 0, 0, ⟨#[]⟩⟩ : St))) ∧ Below w.heap.size w w' := by
  rw [show bytesS (⟨4, sd, 0, 0, 0, 0, 0, ⟨#[]⟩⟩ : St) = kS 4 ++ kS sd from rfl]
  have hwsd : IntKind.u64.wrap sd = sd := IntWalk.u64_in _ ⟨by omega, by omega⟩
  have k2 := add_run Tryz.prog
  have k3 := add_run3 Tryz.prog
  obtain ⟨x, hx⟩ : ∃ x, x = (⟨4, sd, 0, 0, 0, 0, 0, ⟨#[]⟩⟩ : St) := ⟨_, rfl⟩
  go_enter Tryz.func14, Tryz.ntmps14
  go_wp2_with fail
  refine (St15.has_4 _).mono ?_
  rintro _ w1 ⟨rfl, hb⟩
  have HX1 : Hid (LB w x w1) := Lib.hid (LB.start (by rw [hx]; exact hb))
  clear hb
  obtain ⟨c0, c1, c2, c3, c4, c5, c6, c7⟩ := HX1.out.cells
  rw [hx] at c0 c1 c2 c3 c4 c5 c6 c7
  dsimp only at c0 c1 c2 c3 c4 c5 c6 c7
  have lt := HX1.out.lt
  go_wp2_with fail
  refine (ref_num_int 4 (by omega) (by omega) _).mono ?_
  rintro _ w2 ⟨rfl, hb2⟩
  have HX2 := Lib.hid (HX1.out.below hb2)
  clear hb2
  clear c0 c1 c2 c3 c4 c5 c6 c7 lt
  obtain ⟨c0, c1, c2, c3, c4, c5, c6, c7⟩ := HX2.out.cells
  rw [hx] at c0 c1 c2 c3 c4 c5 c6 c7
  dsimp only at c0 c1 c2 c3 c4 c5 c6 c7
  have lt := HX2.out.lt
  go_wp2_with fail
  refine (St15.in_s_115 _).mono ?_
  rintro _ wq ⟨rfl, hq⟩
  obtain rfl := hq.symm
  clear hq
  go_wp2_with fail
  refine (ref_num_int sd (by omega) (by omega) _).mono ?_
  rintro _ w3 ⟨rfl, hb3⟩
  have HX3 := Lib.hid (HX2.out.below hb3)
  clear hb3
  clear c0 c1 c2 c3 c4 c5 c6 c7 lt
  obtain ⟨c0, c1, c2, c3, c4, c5, c6, c7⟩ := HX3.out.cells
  rw [hx] at c0 c1 c2 c3 c4 c5 c6 c7
  dsimp only at c0 c1 c2 c3 c4 c5 c6 c7
  have lt := HX3.out.lt
  go_wp2_with fail
  refine (in_s_110 _).mono ?_
  rintro _ wq ⟨rfl, hq⟩
  obtain rfl := hq.symm
  clear hq
  go_wp2_with fail
  refine (St15.in_s_112 _).mono ?_
  rintro _ wq ⟨rfl, hq⟩
  obtain rfl := hq.symm
  clear hq
  go_wp2
  go_ret
  exact ⟨rfl, HX3.out.b⟩

set_option maxHeartbeats 1000000 in
set_option maxRecDepth 100000 in
theorem put_5 (n : Int) (n0 : 0 ≤ n) (n1 : n ≤ 7) (w : World) : Calls Tryz.prog 8 #[.agg #[.int .i64 5, .int .i64 0, .int .i64 n, .int .i64 0, .int .i64 0, .int .u64 0, .int .u64 0, .string ⟨#[]⟩]] w fun e w' => e = .returned (.tuple #[.string (bytesS (⟨5, 0, n, 0, 0, 0, 0, ⟨#[]⟩⟩ : St)), .int .i64 0]) ∧ Below w.heap.size w w' := by
  have HRt := Lib.hid (fun W => right_5 0 n 0 0 0 0 ⟨#[]⟩ W)
  rw [show decide (rightP (⟨5, 0, n, 0, 0, 0, 0, ⟨#[]⟩⟩ : St)) = true from decide_eq_true ((rightP_5 _ _ _ _ _ _ _).2 ⟨by omega, by omega, by omega, by omega, rfl, rfl, rfl, rfl, rfl⟩)] at HRt
  rw [show bytesS (⟨5, 0, n, 0, 0, 0, 0, ⟨#[]⟩⟩ : St) = kS 5 ++ kS n from rfl]
  have hwn : IntKind.u64.wrap n = n := IntWalk.u64_in _ ⟨by omega, by omega⟩
  have k2 := add_run Tryz.prog
  have k3 := add_run3 Tryz.prog
  obtain ⟨x, hx⟩ : ∃ x, x = (⟨5, 0, n, 0, 0, 0, 0, ⟨#[]⟩⟩ : St) := ⟨_, rfl⟩
  go_enter Tryz.func8, Tryz.ntmps8
  go_wp2_with fail
  refine (HRt.out _).mono ?_
  rintro _ w1 ⟨rfl, hb⟩
  have HX1 : Hid (LB w x w1) := Lib.hid (LB.start (by rw [hx]; exact hb))
  clear hb
  obtain ⟨c0, c1, c2, c3, c4, c5, c6, c7⟩ := HX1.out.cells
  rw [hx] at c0 c1 c2 c3 c4 c5 c6 c7
  dsimp only at c0 c1 c2 c3 c4 c5 c6 c7
  have lt := HX1.out.lt
  go_wp2_with fail
  refine (parts_5 _).mono ?_
  rintro _ wq ⟨rfl, hq⟩
  obtain rfl := hq.symm
  clear hq
  go_wp2_with fail
  refine (num_int 5 (by omega) (by omega) _).mono ?_
  rintro _ w2 ⟨rfl, hb2⟩
  have HX2 := Lib.hid (HX1.out.below hb2)
  clear hb2
  clear c0 c1 c2 c3 c4 c5 c6 c7 lt
  obtain ⟨c0, c1, c2, c3, c4, c5, c6, c7⟩ := HX2.out.cells
  rw [hx] at c0 c1 c2 c3 c4 c5 c6 c7
  dsimp only at c0 c1 c2 c3 c4 c5 c6 c7
  have lt := HX2.out.lt
  go_wp2_with fail
  refine (num_int n (by omega) (by omega) _).mono ?_
  rintro _ w3 ⟨rfl, hb3⟩
  have HX3 := Lib.hid (HX2.out.below hb3)
  clear hb3
  clear c0 c1 c2 c3 c4 c5 c6 c7 lt
  obtain ⟨c0, c1, c2, c3, c4, c5, c6, c7⟩ := HX3.out.cells
  rw [hx] at c0 c1 c2 c3 c4 c5 c6 c7
  dsimp only at c0 c1 c2 c3 c4 c5 c6 c7
  have lt := HX3.out.lt
  go_wp2
  go_ret2
  exact ⟨rfl, HX3.out.b⟩
set_option maxHeartbeats 1000000 in
set_option maxRecDepth 100000 in
theorem rput_5 (n : Int) (n0 : 0 ≤ n) (n1 : n ≤ 7) (w : World) : Calls Tryz.prog 14 #[.agg #[.int .i64 5, .int .i64 0, .int .i64 n, .int .i64 0, .int .i64 0, .int .u64 0, .int .u64 0, .string ⟨#[]⟩]] w fun e w' => e = .returned (.string (bytesS (⟨5, 0, n, 0, 0, 0, 0, ⟨#[]⟩⟩ : St))) ∧ Below w.heap.size w w' := by
  rw [show bytesS (⟨5, 0, n, 0, 0, 0, 0, ⟨#[]⟩⟩ : St) = kS 5 ++ kS n from rfl]
  have hwn : IntKind.u64.wrap n = n := IntWalk.u64_in _ ⟨by omega, by omega⟩
  have k2 := add_run Tryz.prog
  have k3 := add_run3 Tryz.prog
  obtain ⟨x, hx⟩ : ∃ x, x = (⟨5, 0, n, 0, 0, 0, 0, ⟨#[]⟩⟩ : St) := ⟨_, rfl⟩
  go_enter Tryz.func14, Tryz.ntmps14
  go_wp2_with fail
  refine (St15.has_5 _).mono ?_
  rintro _ w1 ⟨rfl, hb⟩
  have HX1 : Hid (LB w x w1) := Lib.hid (LB.start (by rw [hx]; exact hb))
  clear hb
  obtain ⟨c0, c1, c2, c3, c4, c5, c6, c7⟩ := HX1.out.cells
  rw [hx] at c0 c1 c2 c3 c4 c5 c6 c7
  dsimp only at c0 c1 c2 c3 c4 c5 c6 c7
  have lt := HX1.out.lt
  go_wp2_with fail
  refine (ref_num_int 5 (by omega) (by omega) _).mono ?_
  rintro _ w2 ⟨rfl, hb2⟩
  have HX2 := Lib.hid (HX1.out.below hb2)
  clear hb2
  clear c0 c1 c2 c3 c4 c5 c6 c7 lt
  obtain ⟨c0, c1, c2, c3, c4, c5, c6, c7⟩ := HX2.out.cells
  rw [hx] at c0 c1 c2 c3 c4 c5 c6 c7
  dsimp only at c0 c1 c2 c3 c4 c5 c6 c7
  have lt := HX2.out.lt
  go_wp2_with fail
  refine (St15.in_n_115 _).mono ?_
  rintro _ wq ⟨rfl, hq⟩
  obtain rfl := hq.symm
  clear hq
  go_wp2_with fail
  refine (in_n_110 _).mono ?_
  rintro _ wq ⟨rfl, hq⟩
  obtain rfl := hq.symm
  clear hq
  go_wp2_with fail
  refine (ref_num_int n (by omega) (by omega) _).mono ?_
  rintro _ w3 ⟨rfl, hb3⟩
  have HX3 := Lib.hid (HX2.out.below hb3)
  clear hb3
  clear c0 c1 c2 c3 c4 c5 c6 c7 lt
  obtain ⟨c0, c1, c2, c3, c4, c5, c6, c7⟩ := HX3.out.cells
  rw [hx] at c0 c1 c2 c3 c4 c5 c6 c7
  dsimp only at c0 c1 c2 c3 c4 c5 c6 c7
  have lt := HX3.out.lt
  go_wp2_with fail
  refine (St15.in_n_112 _).mono ?_
  rintro _ wq ⟨rfl, hq⟩
  obtain rfl := hq.symm
  clear hq
  go_wp2
  go_ret
  exact ⟨rfl, HX3.out.b⟩

set_option maxHeartbeats 1000000 in
set_option maxRecDepth 100000 in
theorem put_6 (sd n : Int) (s0 : 0 ≤ sd) (s1 : sd ≤ 1) (n0 : 1 ≤ n) (n1 : n ≤ 4) (w : World) : Calls Tryz.prog 8 #[.agg #[.int .i64 6, .int .i64 sd, .int .i64 n, .int .i64 0, .int .i64 0, .int .u64 0, .int .u64 0, .string ⟨#[]⟩]] w fun e w' => e = .returned (.tuple #[.string (bytesS (⟨6, sd, n, 0, 0, 0, 0, ⟨#[]⟩⟩ : St)), .int .i64 0]) ∧ Below w.heap.size w w' := by
  have HRt := Lib.hid (fun W => right_6 sd n 0 0 0 0 ⟨#[]⟩ W)
  rw [show decide (rightP (⟨6, sd, n, 0, 0, 0, 0, ⟨#[]⟩⟩ : St)) = true from decide_eq_true ((rightP_6 _ _ _ _ _ _ _).2 ⟨by omega, by omega, by omega, by omega, rfl, rfl, rfl, rfl, rfl⟩)] at HRt
  rw [show bytesS (⟨6, sd, n, 0, 0, 0, 0, ⟨#[]⟩⟩ : St) = kS 6 ++ kS sd ++ kS n from rfl]
  have hwsd : IntKind.u64.wrap sd = sd := IntWalk.u64_in _ ⟨by omega, by omega⟩
  have hwn : IntKind.u64.wrap n = n := IntWalk.u64_in _ ⟨by omega, by omega⟩
  have k2 := add_run Tryz.prog
  have k3 := add_run3 Tryz.prog
  obtain ⟨x, hx⟩ : ∃ x, x = (⟨6, sd, n, 0, 0, 0, 0, ⟨#[]⟩⟩ : St) := ⟨_, rfl⟩
  go_enter Tryz.func8, Tryz.ntmps8
  go_wp2_with fail
  refine (HRt.out _).mono ?_
  rintro _ w1 ⟨rfl, hb⟩
  have HX1 : Hid (LB w x w1) := Lib.hid (LB.start (by rw [hx]; exact hb))
  clear hb
  obtain ⟨c0, c1, c2, c3, c4, c5, c6, c7⟩ := HX1.out.cells
  rw [hx] at c0 c1 c2 c3 c4 c5 c6 c7
  dsimp only at c0 c1 c2 c3 c4 c5 c6 c7
  have lt := HX1.out.lt
  go_wp2_with fail
  refine (parts_6 _).mono ?_
  rintro _ wq ⟨rfl, hq⟩
  obtain rfl := hq.symm
  clear hq
  go_wp2_with fail
  refine (num_int 6 (by omega) (by omega) _).mono ?_
  rintro _ w2 ⟨rfl, hb2⟩
  have HX2 := Lib.hid (HX1.out.below hb2)
  clear hb2
  clear c0 c1 c2 c3 c4 c5 c6 c7 lt
  obtain ⟨c0, c1, c2, c3, c4, c5, c6, c7⟩ := HX2.out.cells
  rw [hx] at c0 c1 c2 c3 c4 c5 c6 c7
  dsimp only at c0 c1 c2 c3 c4 c5 c6 c7
  have lt := HX2.out.lt
  go_wp2_with fail
  refine (num_int sd (by omega) (by omega) _).mono ?_
  rintro _ w3 ⟨rfl, hb3⟩
  have HX3 := Lib.hid (HX2.out.below hb3)
  clear hb3
  clear c0 c1 c2 c3 c4 c5 c6 c7 lt
  obtain ⟨c0, c1, c2, c3, c4, c5, c6, c7⟩ := HX3.out.cells
  rw [hx] at c0 c1 c2 c3 c4 c5 c6 c7
  dsimp only at c0 c1 c2 c3 c4 c5 c6 c7
  have lt := HX3.out.lt
  go_wp2_with fail
  refine (num_int n (by omega) (by omega) _).mono ?_
  rintro _ w4 ⟨rfl, hb4⟩
  have HX4 := Lib.hid (HX3.out.below hb4)
  clear hb4
  clear c0 c1 c2 c3 c4 c5 c6 c7 lt
  obtain ⟨c0, c1, c2, c3, c4, c5, c6, c7⟩ := HX4.out.cells
  rw [hx] at c0 c1 c2 c3 c4 c5 c6 c7
  dsimp only at c0 c1 c2 c3 c4 c5 c6 c7
  have lt := HX4.out.lt
  go_wp2
  go_ret2
  exact ⟨rfl, HX4.out.b⟩
set_option maxHeartbeats 1000000 in
set_option maxRecDepth 100000 in
theorem rput_6 (sd n : Int) (s0 : 0 ≤ sd) (s1 : sd ≤ 1) (n0 : 1 ≤ n) (n1 : n ≤ 4) (w : World) : Calls Tryz.prog 14 #[.agg #[.int .i64 6, .int .i64 sd, .int .i64 n, .int .i64 0, .int .i64 0, .int .u64 0, .int .u64 0, .string ⟨#[]⟩]] w fun e w' => e = .returned (.string (bytesS (⟨6, sd, n, 0, 0, 0, 0, ⟨#[]⟩⟩ : St))) ∧ Below w.heap.size w w' := by
  rw [show bytesS (⟨6, sd, n, 0, 0, 0, 0, ⟨#[]⟩⟩ : St) = kS 6 ++ kS sd ++ kS n from rfl]
  have hwsd : IntKind.u64.wrap sd = sd := IntWalk.u64_in _ ⟨by omega, by omega⟩
  have hwn : IntKind.u64.wrap n = n := IntWalk.u64_in _ ⟨by omega, by omega⟩
  have k2 := add_run Tryz.prog
  have k3 := add_run3 Tryz.prog
  obtain ⟨x, hx⟩ : ∃ x, x = (⟨6, sd, n, 0, 0, 0, 0, ⟨#[]⟩⟩ : St) := ⟨_, rfl⟩
  go_enter Tryz.func14, Tryz.ntmps14
  go_wp2_with fail
  refine (St15.has_6 _).mono ?_
  rintro _ w1 ⟨rfl, hb⟩
  have HX1 : Hid (LB w x w1) := Lib.hid (LB.start (by rw [hx]; exact hb))
  clear hb
  obtain ⟨c0, c1, c2, c3, c4, c5, c6, c7⟩ := HX1.out.cells
  rw [hx] at c0 c1 c2 c3 c4 c5 c6 c7
  dsimp only at c0 c1 c2 c3 c4 c5 c6 c7
  have lt := HX1.out.lt
  go_wp2_with fail
  refine (ref_num_int 6 (by omega) (by omega) _).mono ?_
  rintro _ w2 ⟨rfl, hb2⟩
  have HX2 := Lib.hid (HX1.out.below hb2)
  clear hb2
  clear c0 c1 c2 c3 c4 c5 c6 c7 lt
  obtain ⟨c0, c1, c2, c3, c4, c5, c6, c7⟩ := HX2.out.cells
  rw [hx] at c0 c1 c2 c3 c4 c5 c6 c7
  dsimp only at c0 c1 c2 c3 c4 c5 c6 c7
  have lt := HX2.out.lt
  go_wp2_with fail
  refine (St15.in_sn_115 _).mono ?_
  rintro _ wq ⟨rfl, hq⟩
  obtain rfl := hq.symm
  clear hq
  go_wp2_with fail
  refine (ref_num_int sd (by omega) (by omega) _).mono ?_
  rintro _ w3 ⟨rfl, hb3⟩
  have HX3 := Lib.hid (HX2.out.below hb3)
  clear hb3
  clear c0 c1 c2 c3 c4 c5 c6 c7 lt
  obtain ⟨c0, c1, c2, c3, c4, c5, c6, c7⟩ := HX3.out.cells
  rw [hx] at c0 c1 c2 c3 c4 c5 c6 c7
  dsimp only at c0 c1 c2 c3 c4 c5 c6 c7
  have lt := HX3.out.lt
  go_wp2_with fail
  refine (in_sn_110 _).mono ?_
  rintro _ wq ⟨rfl, hq⟩
  obtain rfl := hq.symm
  clear hq
  go_wp2_with fail
  refine (ref_num_int n (by omega) (by omega) _).mono ?_
  rintro _ w4 ⟨rfl, hb4⟩
  have HX4 := Lib.hid (HX3.out.below hb4)
  clear hb4
  clear c0 c1 c2 c3 c4 c5 c6 c7 lt
  obtain ⟨c0, c1, c2, c3, c4, c5, c6, c7⟩ := HX4.out.cells
  rw [hx] at c0 c1 c2 c3 c4 c5 c6 c7
  dsimp only at c0 c1 c2 c3 c4 c5 c6 c7
  have lt := HX4.out.lt
  go_wp2_with fail
  refine (St15.in_sn_112 _).mono ?_
  rintro _ wq ⟨rfl, hq⟩
  obtain rfl := hq.symm
  clear hq
  go_wp2
  go_ret
  exact ⟨rfl, HX4.out.b⟩

set_option maxHeartbeats 1000000 in
set_option maxRecDepth 100000 in
theorem put_7   (w : World) : Calls Tryz.prog 8 #[.agg #[.int .i64 7, .int .i64 0, .int .i64 0, .int .i64 0, .int .i64 0, .int .u64 0, .int .u64 0, .string ⟨#[]⟩]] w fun e w' => e = .returned (.tuple #[.string (bytesS (⟨7, 0, 0, 0, 0, 0, 0, ⟨#[]⟩⟩ : St)), .int .i64 0]) ∧ Below w.heap.size w w' := by
  have HRt := Lib.hid (fun W => right_7 0 0 0 0 0 0 ⟨#[]⟩ W)
  rw [show decide (rightP (⟨7, 0, 0, 0, 0, 0, 0, ⟨#[]⟩⟩ : St)) = true from decide_eq_true ((rightP_7 _ _ _ _ _ _ _).2 ⟨by omega, by omega, by omega, by omega, rfl, rfl, rfl, rfl, rfl⟩)] at HRt
  rw [show bytesS (⟨7, 0, 0, 0, 0, 0, 0, ⟨#[]⟩⟩ : St) = kS 7 from rfl]
  obtain ⟨x, hx⟩ : ∃ x, x = (⟨7, 0, 0, 0, 0, 0, 0, ⟨#[]⟩⟩ : St) := ⟨_, rfl⟩
  go_enter Tryz.func8, Tryz.ntmps8
  go_wp2_with fail
  refine (HRt.out _).mono ?_
  rintro _ w1 ⟨rfl, hb⟩
  have HX1 : Hid (LB w x w1) := Lib.hid (LB.start (by rw [hx]; exact hb))
  clear hb
  obtain ⟨c0, c1, c2, c3, c4, c5, c6, c7⟩ := HX1.out.cells
  rw [hx] at c0 c1 c2 c3 c4 c5 c6 c7
  dsimp only at c0 c1 c2 c3 c4 c5 c6 c7
  have lt := HX1.out.lt
  go_wp2_with fail
  refine (parts_7 _).mono ?_
  rintro _ wq ⟨rfl, hq⟩
  obtain rfl := hq.symm
  clear hq
  go_wp2_with fail
  refine (num_int 7 (by omega) (by omega) _).mono ?_
  rintro _ w2 ⟨rfl, hb2⟩
  have HX2 := Lib.hid (HX1.out.below hb2)
  clear hb2
  clear c0 c1 c2 c3 c4 c5 c6 c7 lt
  obtain ⟨c0, c1, c2, c3, c4, c5, c6, c7⟩ := HX2.out.cells
  rw [hx] at c0 c1 c2 c3 c4 c5 c6 c7
  dsimp only at c0 c1 c2 c3 c4 c5 c6 c7
  have lt := HX2.out.lt
  go_wp2
  go_ret2
  exact ⟨rfl, HX2.out.b⟩
set_option maxHeartbeats 1000000 in
set_option maxRecDepth 100000 in
theorem rput_7   (w : World) : Calls Tryz.prog 14 #[.agg #[.int .i64 7, .int .i64 0, .int .i64 0, .int .i64 0, .int .i64 0, .int .u64 0, .int .u64 0, .string ⟨#[]⟩]] w fun e w' => e = .returned (.string (bytesS (⟨7, 0, 0, 0, 0, 0, 0, ⟨#[]⟩⟩ : St))) ∧ Below w.heap.size w w' := by
  rw [show bytesS (⟨7, 0, 0, 0, 0, 0, 0, ⟨#[]⟩⟩ : St) = kS 7 from rfl]
  obtain ⟨x, hx⟩ : ∃ x, x = (⟨7, 0, 0, 0, 0, 0, 0, ⟨#[]⟩⟩ : St) := ⟨_, rfl⟩
  go_enter Tryz.func14, Tryz.ntmps14
  go_wp2_with fail
  refine (St15.has_7 _).mono ?_
  rintro _ w1 ⟨rfl, hb⟩
  have HX1 : Hid (LB w x w1) := Lib.hid (LB.start (by rw [hx]; exact hb))
  clear hb
  obtain ⟨c0, c1, c2, c3, c4, c5, c6, c7⟩ := HX1.out.cells
  rw [hx] at c0 c1 c2 c3 c4 c5 c6 c7
  dsimp only at c0 c1 c2 c3 c4 c5 c6 c7
  have lt := HX1.out.lt
  go_wp2_with fail
  refine (ref_num_int 7 (by omega) (by omega) _).mono ?_
  rintro _ w2 ⟨rfl, hb2⟩
  have HX2 := Lib.hid (HX1.out.below hb2)
  clear hb2
  clear c0 c1 c2 c3 c4 c5 c6 c7 lt
  obtain ⟨c0, c1, c2, c3, c4, c5, c6, c7⟩ := HX2.out.cells
  rw [hx] at c0 c1 c2 c3 c4 c5 c6 c7
  dsimp only at c0 c1 c2 c3 c4 c5 c6 c7
  have lt := HX2.out.lt
  go_wp2_with fail
  refine (St15.in_none_115 _).mono ?_
  rintro _ wq ⟨rfl, hq⟩
  obtain rfl := hq.symm
  clear hq
  go_wp2_with fail
  refine (in_none_110 _).mono ?_
  rintro _ wq ⟨rfl, hq⟩
  obtain rfl := hq.symm
  clear hq
  go_wp2_with fail
  refine (St15.in_none_112 _).mono ?_
  rintro _ wq ⟨rfl, hq⟩
  obtain rfl := hq.symm
  clear hq
  go_wp2
  go_ret
  exact ⟨rfl, HX2.out.b⟩

set_option maxHeartbeats 1000000 in
set_option maxRecDepth 100000 in
theorem put_8   (w : World) : Calls Tryz.prog 8 #[.agg #[.int .i64 8, .int .i64 0, .int .i64 0, .int .i64 0, .int .i64 0, .int .u64 0, .int .u64 0, .string ⟨#[]⟩]] w fun e w' => e = .returned (.tuple #[.string (bytesS (⟨8, 0, 0, 0, 0, 0, 0, ⟨#[]⟩⟩ : St)), .int .i64 0]) ∧ Below w.heap.size w w' := by
  have HRt := Lib.hid (fun W => right_8 0 0 0 0 0 0 ⟨#[]⟩ W)
  rw [show decide (rightP (⟨8, 0, 0, 0, 0, 0, 0, ⟨#[]⟩⟩ : St)) = true from decide_eq_true ((rightP_8 _ _ _ _ _ _ _).2 ⟨by omega, by omega, by omega, by omega, rfl, rfl, rfl, rfl, rfl⟩)] at HRt
  rw [show bytesS (⟨8, 0, 0, 0, 0, 0, 0, ⟨#[]⟩⟩ : St) = kS 8 from rfl]
  obtain ⟨x, hx⟩ : ∃ x, x = (⟨8, 0, 0, 0, 0, 0, 0, ⟨#[]⟩⟩ : St) := ⟨_, rfl⟩
  go_enter Tryz.func8, Tryz.ntmps8
  go_wp2_with fail
  refine (HRt.out _).mono ?_
  rintro _ w1 ⟨rfl, hb⟩
  have HX1 : Hid (LB w x w1) := Lib.hid (LB.start (by rw [hx]; exact hb))
  clear hb
  obtain ⟨c0, c1, c2, c3, c4, c5, c6, c7⟩ := HX1.out.cells
  rw [hx] at c0 c1 c2 c3 c4 c5 c6 c7
  dsimp only at c0 c1 c2 c3 c4 c5 c6 c7
  have lt := HX1.out.lt
  go_wp2_with fail
  refine (parts_8 _).mono ?_
  rintro _ wq ⟨rfl, hq⟩
  obtain rfl := hq.symm
  clear hq
  go_wp2_with fail
  refine (num_int 8 (by omega) (by omega) _).mono ?_
  rintro _ w2 ⟨rfl, hb2⟩
  have HX2 := Lib.hid (HX1.out.below hb2)
  clear hb2
  clear c0 c1 c2 c3 c4 c5 c6 c7 lt
  obtain ⟨c0, c1, c2, c3, c4, c5, c6, c7⟩ := HX2.out.cells
  rw [hx] at c0 c1 c2 c3 c4 c5 c6 c7
  dsimp only at c0 c1 c2 c3 c4 c5 c6 c7
  have lt := HX2.out.lt
  go_wp2
  go_ret2
  exact ⟨rfl, HX2.out.b⟩
set_option maxHeartbeats 1000000 in
set_option maxRecDepth 100000 in
theorem rput_8   (w : World) : Calls Tryz.prog 14 #[.agg #[.int .i64 8, .int .i64 0, .int .i64 0, .int .i64 0, .int .i64 0, .int .u64 0, .int .u64 0, .string ⟨#[]⟩]] w fun e w' => e = .returned (.string (bytesS (⟨8, 0, 0, 0, 0, 0, 0, ⟨#[]⟩⟩ : St))) ∧ Below w.heap.size w w' := by
  rw [show bytesS (⟨8, 0, 0, 0, 0, 0, 0, ⟨#[]⟩⟩ : St) = kS 8 from rfl]
  obtain ⟨x, hx⟩ : ∃ x, x = (⟨8, 0, 0, 0, 0, 0, 0, ⟨#[]⟩⟩ : St) := ⟨_, rfl⟩
  go_enter Tryz.func14, Tryz.ntmps14
  go_wp2_with fail
  refine (St15.has_8 _).mono ?_
  rintro _ w1 ⟨rfl, hb⟩
  have HX1 : Hid (LB w x w1) := Lib.hid (LB.start (by rw [hx]; exact hb))
  clear hb
  obtain ⟨c0, c1, c2, c3, c4, c5, c6, c7⟩ := HX1.out.cells
  rw [hx] at c0 c1 c2 c3 c4 c5 c6 c7
  dsimp only at c0 c1 c2 c3 c4 c5 c6 c7
  have lt := HX1.out.lt
  go_wp2_with fail
  refine (ref_num_int 8 (by omega) (by omega) _).mono ?_
  rintro _ w2 ⟨rfl, hb2⟩
  have HX2 := Lib.hid (HX1.out.below hb2)
  clear hb2
  clear c0 c1 c2 c3 c4 c5 c6 c7 lt
  obtain ⟨c0, c1, c2, c3, c4, c5, c6, c7⟩ := HX2.out.cells
  rw [hx] at c0 c1 c2 c3 c4 c5 c6 c7
  dsimp only at c0 c1 c2 c3 c4 c5 c6 c7
  have lt := HX2.out.lt
  go_wp2_with fail
  refine (St15.in_none_115 _).mono ?_
  rintro _ wq ⟨rfl, hq⟩
  obtain rfl := hq.symm
  clear hq
  go_wp2_with fail
  refine (in_none_110 _).mono ?_
  rintro _ wq ⟨rfl, hq⟩
  obtain rfl := hq.symm
  clear hq
  go_wp2_with fail
  refine (St15.in_none_112 _).mono ?_
  rintro _ wq ⟨rfl, hq⟩
  obtain rfl := hq.symm
  clear hq
  go_wp2
  go_ret
  exact ⟨rfl, HX2.out.b⟩

set_option maxHeartbeats 1000000 in
set_option maxRecDepth 100000 in
theorem put_3 (c f : Int) (u : Nat) (d : ByteArray) (k0 : 0 ≤ c) (k1 : c < 4) (f0 : 0 ≤ f) (f1 : f ≤ 1) (hu : u < 18446744073709551616) (hd : d.size ≤ 64) (w : World) : Calls Tryz.prog 8 #[.agg #[.int .i64 3, .int .i64 0, .int .i64 0, .int .i64 c, .int .i64 f, .int .u64 0, .int .u64 (u : Int), .string d]] w fun e w' => e = .returned (.tuple #[.string (bytesS (⟨3, 0, 0, c, f, 0, (u : Int), d⟩ : St)), .int .i64 0]) ∧ Below w.heap.size w w' := by
  have HRt := Lib.hid (fun W => right_3 0 0 c f 0 (u : Int) d W)
  rw [show decide (rightP (⟨3, 0, 0, c, f, 0, (u : Int), d⟩ : St)) = true from decide_eq_true ((rightP_3 _ _ _ _ _ _ _).2 ⟨by omega, by omega, by omega, by omega, k0, k1, by show f = 0 ∨ f = 1; omega, hd, rfl⟩)] at HRt
  rw [show bytesS (⟨3, 0, 0, c, f, 0, (u : Int), d⟩ : St) = kS 3 ++ (⟨c, f, 0, (u : Int), d⟩ : Packet.P5).bytes from rfl]
  have hpr : (⟨c, f, 0, (u : Int), d⟩ : Packet.P5).right := ⟨k0, k1, by show f = 0 ∨ f = 1; omega, hd⟩
  have hpo : (⟨c, f, 0, (u : Int), d⟩ : Packet.P5).ok := ⟨by show (0 : Int) ≤ 0; decide, by show (0 : Int) < 18446744073709551616; decide, by show (0 : Int) ≤ u; omega, by show (u : Int) < 18446744073709551616; omega, by show d.size ≤ maxLen; unfold maxLen; omega⟩
  have hsz := pby_sz (⟨c, f, 0, (u : Int), d⟩ : Packet.P5) hd
  have HPk := Lib.hid (fun W => Packet.put_yes (⟨c, f, 0, (u : Int), d⟩ : Packet.P5) hpr hpo W)
  dsimp only at HPk
  clear hpr hpo hu hd
  generalize (⟨c, f, 0, (u : Int), d⟩ : Packet.P5).bytes = pb at *
  obtain ⟨x, hx⟩ : ∃ x, x = (⟨3, 0, 0, c, f, 0, (u : Int), d⟩ : St) := ⟨_, rfl⟩
  go_enter Tryz.func8, Tryz.ntmps8
  go_wp2_with fail
  refine (HRt.out _).mono ?_
  rintro _ w1 ⟨rfl, hb⟩
  have HX1 : Hid (LB w x w1) := Lib.hid (LB.start (by rw [hx]; exact hb))
  clear hb
  obtain ⟨c0, c1, c2, c3, c4, c5, c6, c7⟩ := HX1.out.cells
  rw [hx] at c0 c1 c2 c3 c4 c5 c6 c7
  dsimp only at c0 c1 c2 c3 c4 c5 c6 c7
  have lt := HX1.out.lt
  go_wp2_with fail
  refine (parts_3 _).mono ?_
  rintro _ wq ⟨rfl, hq⟩
  obtain rfl := hq.symm
  clear hq
  go_wp2_with fail
  refine (num_int 3 (by omega) (by omega) _).mono ?_
  rintro _ w2 ⟨rfl, hb2⟩
  have HX2 := Lib.hid (HX1.out.below hb2)
  clear hb2
  clear c0 c1 c2 c3 c4 c5 c6 c7 lt
  obtain ⟨c0, c1, c2, c3, c4, c5, c6, c7⟩ := HX2.out.cells
  rw [hx] at c0 c1 c2 c3 c4 c5 c6 c7
  dsimp only at c0 c1 c2 c3 c4 c5 c6 c7
  have lt := HX2.out.lt
  go_wp2_with fail
  refine (HPk.out _).mono ?_
  rintro _ w3 ⟨rfl, hb3⟩
  have HX3 := Lib.hid (HX2.out.below hb3)
  clear hb3
  clear c0 c1 c2 c3 c4 c5 c6 c7 lt
  obtain ⟨c0, c1, c2, c3, c4, c5, c6, c7⟩ := HX3.out.cells
  rw [hx] at c0 c1 c2 c3 c4 c5 c6 c7
  dsimp only at c0 c1 c2 c3 c4 c5 c6 c7
  have lt := HX3.out.lt
  go_wp2
  go_ret2
  exact ⟨rfl, HX3.out.b⟩

set_option maxHeartbeats 1000000 in
set_option maxRecDepth 100000 in
theorem rput_3 (c f : Int) (u : Nat) (d : ByteArray) (k0 : 0 ≤ c) (k1 : c < 4) (f0 : 0 ≤ f) (f1 : f ≤ 1) (hu : u < 18446744073709551616) (hd : d.size ≤ 64) (w : World) : Calls Tryz.prog 14 #[.agg #[.int .i64 3, .int .i64 0, .int .i64 0, .int .i64 c, .int .i64 f, .int .u64 0, .int .u64 (u : Int), .string d]] w fun e w' => e = .returned (.string (bytesS (⟨3, 0, 0, c, f, 0, (u : Int), d⟩ : St))) ∧ Below w.heap.size w w' := by
  rw [show bytesS (⟨3, 0, 0, c, f, 0, (u : Int), d⟩ : St) = kS 3 ++ (⟨c, f, 0, (u : Int), d⟩ : Packet.P5).bytes from rfl]
  have hpr : (⟨c, f, 0, (u : Int), d⟩ : Packet.P5).right := ⟨k0, k1, by show f = 0 ∨ f = 1; omega, hd⟩
  have hpo : (⟨c, f, 0, (u : Int), d⟩ : Packet.P5).ok := ⟨by show (0 : Int) ≤ 0; decide, by show (0 : Int) < 18446744073709551616; decide, by show (0 : Int) ≤ u; omega, by show (u : Int) < 18446744073709551616; omega, by show d.size ≤ maxLen; unfold maxLen; omega⟩
  have hsz := pby_sz (⟨c, f, 0, (u : Int), d⟩ : Packet.P5) hd
  have HPk := Lib.hid (fun W => Packet.rput_yes (⟨c, f, 0, (u : Int), d⟩ : Packet.P5) hpr hpo W)
  dsimp only at HPk
  clear hpr hpo hu hd
  generalize (⟨c, f, 0, (u : Int), d⟩ : Packet.P5).bytes = pb at *
  obtain ⟨x, hx⟩ : ∃ x, x = (⟨3, 0, 0, c, f, 0, (u : Int), d⟩ : St) := ⟨_, rfl⟩
  go_enter Tryz.func14, Tryz.ntmps14
  go_wp2_with fail
  refine (St15.has_3 _).mono ?_
  rintro _ w1 ⟨rfl, hb⟩
  have HX1 : Hid (LB w x w1) := Lib.hid (LB.start (by rw [hx]; exact hb))
  clear hb
  obtain ⟨c0, c1, c2, c3, c4, c5, c6, c7⟩ := HX1.out.cells
  rw [hx] at c0 c1 c2 c3 c4 c5 c6 c7
  dsimp only at c0 c1 c2 c3 c4 c5 c6 c7
  have lt := HX1.out.lt
  go_wp2_with fail
  refine (ref_num_int 3 (by omega) (by omega) _).mono ?_
  rintro _ w2 ⟨rfl, hb2⟩
  have HX2 := Lib.hid (HX1.out.below hb2)
  clear hb2
  clear c0 c1 c2 c3 c4 c5 c6 c7 lt
  obtain ⟨c0, c1, c2, c3, c4, c5, c6, c7⟩ := HX2.out.cells
  rw [hx] at c0 c1 c2 c3 c4 c5 c6 c7
  dsimp only at c0 c1 c2 c3 c4 c5 c6 c7
  have lt := HX2.out.lt
  go_wp2_with fail
  refine (St15.in_p_115 _).mono ?_
  rintro _ wq ⟨rfl, hq⟩
  obtain rfl := hq.symm
  clear hq
  go_wp2_with fail
  refine (in_p_110 _).mono ?_
  rintro _ wq ⟨rfl, hq⟩
  obtain rfl := hq.symm
  clear hq
  go_wp2_with fail
  refine (St15.in_p_112 _).mono ?_
  rintro _ wq ⟨rfl, hq⟩
  obtain rfl := hq.symm
  clear hq
  go_wp2_with fail
  refine (HPk.out _).mono ?_
  rintro _ w3 ⟨rfl, hb3⟩
  have HX3 := Lib.hid (HX2.out.below hb3)
  clear hb3
  clear c0 c1 c2 c3 c4 c5 c6 c7 lt
  obtain ⟨c0, c1, c2, c3, c4, c5, c6, c7⟩ := HX3.out.cells
  rw [hx] at c0 c1 c2 c3 c4 c5 c6 c7
  dsimp only at c0 c1 c2 c3 c4 c5 c6 c7
  have lt := HX3.out.lt
  go_wp2
  go_ret
  exact ⟨rfl, HX3.out.b⟩

theorem put_ok (x : St) (h : rightP x) (t0 : 0 ≤ x.t) (t1 : x.t < 18446744073709551616) (w : World) : Calls Tryz.prog 8 #[.agg x.cells] w fun e w' => e = .returned (.tuple #[.string (bytesS x), .int .i64 0]) ∧ Below w.heap.size w w' := by
  obtain ⟨k, sd, n, c, f, s, t, d⟩ := x
  rcases h with ⟨h1, h2, h3, h4, p1, p2, p3, p4, p5⟩ | ⟨h1, h2, h3, p1, p2, p3, p4, p5⟩ | ⟨h1, h2, h3, p1, p2, p3, p4, p5⟩ | ⟨h1, h2, h3, p1, p2, p3, p4, p5⟩ | ⟨h1, h2, h3, h4, p1, p2, p3, p4, p5⟩ | ⟨h1, h2, h3, h4, p1, p2, p3, p4, p5⟩ | ⟨h1, h2, h3, p1, p2, p3, p4, p5⟩ | ⟨h1, h2, h3, p1, p2, p3, p4, p5⟩
  all_goals simp only at *
  · subst h1 h2 p1 p2 p3 p4 p5; exact put_1 n h3 h4 w
  · subst h1 h3 p1 p2 p3 p4 p5; exact put_2 sd (by omega) (by omega) w
  · subst h1 h2 h3 p5
    obtain ⟨u, rfl⟩ : ∃ u : Nat, t = (u : Int) := ⟨t.toNat, by omega⟩
    exact put_3 c f u d p1 p2 (by omega) (by omega) (by omega) p4 w
  · subst h1 h3 p1 p2 p3 p4 p5; exact put_4 sd (by omega) (by omega) w
  · subst h1 h2 p1 p2 p3 p4 p5; exact put_5 n h3 h4 w
  · subst h1 p1 p2 p3 p4 p5; exact put_6 sd n (by omega) (by omega) h3 h4 w
  · subst h1 h2 h3 p1 p2 p3 p4 p5; exact put_7 w
  · subst h1 h2 h3 p1 p2 p3 p4 p5; exact put_8 w

theorem rput_ok (x : St) (h : rightP x) (t0 : 0 ≤ x.t) (t1 : x.t < 18446744073709551616) (w : World) : Calls Tryz.prog 14 #[.agg x.cells] w fun e w' => e = .returned (.string (bytesS x)) ∧ Below w.heap.size w w' := by
  obtain ⟨k, sd, n, c, f, s, t, d⟩ := x
  rcases h with ⟨h1, h2, h3, h4, p1, p2, p3, p4, p5⟩ | ⟨h1, h2, h3, p1, p2, p3, p4, p5⟩ | ⟨h1, h2, h3, p1, p2, p3, p4, p5⟩ | ⟨h1, h2, h3, p1, p2, p3, p4, p5⟩ | ⟨h1, h2, h3, h4, p1, p2, p3, p4, p5⟩ | ⟨h1, h2, h3, h4, p1, p2, p3, p4, p5⟩ | ⟨h1, h2, h3, p1, p2, p3, p4, p5⟩ | ⟨h1, h2, h3, p1, p2, p3, p4, p5⟩
  all_goals simp only at *
  · subst h1 h2 p1 p2 p3 p4 p5; exact rput_1 n h3 h4 w
  · subst h1 h3 p1 p2 p3 p4 p5; exact rput_2 sd (by omega) (by omega) w
  · subst h1 h2 h3 p5
    obtain ⟨u, rfl⟩ : ∃ u : Nat, t = (u : Int) := ⟨t.toNat, by omega⟩
    exact rput_3 c f u d p1 p2 (by omega) (by omega) (by omega) p4 w
  · subst h1 h3 p1 p2 p3 p4 p5; exact rput_4 sd (by omega) (by omega) w
  · subst h1 h2 p1 p2 p3 p4 p5; exact rput_5 n h3 h4 w
  · subst h1 p1 p2 p3 p4 p5; exact rput_6 sd n (by omega) (by omega) h3 h4 w
  · subst h1 h2 h3 p1 p2 p3 p4 p5; exact rput_7 w
  · subst h1 h2 h3 p1 p2 p3 p4 p5; exact rput_8 w

theorem put_bad (x : St) (h : ¬ rightP x) (w : World) : Calls Tryz.prog 8 #[.agg x.cells] w fun e w' => e = .returned (.tuple #[.string ⟨#[]⟩, .int .i64 1]) ∧ Below w.heap.size w w' := by
  have HRt := Lib.hid (fun W => right_any x W)
  rw [show decide (rightP x) = false from decide_eq_false h] at HRt
  obtain ⟨k, sd, n, c, f, s, t, d⟩ := x
  unfold St.cells at HRt ⊢
  dsimp only at HRt ⊢
  clear h
  go_enter Tryz.func8, Tryz.ntmps8
  go_wp2_with fail
  refine (HRt.out _).mono ?_
  rintro _ w1 ⟨rfl, hb⟩
  have HB := Lib.hid (((Below.refl w.heap.size w).alloc (Nat.le_refl _) (.cells #[.int .i64 k, .int .i64 sd, .int .i64 n, .int .i64 c, .int .i64 f, .int .u64 s, .int .u64 t, .string d] 26)).trans (hb.mono (by simp)))
  clear hb
  go_wp2
  go_ret2
  exact ⟨rfl, HB.out⟩

end Go.Proofs.YtnjcenbmdcogpaaGreatDoor.Sp
/- Steps: what was put is got as it was. -/
namespace Go.Proofs.YtnjcenbmdcogpaaGreatDoor.Sp
open Go Go.Lib Go.RowKit Num

structure QX (w W : World) (T : Nat) (r : Rd.R2) (x : St) : Prop where
  b : Below w.heap.size w W
  r0 : W.heap[w.heap.size]? = some (.cells St0.cells 26 (0, 0))
  rd : Rd.Lies W (w.heap.size + 1) r
  t : W.heap[T]? = some (.cells x.cells 26 (0, 0))
  hT : w.heap.size + 1 < T
theorem QX.only {w W W' : World} {T : Nat} {r r' : Rd.R2} {x : St} (h : QX w W T r x) (ho : Rd.Only (w.heap.size + 1) W W') (hl : Rd.Lies W' (w.heap.size + 1) r') : QX w W' T r' x :=
  have lt : ∀ k o, W.heap[k]? = some o → k < W.heap.size := fun k o e => (Array.getElem?_eq_some_iff.1 e).1
  ⟨Rd.Only.below h.b ho (by omega) h.b.size, (ho.block _ (lt _ _ h.r0) (by omega)).trans h.r0, hl, (ho.block _ (lt _ _ h.t) (by have := h.hT; omega)).trans h.t, h.hT⟩
theorem QX.below {w W W' : World} {T : Nat} {r : Rd.R2} {x : St} (h : QX w W T r x) (hb : Below W.heap.size W W') : QX w W' T r x :=
  h.only (Rd.Only.of_below hb) ((hb.block _ (Array.getElem?_eq_some_iff.1 h.rd).1).trans h.rd)
theorem QX.set {w W : World} {T : Nat} {r : Rd.R2} {x x' : St} (h : QX w W T r x) (i : Nat) (v : Value) (hx : x.cells.setIfInBounds i v = x'.cells) : QX w (W.setCell ⟨T, i, none⟩ v) T r x' := by
  have hT := h.hT
  have bl : ∀ k, k ≠ T → (W.setCell ⟨T, i, none⟩ v).heap[k]? = W.heap[k]? := fun k hk => Below.heap_setCell _ _ _ _ hk
  exact ⟨h.b.setCell (p := ⟨T, i, none⟩) (by show w.heap.size ≤ T; omega) v, (bl _ (by omega)).trans h.r0, (bl _ (by omega)).trans h.rd, by rw [← hx]; exact set_cells h.t v, hT⟩
theorem QX.cells {w W : World} {T : Nat} {r : Rd.R2} {x : St} (h : QX w W T r x) : (W.cell? ⟨T, 0, none⟩ = some (.int .i64 x.k) ∧ W.cell? ⟨T, 1, none⟩ = some (.int .i64 x.sd) ∧ W.cell? ⟨T, 2, none⟩ = some (.int .i64 x.n) ∧ W.cell? ⟨T, 3, none⟩ = some (.int .i64 x.c) ∧ W.cell? ⟨T, 4, none⟩ = some (.int .i64 x.f) ∧ W.cell? ⟨T, 5, none⟩ = some (.int .u64 x.s) ∧ W.cell? ⟨T, 6, none⟩ = some (.int .u64 x.t) ∧ W.cell? ⟨T, 7, none⟩ = some (.string x.d)) ∧
    (W.frozen? ⟨T, 1, none⟩ = false ∧ W.frozen? ⟨T, 2, none⟩ = false ∧ W.frozen? ⟨T, 3, none⟩ = false ∧ W.frozen? ⟨T, 4, none⟩ = false ∧ W.frozen? ⟨T, 5, none⟩ = false ∧ W.frozen? ⟨T, 6, none⟩ = false ∧ W.frozen? ⟨T, 7, none⟩ = false) := by
  have c : ∀ i, W.cell? ⟨T, i, none⟩ = x.cells[i]? := fun i => cell_of_row _ _ _ _ _ (0, 0) h.t
  have f : ∀ i, W.frozen? ⟨T, i, none⟩ = false := fun i => Lib.frozen_of_heap h.t i
  exact ⟨⟨c 0, c 1, c 2, c 3, c 4, c 5, c 6, c 7⟩, f 1, f 2, f 3, f 4, f 5, f 6, f 7⟩
theorem QX.start {w w2 W3 : World} {s : ByteArray} {r : Rd.R2} {x : St} (hl : Rd.Lies w2 (w.heap.size + 1) r) (ho : Rd.Only (w.heap.size + 1) ((w.alloc (.cells St0.cells 26)).alloc (.cells #[.string s, .int .i64 0] 95)) w2) (hW : W3 = w2.alloc (.cells x.cells 26)) : QX w W3 w2.heap.size r x := by
  have h0 : ((w.alloc (.cells St0.cells 26)).alloc (.cells #[.string s, .int .i64 0] 95)).heap[w.heap.size]? = some (.cells St0.cells 26 (0, 0)) := by
    rw [Below.heap_alloc _ _ _ (by simp)]; exact heap_alloc_new _ _
  have hb0 : Below w.heap.size w ((w.alloc (.cells St0.cells 26)).alloc (.cells #[.string s, .int .i64 0] 95)) := ((Below.refl _ _).alloc (Nat.le_refl _) _).alloc (by simp) _
  have hb2 := Rd.Only.below hb0 ho (by omega) hb0.size
  have h2 := (ho.block _ (by simp; omega) (by omega)).trans h0
  have hr2 := (Array.getElem?_eq_some_iff.1 hl).1
  subst hW
  exact ⟨hb2.alloc hb2.size _, (Below.heap_alloc _ _ _ (Array.getElem?_eq_some_iff.1 h2).1).trans h2, (Below.heap_alloc _ _ _ hr2).trans hl, heap_alloc_new _ _, hr2⟩
theorem kS_nat {n : Nat} (h : n < 18446744073709551616) : kS (n : Int) = numS n := by unfold kS; rw [Int.toNat_natCast, Nat.mod_eq_of_lt h]
theorem num_v {R m v : Nat} {s rest : ByteArray} (hm : m < 18446744073709551616) (hv : v ≤ m) (hs : s.data.toList = (numS v).data.toList ++ rest.data.toList) (hz : s.size ≤ 1099511627776) (W : World) (hR : Rd.Lies W R ⟨s, 0⟩) :
    Calls Tryz.prog 40 #[.pointer (some ⟨R, 0, none⟩), .int .u64 (m : Int)] W fun e w' => e = .returned (.int .u64 (v : Int)) ∧ Rd.Lies w' R ⟨rest, 0⟩ ∧ Rd.Only R W w' := by
  have h := Rd.rnum_any R ⟨s, 0⟩ m hm hz W hR
  rw [Rd.R2.num_ok (Rd.num_back m v s rest (by omega) hv hs)] at h
  exact h
theorem end0 (R : Nat) (W : World) (hR : Rd.Lies W R ⟨⟨#[]⟩, 0⟩) : Calls Tryz.prog 42 #[.pointer (some ⟨R, 0, none⟩)] W fun e w' => e = .returned (.int .i64 0) ∧ w' = W := Rd.end_any R ⟨⟨#[]⟩, 0⟩ W hR
theorem res8g (tmps : Array Value) (w : World) (g : Nat) (x : St) (n : Int) (hp : tmps.getD 2 undef = .pointer (some ⟨g, 0, none⟩)) (h3 : tmps.getD 3 undef = .int .i64 n)
    (hg : w.heap[g]? = some (.cells x.cells 26 (0, 0))) : (results Tryz.f12 tmps).run Tryz.prog w = .ok (.tuple #[.agg x.cells, .int .i64 n]) w := by
  have hp' : tmps[2]?.getD undef = .pointer (some ⟨g, 0, none⟩) := by simpa using hp
  have h3' : tmps[3]?.getD undef = .int .i64 n := by simpa using h3
  simp [results, Tryz.results12, hp', h3', asAddr, run_loadVar_row w g 26 26 x.cells (0, 0) _ hg Tryz.underlying26 rfl (hi8 x)]

set_option maxHeartbeats 2000000 in
set_option maxRecDepth 100000 in
theorem get_1 (n : Nat) (n1 : n ≤ 2147483647) (w : World) : Calls Tryz.prog 12 #[.string (bytesS (⟨1, 0, (n : Int), 0, 0, 0, 0, ⟨#[]⟩⟩ : St))] w fun e w' => e = .returned (.tuple #[.agg (⟨1, 0, (n : Int), 0, 0, 0, 0, ⟨#[]⟩⟩ : St).cells, .int .i64 0]) ∧ Below w.heap.size w w' := by
  have HRt := Lib.hid (fun W => right_1 0 (n : Int) 0 0 0 0 ⟨#[]⟩ W)
  rw [show decide (rightP (⟨1, 0, (n : Int), 0, 0, 0, 0, ⟨#[]⟩⟩ : St)) = true from decide_eq_true ((rightP_1 _ _ _ _ _ _ _).2 ⟨by omega, by omega, by omega, by omega, rfl, rfl, rfl, rfl, rfl⟩)] at HRt
  obtain ⟨s, hs⟩ : ∃ s, s = bytesS (⟨1, 0, (n : Int), 0, 0, 0, 0, ⟨#[]⟩⟩ : St) := ⟨_, rfl⟩
  rw [← hs]
  have hs' : s = kS 1 ++ kS (n : Int) := hs
  have k3 := kS_size 1
  have k_n := kS_size (n : Int)
  have hsz : s.size ≤ 1000 := by rw [hs']; simp only [ByteArray.size_append]; omega
  have HN0 := Lib.hid (fun (W : World) (h : Rd.Lies W (w.heap.size + 1) ⟨s, 0⟩) => num_v (m := 8) (v := 1) (rest := kS (n : Int)) (by decide) (by decide) (by rw [hs', show kS 1 = numS 1 from rfl]; simp) (by omega) W h)
  have HN1 := Lib.hid (fun (W : World) (h : Rd.Lies W (w.heap.size + 1) ⟨kS (n : Int), 0⟩) => num_v (m := 2147483647) (v := n) (rest := ⟨#[]⟩) (by decide) (by omega) (by rw [kS_nat (n := n) (by omega)]; simp) (by omega) W h)
  clear hs hs' hsz k3 k_n
  (try dsimp only at HN0)
  go_enter Tryz.func12, Tryz.ntmps12
  go_wp2_with fail
  refine (Rd.new_any s _).mono ?_
  rintro _ w1 ⟨rfl, hw⟩
  have hL : Rd.Lies w1 (w.heap.size + 1) ⟨s, 0⟩ := by
    rw [hw]
    have := heap_alloc_new (w.alloc (.cells St0.cells 26)) (.cells #[.string s, .int .i64 0] 95)
    rw [World.size_alloc] at this
    exact this
  have HW := Lib.hid hw
  clear hw
  simp only [World.size_alloc]
  go_wp2_with fail
  refine (HN0.out w1 hL).mono ?_
  rintro _ w2 ⟨rfl, hl2, ho2⟩
  have HQ : Hid (∀ W3, W3 = w2.alloc (.cells (⟨1, 0, 0, 0, 0, 0, 0, ⟨#[]⟩⟩ : St).cells 26) → QX w W3 w2.heap.size _ _) := Lib.hid (fun W3 h => QX.start hl2 (by rw [HW.out] at ho2; exact ho2) h)
  clear hl2 ho2 hL
  go_upto_region 3 with fail
  have HQ0 := Lib.hid (HQ.out _ rfl)
  generalize hT : w2.heap.size = T at HQ0 ⊢
  unfold St.cells at HQ0
  dsimp only at HQ0
  generalize w2.alloc (.cells #[.int .i64 1, .int .i64 0, .int .i64 0, .int .i64 0, .int .i64 0, .int .u64 0, .int .u64 0, .string ⟨#[]⟩] 26) = W3 at HQ0 ⊢
  clear hT HQ HW
  obtain ⟨⟨c0, c1, c2, c3, c4, c5, c6, c7⟩, z1, z2, z3, z4, z5, z6, z7⟩ := HQ0.out.cells
  dsimp only at c0 c1 c2 c3 c4 c5 c6 c7
  have hTw := HQ0.out.hT
  go_wp2_with fail
  refine (parts_1 _).mono ?_
  rintro _ wq ⟨rfl, hq⟩
  obtain rfl := hq.symm
  clear hq
  go_wp2_with fail
  refine (bounds_1 _).mono ?_
  rintro _ wq ⟨rfl, hq⟩
  obtain rfl := hq.symm
  clear hq
  go_wp2_with fail
  refine (HN1.out _ HQ0.out.rd).mono ?_
  rintro _ wn1 ⟨rfl, hl1, ho1⟩
  have HA1 := Lib.hid (HQ0.out.only ho1 hl1)
  clear hl1 ho1
  clear c0 c1 c2 c3 c4 c5 c6 c7 z1 z2 z3 z4 z5 z6 z7 hTw
  obtain ⟨⟨c0, c1, c2, c3, c4, c5, c6, c7⟩, z1, z2, z3, z4, z5, z6, z7⟩ := HA1.out.cells
  dsimp only at c0 c1 c2 c3 c4 c5 c6 c7
  have hTw := HA1.out.hT
  go_upto_region 9 with fail
  have HQ1 := Lib.hid (HA1.out.set (x' := (⟨1, 0, (n : Int), 0, 0, 0, 0, ⟨#[]⟩⟩ : St)) 2 (.int .i64 (n : Int)) rfl)
  generalize wn1.setCell ⟨T, 2, none⟩ (.int .i64 (n : Int)) = WQ1 at HQ1 ⊢
  clear c0 c1 c2 c3 c4 c5 c6 c7 z1 z2 z3 z4 z5 z6 z7 hTw
  obtain ⟨⟨c0, c1, c2, c3, c4, c5, c6, c7⟩, z1, z2, z3, z4, z5, z6, z7⟩ := HQ1.out.cells
  dsimp only at c0 c1 c2 c3 c4 c5 c6 c7
  have hTw := HQ1.out.hT
  go_wp2_with fail
  refine (end0 _ _ HQ1.out.rd).mono ?_
  rintro _ wq ⟨rfl, hq⟩
  obtain rfl := hq.symm
  clear hq
  clear c0 c1 c2 c3 c4 c5 c6 c7 z1 z2 z3 z4 z5 z6 z7 hTw
  go_upto_region 14 with fail
  refine wp_region_lit ?_
  refine wpList_load_row rfl 26 _ rfl T rfl 26 (⟨1, 0, (n : Int), 0, 0, 0, 0, ⟨#[]⟩⟩ : St).cells (0, 0) _ HQ1.out.t Tryz.underlying26 rfl (hi8 (⟨1, 0, (n : Int), 0, 0, 0, 0, ⟨#[]⟩⟩ : St)) ?_
  go_wp2_with fail
  refine (HRt.out _).mono ?_
  rintro _ wl ⟨rfl, hbl⟩
  have HPf := Lib.hid (HQ1.out.below hbl)
  clear hbl
  go_upto_region 16 with fail
  refine wp_region_lit ?_
  refine wpList_load_row rfl 26 _ rfl T rfl 26 (⟨1, 0, (n : Int), 0, 0, 0, 0, ⟨#[]⟩⟩ : St).cells (0, 0) _ HPf.out.t Tryz.underlying26 rfl (hi8 (⟨1, 0, (n : Int), 0, 0, 0, 0, ⟨#[]⟩⟩ : St)) ?_
  refine wpList_store_rowTo rfl 26 _ _ rfl rfl w.heap.size (⟨1, 0, (n : Int), 0, 0, 0, 0, ⟨#[]⟩⟩ : St).cells rfl rfl 26 _ HPf.out.r0 (hi8 (⟨1, 0, (n : Int), 0, 0, 0, 0, ⟨#[]⟩⟩ : St)) rfl (cells8_one _) ?_
  have HR' := setRow_heap wl w.heap.size _ (⟨1, 0, (n : Int), 0, 0, 0, 0, ⟨#[]⟩⟩ : St).cells 26 (0, 0) HPf.out.r0
  have hB9 : Below w.heap.size w (wl.setRow w.heap.size (⟨1, 0, (n : Int), 0, 0, 0, 0, ⟨#[]⟩⟩ : St).cells) := ⟨HPf.out.b.os, HPf.out.b.tape, HPf.out.b.output, by simpa using HPf.out.b.size, fun i hi => (setRow_other _ _ _ _ (by omega)).trans (HPf.out.b.block i hi)⟩
  obtain ⟨W9, hW9⟩ : ∃ W9, W9 = wl.setRow w.heap.size (⟨1, 0, (n : Int), 0, 0, 0, 0, ⟨#[]⟩⟩ : St).cells := ⟨_, rfl⟩
  rw [← hW9] at HR' hB9 ⊢
  clear hW9
  go_wp2_with fail
  exact bodyPost_ret (res8g _ _ w.heap.size (⟨1, 0, (n : Int), 0, 0, 0, 0, ⟨#[]⟩⟩ : St) 0 rfl rfl HR') rfl ⟨rfl, hB9⟩

set_option maxHeartbeats 2000000 in
set_option maxRecDepth 100000 in
theorem get_2 (sd : Nat) (s1 : sd ≤ 1) (w : World) : Calls Tryz.prog 12 #[.string (bytesS (⟨2, (sd : Int), 0, 0, 0, 0, 0, ⟨#[]⟩⟩ : St))] w fun e w' => e = .returned (.tuple #[.agg (⟨2, (sd : Int), 0, 0, 0, 0, 0, ⟨#[]⟩⟩ : St).cells, .int .i64 0]) ∧ Below w.heap.size w w' := by
  have HRt := Lib.hid (fun W => right_2 (sd : Int) 0 0 0 0 0 ⟨#[]⟩ W)
  rw [show decide (rightP (⟨2, (sd : Int), 0, 0, 0, 0, 0, ⟨#[]⟩⟩ : St)) = true from decide_eq_true ((rightP_2 _ _ _ _ _ _ _).2 ⟨by omega, by omega, by omega, by omega, rfl, rfl, rfl, rfl, rfl⟩)] at HRt
  obtain ⟨s, hs⟩ : ∃ s, s = bytesS (⟨2, (sd : Int), 0, 0, 0, 0, 0, ⟨#[]⟩⟩ : St) := ⟨_, rfl⟩
  rw [← hs]
  have hs' : s = kS 2 ++ kS (sd : Int) := hs
  have k3 := kS_size 2
  have k_sd := kS_size (sd : Int)
  have hsz : s.size ≤ 1000 := by rw [hs']; simp only [ByteArray.size_append]; omega
  have HN0 := Lib.hid (fun (W : World) (h : Rd.Lies W (w.heap.size + 1) ⟨s, 0⟩) => num_v (m := 8) (v := 2) (rest := kS (sd : Int)) (by decide) (by decide) (by rw [hs', show kS 2 = numS 2 from rfl]; simp) (by omega) W h)
  have HN1 := Lib.hid (fun (W : World) (h : Rd.Lies W (w.heap.size + 1) ⟨kS (sd : Int), 0⟩) => num_v (m := 1) (v := sd) (rest := ⟨#[]⟩) (by decide) (by omega) (by rw [kS_nat (n := sd) (by omega)]; simp) (by omega) W h)
  clear hs hs' hsz k3 k_sd
  (try dsimp only at HN0)
  go_enter Tryz.func12, Tryz.ntmps12
  go_wp2_with fail
  refine (Rd.new_any s _).mono ?_
  rintro _ w1 ⟨rfl, hw⟩
  have hL : Rd.Lies w1 (w.heap.size + 1) ⟨s, 0⟩ := by
    rw [hw]
    have := heap_alloc_new (w.alloc (.cells St0.cells 26)) (.cells #[.string s, .int .i64 0] 95)
    rw [World.size_alloc] at this
    exact this
  have HW := Lib.hid hw
  clear hw
  simp only [World.size_alloc]
  go_wp2_with fail
  refine (HN0.out w1 hL).mono ?_
  rintro _ w2 ⟨rfl, hl2, ho2⟩
  have HQ : Hid (∀ W3, W3 = w2.alloc (.cells (⟨2, 0, 0, 0, 0, 0, 0, ⟨#[]⟩⟩ : St).cells 26) → QX w W3 w2.heap.size _ _) := Lib.hid (fun W3 h => QX.start hl2 (by rw [HW.out] at ho2; exact ho2) h)
  clear hl2 ho2 hL
  go_upto_region 3 with fail
  have HQ0 := Lib.hid (HQ.out _ rfl)
  generalize hT : w2.heap.size = T at HQ0 ⊢
  unfold St.cells at HQ0
  dsimp only at HQ0
  generalize w2.alloc (.cells #[.int .i64 2, .int .i64 0, .int .i64 0, .int .i64 0, .int .i64 0, .int .u64 0, .int .u64 0, .string ⟨#[]⟩] 26) = W3 at HQ0 ⊢
  clear hT HQ HW
  obtain ⟨⟨c0, c1, c2, c3, c4, c5, c6, c7⟩, z1, z2, z3, z4, z5, z6, z7⟩ := HQ0.out.cells
  dsimp only at c0 c1 c2 c3 c4 c5 c6 c7
  have hTw := HQ0.out.hT
  go_wp2_with fail
  refine (parts_2 _).mono ?_
  rintro _ wq ⟨rfl, hq⟩
  obtain rfl := hq.symm
  clear hq
  go_wp2_with fail
  refine (HN1.out _ HQ0.out.rd).mono ?_
  rintro _ wn1 ⟨rfl, hl1, ho1⟩
  have HA1 := Lib.hid (HQ0.out.only ho1 hl1)
  clear hl1 ho1
  clear c0 c1 c2 c3 c4 c5 c6 c7 z1 z2 z3 z4 z5 z6 z7 hTw
  obtain ⟨⟨c0, c1, c2, c3, c4, c5, c6, c7⟩, z1, z2, z3, z4, z5, z6, z7⟩ := HA1.out.cells
  dsimp only at c0 c1 c2 c3 c4 c5 c6 c7
  have hTw := HA1.out.hT
  go_upto_region 6 with fail
  have HQ1 := Lib.hid (HA1.out.set (x' := (⟨2, (sd : Int), 0, 0, 0, 0, 0, ⟨#[]⟩⟩ : St)) 1 (.int .i64 (sd : Int)) rfl)
  generalize wn1.setCell ⟨T, 1, none⟩ (.int .i64 (sd : Int)) = WQ1 at HQ1 ⊢
  clear c0 c1 c2 c3 c4 c5 c6 c7 z1 z2 z3 z4 z5 z6 z7 hTw
  obtain ⟨⟨c0, c1, c2, c3, c4, c5, c6, c7⟩, z1, z2, z3, z4, z5, z6, z7⟩ := HQ1.out.cells
  dsimp only at c0 c1 c2 c3 c4 c5 c6 c7
  have hTw := HQ1.out.hT
  go_wp2_with fail
  refine (end0 _ _ HQ1.out.rd).mono ?_
  rintro _ wq ⟨rfl, hq⟩
  obtain rfl := hq.symm
  clear hq
  clear c0 c1 c2 c3 c4 c5 c6 c7 z1 z2 z3 z4 z5 z6 z7 hTw
  go_upto_region 14 with fail
  refine wp_region_lit ?_
  refine wpList_load_row rfl 26 _ rfl T rfl 26 (⟨2, (sd : Int), 0, 0, 0, 0, 0, ⟨#[]⟩⟩ : St).cells (0, 0) _ HQ1.out.t Tryz.underlying26 rfl (hi8 (⟨2, (sd : Int), 0, 0, 0, 0, 0, ⟨#[]⟩⟩ : St)) ?_
  go_wp2_with fail
  refine (HRt.out _).mono ?_
  rintro _ wl ⟨rfl, hbl⟩
  have HPf := Lib.hid (HQ1.out.below hbl)
  clear hbl
  go_upto_region 16 with fail
  refine wp_region_lit ?_
  refine wpList_load_row rfl 26 _ rfl T rfl 26 (⟨2, (sd : Int), 0, 0, 0, 0, 0, ⟨#[]⟩⟩ : St).cells (0, 0) _ HPf.out.t Tryz.underlying26 rfl (hi8 (⟨2, (sd : Int), 0, 0, 0, 0, 0, ⟨#[]⟩⟩ : St)) ?_
  refine wpList_store_rowTo rfl 26 _ _ rfl rfl w.heap.size (⟨2, (sd : Int), 0, 0, 0, 0, 0, ⟨#[]⟩⟩ : St).cells rfl rfl 26 _ HPf.out.r0 (hi8 (⟨2, (sd : Int), 0, 0, 0, 0, 0, ⟨#[]⟩⟩ : St)) rfl (cells8_one _) ?_
  have HR' := setRow_heap wl w.heap.size _ (⟨2, (sd : Int), 0, 0, 0, 0, 0, ⟨#[]⟩⟩ : St).cells 26 (0, 0) HPf.out.r0
  have hB9 : Below w.heap.size w (wl.setRow w.heap.size (⟨2, (sd : Int), 0, 0, 0, 0, 0, ⟨#[]⟩⟩ : St).cells) := ⟨HPf.out.b.os, HPf.out.b.tape, HPf.out.b.output, by simpa using HPf.out.b.size, fun i hi => (setRow_other _ _ _ _ (by omega)).trans (HPf.out.b.block i hi)⟩
  obtain ⟨W9, hW9⟩ : ∃ W9, W9 = wl.setRow w.heap.size (⟨2, (sd : Int), 0, 0, 0, 0, 0, ⟨#[]⟩⟩ : St).cells := ⟨_, rfl⟩
  rw [← hW9] at HR' hB9 ⊢
  clear hW9
  go_wp2_with fail
  exact bodyPost_ret (res8g _ _ w.heap.size (⟨2, (sd : Int), 0, 0, 0, 0, 0, ⟨#[]⟩⟩ : St) 0 rfl rfl HR') rfl ⟨rfl, hB9⟩

set_option maxHeartbeats 2000000 in
set_option maxRecDepth 100000 in
theorem get_4 (sd : Nat) (s1 : sd ≤ 1) (w : World) : Calls Tryz.prog 12 #[.string (bytesS (⟨4, (sd : Int), 0, 0, 0, 0, 0, ⟨#[]⟩⟩ : St))] w fun e w' => e = .returned (.tuple #[.agg (⟨4, (sd : Int), 0, 0, 0, 0, 0, ⟨#[]⟩⟩ : St).cells, .int .i64 0]) ∧ Below w.heap.size w w' := by
  have HRt := Lib.hid (fun W => right_4 (sd : Int) 0 0 0 0 0 ⟨#[]⟩ W)
  rw [show decide (rightP (⟨4, (sd : Int), 0, 0, 0, 0, 0, ⟨#[]⟩⟩ : St)) = true from decide_eq_true ((rightP_4 _ _ _ _ _ _ _).2 ⟨by omega, by omega, by omega, by omega, rfl, rfl, rfl, rfl, rfl⟩)] at HRt
  obtain ⟨s, hs⟩ : ∃ s, s = bytesS (⟨4, (sd : Int), 0, 0, 0, 0, 0, ⟨#[]⟩⟩ : St) := ⟨_, rfl⟩
  rw [← hs]
  have hs' : s = kS 4 ++ kS (sd : Int) := hs
  have k3 := kS_size 4
  have k_sd := kS_size (sd : Int)
  have hsz : s.size ≤ 1000 := by rw [hs']; simp only [ByteArray.size_append]; omega
  have HN0 := Lib.hid (fun (W : World) (h : Rd.Lies W (w.heap.size + 1) ⟨s, 0⟩) => num_v (m := 8) (v := 4) (rest := kS (sd : Int)) (by decide) (by decide) (by rw [hs', show kS 4 = numS 4 from rfl]; simp) (by omega) W h)
  have HN1 := Lib.hid (fun (W : World) (h : Rd.Lies W (w.heap.size + 1) ⟨kS (sd : Int), 0⟩) => num_v (m := 1) (v := sd) (rest := ⟨#[]⟩) (by decide) (by omega) (by rw [kS_nat (n := sd) (by omega)]; simp) (by omega) W h)
  clear hs hs' hsz k3 k_sd
  (try dsimp only at HN0)
  go_enter Tryz.func12, Tryz.ntmps12
  go_wp2_with fail
  refine (Rd.new_any s _).mono ?_
  rintro _ w1 ⟨rfl, hw⟩
  have hL : Rd.Lies w1 (w.heap.size + 1) ⟨s, 0⟩ := by
    rw [hw]
    have := heap_alloc_new (w.alloc (.cells St0.cells 26)) (.cells #[.string s, .int .i64 0] 95)
    rw [World.size_alloc] at this
    exact this
  have HW := Lib.hid hw
  clear hw
  simp only [World.size_alloc]
  go_wp2_with fail
  refine (HN0.out w1 hL).mono ?_
  rintro _ w2 ⟨rfl, hl2, ho2⟩
  have HQ : Hid (∀ W3, W3 = w2.alloc (.cells (⟨4, 0, 0, 0, 0, 0, 0, ⟨#[]⟩⟩ : St).cells 26) → QX w W3 w2.heap.size _ _) := Lib.hid (fun W3 h => QX.start hl2 (by rw [HW.out] at ho2; exact ho2) h)
  clear hl2 ho2 hL
  go_upto_region 3 with fail
  have HQ0 := Lib.hid (HQ.out _ rfl)
  generalize hT : w2.heap.size = T at HQ0 ⊢
  unfold St.cells at HQ0
  dsimp only at HQ0
  generalize w2.alloc (.cells #[.int .i64 4, .int .i64 0, .int .i64 0, .int .i64 0, .int .i64 0, .int .u64 0, .int .u64 0, .string ⟨#[]⟩] 26) = W3 at HQ0 ⊢
  clear hT HQ HW
  obtain ⟨⟨c0, c1, c2, c3, c4, c5, c6, c7⟩, z1, z2, z3, z4, z5, z6, z7⟩ := HQ0.out.cells
  dsimp only at c0 c1 c2 c3 c4 c5 c6 c7
  have hTw := HQ0.out.hT
  go_wp2_with fail
  refine (parts_4 _).mono ?_
  rintro _ wq ⟨rfl, hq⟩
  obtain rfl := hq.symm
  clear hq
  go_wp2_with fail
  refine (HN1.out _ HQ0.out.rd).mono ?_
  rintro _ wn1 ⟨rfl, hl1, ho1⟩
  have HA1 := Lib.hid (HQ0.out.only ho1 hl1)
  clear hl1 ho1
  clear c0 c1 c2 c3 c4 c5 c6 c7 z1 z2 z3 z4 z5 z6 z7 hTw
  obtain ⟨⟨c0, c1, c2, c3, c4, c5, c6, c7⟩, z1, z2, z3, z4, z5, z6, z7⟩ := HA1.out.cells
  dsimp only at c0 c1 c2 c3 c4 c5 c6 c7
  have hTw := HA1.out.hT
  go_upto_region 6 with fail
  have HQ1 := Lib.hid (HA1.out.set (x' := (⟨4, (sd : Int), 0, 0, 0, 0, 0, ⟨#[]⟩⟩ : St)) 1 (.int .i64 (sd : Int)) rfl)
  generalize wn1.setCell ⟨T, 1, none⟩ (.int .i64 (sd : Int)) = WQ1 at HQ1 ⊢
  clear c0 c1 c2 c3 c4 c5 c6 c7 z1 z2 z3 z4 z5 z6 z7 hTw
  obtain ⟨⟨c0, c1, c2, c3, c4, c5, c6, c7⟩, z1, z2, z3, z4, z5, z6, z7⟩ := HQ1.out.cells
  dsimp only at c0 c1 c2 c3 c4 c5 c6 c7
  have hTw := HQ1.out.hT
  go_wp2_with fail
  refine (end0 _ _ HQ1.out.rd).mono ?_
  rintro _ wq ⟨rfl, hq⟩
  obtain rfl := hq.symm
  clear hq
  clear c0 c1 c2 c3 c4 c5 c6 c7 z1 z2 z3 z4 z5 z6 z7 hTw
  go_upto_region 14 with fail
  refine wp_region_lit ?_
  refine wpList_load_row rfl 26 _ rfl T rfl 26 (⟨4, (sd : Int), 0, 0, 0, 0, 0, ⟨#[]⟩⟩ : St).cells (0, 0) _ HQ1.out.t Tryz.underlying26 rfl (hi8 (⟨4, (sd : Int), 0, 0, 0, 0, 0, ⟨#[]⟩⟩ : St)) ?_
  go_wp2_with fail
  refine (HRt.out _).mono ?_
  rintro _ wl ⟨rfl, hbl⟩
  have HPf := Lib.hid (HQ1.out.below hbl)
  clear hbl
  go_upto_region 16 with fail
  refine wp_region_lit ?_
  refine wpList_load_row rfl 26 _ rfl T rfl 26 (⟨4, (sd : Int), 0, 0, 0, 0, 0, ⟨#[]⟩⟩ : St).cells (0, 0) _ HPf.out.t Tryz.underlying26 rfl (hi8 (⟨4, (sd : Int), 0, 0, 0, 0, 0, ⟨#[]⟩⟩ : St)) ?_
  refine wpList_store_rowTo rfl 26 _ _ rfl rfl w.heap.size (⟨4, (sd : Int), 0, 0, 0, 0, 0, ⟨#[]⟩⟩ : St).cells rfl rfl 26 _ HPf.out.r0 (hi8 (⟨4, (sd : Int), 0, 0, 0, 0, 0, ⟨#[]⟩⟩ : St)) rfl (cells8_one _) ?_
  have HR' := setRow_heap wl w.heap.size _ (⟨4, (sd : Int), 0, 0, 0, 0, 0, ⟨#[]⟩⟩ : St).cells 26 (0, 0) HPf.out.r0
  have hB9 : Below w.heap.size w (wl.setRow w.heap.size (⟨4, (sd : Int), 0, 0, 0, 0, 0, ⟨#[]⟩⟩ : St).cells) := ⟨HPf.out.b.os, HPf.out.b.tape, HPf.out.b.output, by simpa using HPf.out.b.size, fun i hi => (setRow_other _ _ _ _ (by omega)).trans (HPf.out.b.block i hi)⟩
  obtain ⟨W9, hW9⟩ : ∃ W9, W9 = wl.setRow w.heap.size (⟨4, (sd : Int), 0, 0, 0, 0, 0, ⟨#[]⟩⟩ : St).cells := ⟨_, rfl⟩
  rw [← hW9] at HR' hB9 ⊢
  clear hW9
  go_wp2_with fail
  exact bodyPost_ret (res8g _ _ w.heap.size (⟨4, (sd : Int), 0, 0, 0, 0, 0, ⟨#[]⟩⟩ : St) 0 rfl rfl HR') rfl ⟨rfl, hB9⟩

set_option maxHeartbeats 2000000 in
set_option maxRecDepth 100000 in
theorem get_5 (n : Nat) (n1 : n ≤ 7) (w : World) : Calls Tryz.prog 12 #[.string (bytesS (⟨5, 0, (n : Int), 0, 0, 0, 0, ⟨#[]⟩⟩ : St))] w fun e w' => e = .returned (.tuple #[.agg (⟨5, 0, (n : Int), 0, 0, 0, 0, ⟨#[]⟩⟩ : St).cells, .int .i64 0]) ∧ Below w.heap.size w w' := by
  have HRt := Lib.hid (fun W => right_5 0 (n : Int) 0 0 0 0 ⟨#[]⟩ W)
  rw [show decide (rightP (⟨5, 0, (n : Int), 0, 0, 0, 0, ⟨#[]⟩⟩ : St)) = true from decide_eq_true ((rightP_5 _ _ _ _ _ _ _).2 ⟨by omega, by omega, by omega, by omega, rfl, rfl, rfl, rfl, rfl⟩)] at HRt
  obtain ⟨s, hs⟩ : ∃ s, s = bytesS (⟨5, 0, (n : Int), 0, 0, 0, 0, ⟨#[]⟩⟩ : St) := ⟨_, rfl⟩
  rw [← hs]
  have hs' : s = kS 5 ++ kS (n : Int) := hs
  have k3 := kS_size 5
  have k_n := kS_size (n : Int)
  have hsz : s.size ≤ 1000 := by rw [hs']; simp only [ByteArray.size_append]; omega
  have HN0 := Lib.hid (fun (W : World) (h : Rd.Lies W (w.heap.size + 1) ⟨s, 0⟩) => num_v (m := 8) (v := 5) (rest := kS (n : Int)) (by decide) (by decide) (by rw [hs', show kS 5 = numS 5 from rfl]; simp) (by omega) W h)
  have HN1 := Lib.hid (fun (W : World) (h : Rd.Lies W (w.heap.size + 1) ⟨kS (n : Int), 0⟩) => num_v (m := 7) (v := n) (rest := ⟨#[]⟩) (by decide) (by omega) (by rw [kS_nat (n := n) (by omega)]; simp) (by omega) W h)
  clear hs hs' hsz k3 k_n
  (try dsimp only at HN0)
  go_enter Tryz.func12, Tryz.ntmps12
  go_wp2_with fail
  refine (Rd.new_any s _).mono ?_
  rintro _ w1 ⟨rfl, hw⟩
  have hL : Rd.Lies w1 (w.heap.size + 1) ⟨s, 0⟩ := by
    rw [hw]
    have := heap_alloc_new (w.alloc (.cells St0.cells 26)) (.cells #[.string s, .int .i64 0] 95)
    rw [World.size_alloc] at this
    exact this
  have HW := Lib.hid hw
  clear hw
  simp only [World.size_alloc]
  go_wp2_with fail
  refine (HN0.out w1 hL).mono ?_
  rintro _ w2 ⟨rfl, hl2, ho2⟩
  have HQ : Hid (∀ W3, W3 = w2.alloc (.cells (⟨5, 0, 0, 0, 0, 0, 0, ⟨#[]⟩⟩ : St).cells 26) → QX w W3 w2.heap.size _ _) := Lib.hid (fun W3 h => QX.start hl2 (by rw [HW.out] at ho2; exact ho2) h)
  clear hl2 ho2 hL
  go_upto_region 3 with fail
  have HQ0 := Lib.hid (HQ.out _ rfl)
  generalize hT : w2.heap.size = T at HQ0 ⊢
  unfold St.cells at HQ0
  dsimp only at HQ0
  generalize w2.alloc (.cells #[.int .i64 5, .int .i64 0, .int .i64 0, .int .i64 0, .int .i64 0, .int .u64 0, .int .u64 0, .string ⟨#[]⟩] 26) = W3 at HQ0 ⊢
  clear hT HQ HW
  obtain ⟨⟨c0, c1, c2, c3, c4, c5, c6, c7⟩, z1, z2, z3, z4, z5, z6, z7⟩ := HQ0.out.cells
  dsimp only at c0 c1 c2 c3 c4 c5 c6 c7
  have hTw := HQ0.out.hT
  go_wp2_with fail
  refine (parts_5 _).mono ?_
  rintro _ wq ⟨rfl, hq⟩
  obtain rfl := hq.symm
  clear hq
  go_wp2_with fail
  refine (bounds_5 _).mono ?_
  rintro _ wq ⟨rfl, hq⟩
  obtain rfl := hq.symm
  clear hq
  go_wp2_with fail
  refine (HN1.out _ HQ0.out.rd).mono ?_
  rintro _ wn1 ⟨rfl, hl1, ho1⟩
  have HA1 := Lib.hid (HQ0.out.only ho1 hl1)
  clear hl1 ho1
  clear c0 c1 c2 c3 c4 c5 c6 c7 z1 z2 z3 z4 z5 z6 z7 hTw
  obtain ⟨⟨c0, c1, c2, c3, c4, c5, c6, c7⟩, z1, z2, z3, z4, z5, z6, z7⟩ := HA1.out.cells
  dsimp only at c0 c1 c2 c3 c4 c5 c6 c7
  have hTw := HA1.out.hT
  go_upto_region 9 with fail
  have HQ1 := Lib.hid (HA1.out.set (x' := (⟨5, 0, (n : Int), 0, 0, 0, 0, ⟨#[]⟩⟩ : St)) 2 (.int .i64 (n : Int)) rfl)
  generalize wn1.setCell ⟨T, 2, none⟩ (.int .i64 (n : Int)) = WQ1 at HQ1 ⊢
  clear c0 c1 c2 c3 c4 c5 c6 c7 z1 z2 z3 z4 z5 z6 z7 hTw
  obtain ⟨⟨c0, c1, c2, c3, c4, c5, c6, c7⟩, z1, z2, z3, z4, z5, z6, z7⟩ := HQ1.out.cells
  dsimp only at c0 c1 c2 c3 c4 c5 c6 c7
  have hTw := HQ1.out.hT
  go_wp2_with fail
  refine (end0 _ _ HQ1.out.rd).mono ?_
  rintro _ wq ⟨rfl, hq⟩
  obtain rfl := hq.symm
  clear hq
  clear c0 c1 c2 c3 c4 c5 c6 c7 z1 z2 z3 z4 z5 z6 z7 hTw
  go_upto_region 14 with fail
  refine wp_region_lit ?_
  refine wpList_load_row rfl 26 _ rfl T rfl 26 (⟨5, 0, (n : Int), 0, 0, 0, 0, ⟨#[]⟩⟩ : St).cells (0, 0) _ HQ1.out.t Tryz.underlying26 rfl (hi8 (⟨5, 0, (n : Int), 0, 0, 0, 0, ⟨#[]⟩⟩ : St)) ?_
  go_wp2_with fail
  refine (HRt.out _).mono ?_
  rintro _ wl ⟨rfl, hbl⟩
  have HPf := Lib.hid (HQ1.out.below hbl)
  clear hbl
  go_upto_region 16 with fail
  refine wp_region_lit ?_
  refine wpList_load_row rfl 26 _ rfl T rfl 26 (⟨5, 0, (n : Int), 0, 0, 0, 0, ⟨#[]⟩⟩ : St).cells (0, 0) _ HPf.out.t Tryz.underlying26 rfl (hi8 (⟨5, 0, (n : Int), 0, 0, 0, 0, ⟨#[]⟩⟩ : St)) ?_
  refine wpList_store_rowTo rfl 26 _ _ rfl rfl w.heap.size (⟨5, 0, (n : Int), 0, 0, 0, 0, ⟨#[]⟩⟩ : St).cells rfl rfl 26 _ HPf.out.r0 (hi8 (⟨5, 0, (n : Int), 0, 0, 0, 0, ⟨#[]⟩⟩ : St)) rfl (cells8_one _) ?_
  have HR' := setRow_heap wl w.heap.size _ (⟨5, 0, (n : Int), 0, 0, 0, 0, ⟨#[]⟩⟩ : St).cells 26 (0, 0) HPf.out.r0
  have hB9 : Below w.heap.size w (wl.setRow w.heap.size (⟨5, 0, (n : Int), 0, 0, 0, 0, ⟨#[]⟩⟩ : St).cells) := ⟨HPf.out.b.os, HPf.out.b.tape, HPf.out.b.output, by simpa using HPf.out.b.size, fun i hi => (setRow_other _ _ _ _ (by omega)).trans (HPf.out.b.block i hi)⟩
  obtain ⟨W9, hW9⟩ : ∃ W9, W9 = wl.setRow w.heap.size (⟨5, 0, (n : Int), 0, 0, 0, 0, ⟨#[]⟩⟩ : St).cells := ⟨_, rfl⟩
  rw [← hW9] at HR' hB9 ⊢
  clear hW9
  go_wp2_with fail
  exact bodyPost_ret (res8g _ _ w.heap.size (⟨5, 0, (n : Int), 0, 0, 0, 0, ⟨#[]⟩⟩ : St) 0 rfl rfl HR') rfl ⟨rfl, hB9⟩

set_option maxHeartbeats 2000000 in
set_option maxRecDepth 100000 in
theorem get_6 (sd n : Nat) (s1 : sd ≤ 1) (n0 : 1 ≤ n) (n1 : n ≤ 4) (w : World) : Calls Tryz.prog 12 #[.string (bytesS (⟨6, (sd : Int), (n : Int), 0, 0, 0, 0, ⟨#[]⟩⟩ : St))] w fun e w' => e = .returned (.tuple #[.agg (⟨6, (sd : Int), (n : Int), 0, 0, 0, 0, ⟨#[]⟩⟩ : St).cells, .int .i64 0]) ∧ Below w.heap.size w w' := by
  have HRt := Lib.hid (fun W => right_6 (sd : Int) (n : Int) 0 0 0 0 ⟨#[]⟩ W)
  rw [show decide (rightP (⟨6, (sd : Int), (n : Int), 0, 0, 0, 0, ⟨#[]⟩⟩ : St)) = true from decide_eq_true ((rightP_6 _ _ _ _ _ _ _).2 ⟨by omega, by omega, by omega, by omega, rfl, rfl, rfl, rfl, rfl⟩)] at HRt
  obtain ⟨s, hs⟩ : ∃ s, s = bytesS (⟨6, (sd : Int), (n : Int), 0, 0, 0, 0, ⟨#[]⟩⟩ : St) := ⟨_, rfl⟩
  rw [← hs]
  have hs' : s = kS 6 ++ kS (sd : Int) ++ kS (n : Int) := hs
  have k3 := kS_size 6
  have k_sd := kS_size (sd : Int)
  have k_n := kS_size (n : Int)
  have hsz : s.size ≤ 1000 := by rw [hs']; simp only [ByteArray.size_append]; omega
  have HN0 := Lib.hid (fun (W : World) (h : Rd.Lies W (w.heap.size + 1) ⟨s, 0⟩) => num_v (m := 8) (v := 6) (rest := kS (sd : Int) ++ kS (n : Int)) (by decide) (by decide) (by rw [hs', show kS 6 = numS 6 from rfl]; simp) (by omega) W h)
  have HN1 := Lib.hid (fun (W : World) (h : Rd.Lies W (w.heap.size + 1) ⟨kS (sd : Int) ++ kS (n : Int), 0⟩) => num_v (m := 1) (v := sd) (rest := kS (n : Int)) (by decide) (by omega) (by rw [kS_nat (n := sd) (by omega)]; simp) (by simp only [ByteArray.size_append]; omega) W h)
  have HN2 := Lib.hid (fun (W : World) (h : Rd.Lies W (w.heap.size + 1) ⟨kS (n : Int), 0⟩) => num_v (m := 4) (v := n) (rest := ⟨#[]⟩) (by decide) (by omega) (by rw [kS_nat (n := n) (by omega)]; simp) (by omega) W h)
  clear hs hs' hsz k3 k_sd k_n
  (try dsimp only at HN0)
  go_enter Tryz.func12, Tryz.ntmps12
  go_wp2_with fail
  refine (Rd.new_any s _).mono ?_
  rintro _ w1 ⟨rfl, hw⟩
  have hL : Rd.Lies w1 (w.heap.size + 1) ⟨s, 0⟩ := by
    rw [hw]
    have := heap_alloc_new (w.alloc (.cells St0.cells 26)) (.cells #[.string s, .int .i64 0] 95)
    rw [World.size_alloc] at this
    exact this
  have HW := Lib.hid hw
  clear hw
  simp only [World.size_alloc]
  go_wp2_with fail
  refine (HN0.out w1 hL).mono ?_
  rintro _ w2 ⟨rfl, hl2, ho2⟩
  have HQ : Hid (∀ W3, W3 = w2.alloc (.cells (⟨6, 0, 0, 0, 0, 0, 0, ⟨#[]⟩⟩ : St).cells 26) → QX w W3 w2.heap.size _ _) := Lib.hid (fun W3 h => QX.start hl2 (by rw [HW.out] at ho2; exact ho2) h)
  clear hl2 ho2 hL
  go_upto_region 3 with fail
  have HQ0 := Lib.hid (HQ.out _ rfl)
  generalize hT : w2.heap.size = T at HQ0 ⊢
  unfold St.cells at HQ0
  dsimp only at HQ0
  generalize w2.alloc (.cells #[.int .i64 6, .int .i64 0, .int .i64 0, .int .i64 0, .int .i64 0, .int .u64 0, .int .u64 0, .string ⟨#[]⟩] 26) = W3 at HQ0 ⊢
  clear hT HQ HW
  obtain ⟨⟨c0, c1, c2, c3, c4, c5, c6, c7⟩, z1, z2, z3, z4, z5, z6, z7⟩ := HQ0.out.cells
  dsimp only at c0 c1 c2 c3 c4 c5 c6 c7
  have hTw := HQ0.out.hT
  go_wp2_with fail
  refine (parts_6 _).mono ?_
  rintro _ wq ⟨rfl, hq⟩
  obtain rfl := hq.symm
  clear hq
  go_wp2_with fail
  refine (HN1.out _ HQ0.out.rd).mono ?_
  rintro _ wn1 ⟨rfl, hl1, ho1⟩
  have HA1 := Lib.hid (HQ0.out.only ho1 hl1)
  clear hl1 ho1
  clear c0 c1 c2 c3 c4 c5 c6 c7 z1 z2 z3 z4 z5 z6 z7 hTw
  obtain ⟨⟨c0, c1, c2, c3, c4, c5, c6, c7⟩, z1, z2, z3, z4, z5, z6, z7⟩ := HA1.out.cells
  dsimp only at c0 c1 c2 c3 c4 c5 c6 c7
  have hTw := HA1.out.hT
  go_upto_region 6 with fail
  have HQ1 := Lib.hid (HA1.out.set (x' := (⟨6, (sd : Int), 0, 0, 0, 0, 0, ⟨#[]⟩⟩ : St)) 1 (.int .i64 (sd : Int)) rfl)
  generalize wn1.setCell ⟨T, 1, none⟩ (.int .i64 (sd : Int)) = WQ1 at HQ1 ⊢
  clear c0 c1 c2 c3 c4 c5 c6 c7 z1 z2 z3 z4 z5 z6 z7 hTw
  obtain ⟨⟨c0, c1, c2, c3, c4, c5, c6, c7⟩, z1, z2, z3, z4, z5, z6, z7⟩ := HQ1.out.cells
  dsimp only at c0 c1 c2 c3 c4 c5 c6 c7
  have hTw := HQ1.out.hT
  go_wp2_with fail
  refine (bounds_6 _).mono ?_
  rintro _ wq ⟨rfl, hq⟩
  obtain rfl := hq.symm
  clear hq
  go_wp2_with fail
  refine (HN2.out _ HQ1.out.rd).mono ?_
  rintro _ wn2 ⟨rfl, hl2, ho2⟩
  have HA2 := Lib.hid (HQ1.out.only ho2 hl2)
  clear hl2 ho2
  clear c0 c1 c2 c3 c4 c5 c6 c7 z1 z2 z3 z4 z5 z6 z7 hTw
  obtain ⟨⟨c0, c1, c2, c3, c4, c5, c6, c7⟩, z1, z2, z3, z4, z5, z6, z7⟩ := HA2.out.cells
  dsimp only at c0 c1 c2 c3 c4 c5 c6 c7
  have hTw := HA2.out.hT
  go_upto_region 9 with fail
  have HQ2 := Lib.hid (HA2.out.set (x' := (⟨6, (sd : Int), (n : Int), 0, 0, 0, 0, ⟨#[]⟩⟩ : St)) 2 (.int .i64 (n : Int)) rfl)
  generalize wn2.setCell ⟨T, 2, none⟩ (.int .i64 (n : Int)) = WQ2 at HQ2 ⊢
  clear c0 c1 c2 c3 c4 c5 c6 c7 z1 z2 z3 z4 z5 z6 z7 hTw
  obtain ⟨⟨c0, c1, c2, c3, c4, c5, c6, c7⟩, z1, z2, z3, z4, z5, z6, z7⟩ := HQ2.out.cells
  dsimp only at c0 c1 c2 c3 c4 c5 c6 c7
  have hTw := HQ2.out.hT
  go_wp2_with fail
  refine (end0 _ _ HQ2.out.rd).mono ?_
  rintro _ wq ⟨rfl, hq⟩
  obtain rfl := hq.symm
  clear hq
  clear c0 c1 c2 c3 c4 c5 c6 c7 z1 z2 z3 z4 z5 z6 z7 hTw
  go_upto_region 14 with fail
  refine wp_region_lit ?_
  refine wpList_load_row rfl 26 _ rfl T rfl 26 (⟨6, (sd : Int), (n : Int), 0, 0, 0, 0, ⟨#[]⟩⟩ : St).cells (0, 0) _ HQ2.out.t Tryz.underlying26 rfl (hi8 (⟨6, (sd : Int), (n : Int), 0, 0, 0, 0, ⟨#[]⟩⟩ : St)) ?_
  go_wp2_with fail
  refine (HRt.out _).mono ?_
  rintro _ wl ⟨rfl, hbl⟩
  have HPf := Lib.hid (HQ2.out.below hbl)
  clear hbl
  go_upto_region 16 with fail
  refine wp_region_lit ?_
  refine wpList_load_row rfl 26 _ rfl T rfl 26 (⟨6, (sd : Int), (n : Int), 0, 0, 0, 0, ⟨#[]⟩⟩ : St).cells (0, 0) _ HPf.out.t Tryz.underlying26 rfl (hi8 (⟨6, (sd : Int), (n : Int), 0, 0, 0, 0, ⟨#[]⟩⟩ : St)) ?_
  refine wpList_store_rowTo rfl 26 _ _ rfl rfl w.heap.size (⟨6, (sd : Int), (n : Int), 0, 0, 0, 0, ⟨#[]⟩⟩ : St).cells rfl rfl 26 _ HPf.out.r0 (hi8 (⟨6, (sd : Int), (n : Int), 0, 0, 0, 0, ⟨#[]⟩⟩ : St)) rfl (cells8_one _) ?_
  have HR' := setRow_heap wl w.heap.size _ (⟨6, (sd : Int), (n : Int), 0, 0, 0, 0, ⟨#[]⟩⟩ : St).cells 26 (0, 0) HPf.out.r0
  have hB9 : Below w.heap.size w (wl.setRow w.heap.size (⟨6, (sd : Int), (n : Int), 0, 0, 0, 0, ⟨#[]⟩⟩ : St).cells) := ⟨HPf.out.b.os, HPf.out.b.tape, HPf.out.b.output, by simpa using HPf.out.b.size, fun i hi => (setRow_other _ _ _ _ (by omega)).trans (HPf.out.b.block i hi)⟩
  obtain ⟨W9, hW9⟩ : ∃ W9, W9 = wl.setRow w.heap.size (⟨6, (sd : Int), (n : Int), 0, 0, 0, 0, ⟨#[]⟩⟩ : St).cells := ⟨_, rfl⟩
  rw [← hW9] at HR' hB9 ⊢
  clear hW9
  go_wp2_with fail
  exact bodyPost_ret (res8g _ _ w.heap.size (⟨6, (sd : Int), (n : Int), 0, 0, 0, 0, ⟨#[]⟩⟩ : St) 0 rfl rfl HR') rfl ⟨rfl, hB9⟩

set_option maxHeartbeats 2000000 in
set_option maxRecDepth 100000 in
theorem get_7  (w : World) : Calls Tryz.prog 12 #[.string (bytesS (⟨7, 0, 0, 0, 0, 0, 0, ⟨#[]⟩⟩ : St))] w fun e w' => e = .returned (.tuple #[.agg (⟨7, 0, 0, 0, 0, 0, 0, ⟨#[]⟩⟩ : St).cells, .int .i64 0]) ∧ Below w.heap.size w w' := by
  have HRt := Lib.hid (fun W => right_7 0 0 0 0 0 0 ⟨#[]⟩ W)
  rw [show decide (rightP (⟨7, 0, 0, 0, 0, 0, 0, ⟨#[]⟩⟩ : St)) = true from decide_eq_true ((rightP_7 _ _ _ _ _ _ _).2 ⟨by omega, by omega, by omega, by omega, rfl, rfl, rfl, rfl, rfl⟩)] at HRt
  obtain ⟨s, hs⟩ : ∃ s, s = bytesS (⟨7, 0, 0, 0, 0, 0, 0, ⟨#[]⟩⟩ : St) := ⟨_, rfl⟩
  rw [← hs]
  have hs' : s = kS 7 := hs
  have k3 := kS_size 7
  have hsz : s.size ≤ 1000 := by rw [hs']; omega
  have HN0 := Lib.hid (fun (W : World) (h : Rd.Lies W (w.heap.size + 1) ⟨s, 0⟩) => num_v (m := 8) (v := 7) (rest := ⟨#[]⟩) (by decide) (by decide) (by rw [hs', show kS 7 = numS 7 from rfl]; simp) (by omega) W h)
  clear hs hs' hsz k3
  (try dsimp only at HN0)
  go_enter Tryz.func12, Tryz.ntmps12
  go_wp2_with fail
  refine (Rd.new_any s _).mono ?_
  rintro _ w1 ⟨rfl, hw⟩
  have hL : Rd.Lies w1 (w.heap.size + 1) ⟨s, 0⟩ := by
    rw [hw]
    have := heap_alloc_new (w.alloc (.cells St0.cells 26)) (.cells #[.string s, .int .i64 0] 95)
    rw [World.size_alloc] at this
    exact this
  have HW := Lib.hid hw
  clear hw
  simp only [World.size_alloc]
  go_wp2_with fail
  refine (HN0.out w1 hL).mono ?_
  rintro _ w2 ⟨rfl, hl2, ho2⟩
  have HQ : Hid (∀ W3, W3 = w2.alloc (.cells (⟨7, 0, 0, 0, 0, 0, 0, ⟨#[]⟩⟩ : St).cells 26) → QX w W3 w2.heap.size _ _) := Lib.hid (fun W3 h => QX.start hl2 (by rw [HW.out] at ho2; exact ho2) h)
  clear hl2 ho2 hL
  go_upto_region 3 with fail
  have HQ0 := Lib.hid (HQ.out _ rfl)
  generalize hT : w2.heap.size = T at HQ0 ⊢
  unfold St.cells at HQ0
  dsimp only at HQ0
  generalize w2.alloc (.cells #[.int .i64 7, .int .i64 0, .int .i64 0, .int .i64 0, .int .i64 0, .int .u64 0, .int .u64 0, .string ⟨#[]⟩] 26) = W3 at HQ0 ⊢
  clear hT HQ HW
  obtain ⟨⟨c0, c1, c2, c3, c4, c5, c6, c7⟩, z1, z2, z3, z4, z5, z6, z7⟩ := HQ0.out.cells
  dsimp only at c0 c1 c2 c3 c4 c5 c6 c7
  have hTw := HQ0.out.hT
  go_wp2_with fail
  refine (parts_7 _).mono ?_
  rintro _ wq ⟨rfl, hq⟩
  obtain rfl := hq.symm
  clear hq
  go_wp2_with fail
  refine (end0 _ _ HQ0.out.rd).mono ?_
  rintro _ wq ⟨rfl, hq⟩
  obtain rfl := hq.symm
  clear hq
  clear c0 c1 c2 c3 c4 c5 c6 c7 z1 z2 z3 z4 z5 z6 z7 hTw
  go_upto_region 14 with fail
  refine wp_region_lit ?_
  refine wpList_load_row rfl 26 _ rfl T rfl 26 (⟨7, 0, 0, 0, 0, 0, 0, ⟨#[]⟩⟩ : St).cells (0, 0) _ HQ0.out.t Tryz.underlying26 rfl (hi8 (⟨7, 0, 0, 0, 0, 0, 0, ⟨#[]⟩⟩ : St)) ?_
  go_wp2_with fail
  refine (HRt.out _).mono ?_
  rintro _ wl ⟨rfl, hbl⟩
  have HPf := Lib.hid (HQ0.out.below hbl)
  clear hbl
  go_upto_region 16 with fail
  refine wp_region_lit ?_
  refine wpList_load_row rfl 26 _ rfl T rfl 26 (⟨7, 0, 0, 0, 0, 0, 0, ⟨#[]⟩⟩ : St).cells (0, 0) _ HPf.out.t Tryz.underlying26 rfl (hi8 (⟨7, 0, 0, 0, 0, 0, 0, ⟨#[]⟩⟩ : St)) ?_
  refine wpList_store_rowTo rfl 26 _ _ rfl rfl w.heap.size (⟨7, 0, 0, 0, 0, 0, 0, ⟨#[]⟩⟩ : St).cells rfl rfl 26 _ HPf.out.r0 (hi8 (⟨7, 0, 0, 0, 0, 0, 0, ⟨#[]⟩⟩ : St)) rfl (cells8_one _) ?_
  have HR' := setRow_heap wl w.heap.size _ (⟨7, 0, 0, 0, 0, 0, 0, ⟨#[]⟩⟩ : St).cells 26 (0, 0) HPf.out.r0
  have hB9 : Below w.heap.size w (wl.setRow w.heap.size (⟨7, 0, 0, 0, 0, 0, 0, ⟨#[]⟩⟩ : St).cells) := ⟨HPf.out.b.os, HPf.out.b.tape, HPf.out.b.output, by simpa using HPf.out.b.size, fun i hi => (setRow_other _ _ _ _ (by omega)).trans (HPf.out.b.block i hi)⟩
  obtain ⟨W9, hW9⟩ : ∃ W9, W9 = wl.setRow w.heap.size (⟨7, 0, 0, 0, 0, 0, 0, ⟨#[]⟩⟩ : St).cells := ⟨_, rfl⟩
  rw [← hW9] at HR' hB9 ⊢
  clear hW9
  go_wp2_with fail
  exact bodyPost_ret (res8g _ _ w.heap.size (⟨7, 0, 0, 0, 0, 0, 0, ⟨#[]⟩⟩ : St) 0 rfl rfl HR') rfl ⟨rfl, hB9⟩

set_option maxHeartbeats 2000000 in
set_option maxRecDepth 100000 in
theorem get_8  (w : World) : Calls Tryz.prog 12 #[.string (bytesS (⟨8, 0, 0, 0, 0, 0, 0, ⟨#[]⟩⟩ : St))] w fun e w' => e = .returned (.tuple #[.agg (⟨8, 0, 0, 0, 0, 0, 0, ⟨#[]⟩⟩ : St).cells, .int .i64 0]) ∧ Below w.heap.size w w' := by
  have HRt := Lib.hid (fun W => right_8 0 0 0 0 0 0 ⟨#[]⟩ W)
  rw [show decide (rightP (⟨8, 0, 0, 0, 0, 0, 0, ⟨#[]⟩⟩ : St)) = true from decide_eq_true ((rightP_8 _ _ _ _ _ _ _).2 ⟨by omega, by omega, by omega, by omega, rfl, rfl, rfl, rfl, rfl⟩)] at HRt
  obtain ⟨s, hs⟩ : ∃ s, s = bytesS (⟨8, 0, 0, 0, 0, 0, 0, ⟨#[]⟩⟩ : St) := ⟨_, rfl⟩
  rw [← hs]
  have hs' : s = kS 8 := hs
  have k3 := kS_size 8
  have hsz : s.size ≤ 1000 := by rw [hs']; omega
  have HN0 := Lib.hid (fun (W : World) (h : Rd.Lies W (w.heap.size + 1) ⟨s, 0⟩) => num_v (m := 8) (v := 8) (rest := ⟨#[]⟩) (by decide) (by decide) (by rw [hs', show kS 8 = numS 8 from rfl]; simp) (by omega) W h)
  clear hs hs' hsz k3
  (try dsimp only at HN0)
  go_enter Tryz.func12, Tryz.ntmps12
  go_wp2_with fail
  refine (Rd.new_any s _).mono ?_
  rintro _ w1 ⟨rfl, hw⟩
  have hL : Rd.Lies w1 (w.heap.size + 1) ⟨s, 0⟩ := by
    rw [hw]
    have := heap_alloc_new (w.alloc (.cells St0.cells 26)) (.cells #[.string s, .int .i64 0] 95)
    rw [World.size_alloc] at this
    exact this
  have HW := Lib.hid hw
  clear hw
  simp only [World.size_alloc]
  go_wp2_with fail
  refine (HN0.out w1 hL).mono ?_
  rintro _ w2 ⟨rfl, hl2, ho2⟩
  have HQ : Hid (∀ W3, W3 = w2.alloc (.cells (⟨8, 0, 0, 0, 0, 0, 0, ⟨#[]⟩⟩ : St).cells 26) → QX w W3 w2.heap.size _ _) := Lib.hid (fun W3 h => QX.start hl2 (by rw [HW.out] at ho2; exact ho2) h)
  clear hl2 ho2 hL
  go_upto_region 3 with fail
  have HQ0 := Lib.hid (HQ.out _ rfl)
  generalize hT : w2.heap.size = T at HQ0 ⊢
  unfold St.cells at HQ0
  dsimp only at HQ0
  generalize w2.alloc (.cells #[.int .i64 8, .int .i64 0, .int .i64 0, .int .i64 0, .int .i64 0, .int .u64 0, .int .u64 0, .string ⟨#[]⟩] 26) = W3 at HQ0 ⊢
  clear hT HQ HW
  obtain ⟨⟨c0, c1, c2, c3, c4, c5, c6, c7⟩, z1, z2, z3, z4, z5, z6, z7⟩ := HQ0.out.cells
  dsimp only at c0 c1 c2 c3 c4 c5 c6 c7
  have hTw := HQ0.out.hT
  go_wp2_with fail
  refine (parts_8 _).mono ?_
  rintro _ wq ⟨rfl, hq⟩
  obtain rfl := hq.symm
  clear hq
  go_wp2_with fail
  refine (end0 _ _ HQ0.out.rd).mono ?_
  rintro _ wq ⟨rfl, hq⟩
  obtain rfl := hq.symm
  clear hq
  clear c0 c1 c2 c3 c4 c5 c6 c7 z1 z2 z3 z4 z5 z6 z7 hTw
  go_upto_region 14 with fail
  refine wp_region_lit ?_
  refine wpList_load_row rfl 26 _ rfl T rfl 26 (⟨8, 0, 0, 0, 0, 0, 0, ⟨#[]⟩⟩ : St).cells (0, 0) _ HQ0.out.t Tryz.underlying26 rfl (hi8 (⟨8, 0, 0, 0, 0, 0, 0, ⟨#[]⟩⟩ : St)) ?_
  go_wp2_with fail
  refine (HRt.out _).mono ?_
  rintro _ wl ⟨rfl, hbl⟩
  have HPf := Lib.hid (HQ0.out.below hbl)
  clear hbl
  go_upto_region 16 with fail
  refine wp_region_lit ?_
  refine wpList_load_row rfl 26 _ rfl T rfl 26 (⟨8, 0, 0, 0, 0, 0, 0, ⟨#[]⟩⟩ : St).cells (0, 0) _ HPf.out.t Tryz.underlying26 rfl (hi8 (⟨8, 0, 0, 0, 0, 0, 0, ⟨#[]⟩⟩ : St)) ?_
  refine wpList_store_rowTo rfl 26 _ _ rfl rfl w.heap.size (⟨8, 0, 0, 0, 0, 0, 0, ⟨#[]⟩⟩ : St).cells rfl rfl 26 _ HPf.out.r0 (hi8 (⟨8, 0, 0, 0, 0, 0, 0, ⟨#[]⟩⟩ : St)) rfl (cells8_one _) ?_
  have HR' := setRow_heap wl w.heap.size _ (⟨8, 0, 0, 0, 0, 0, 0, ⟨#[]⟩⟩ : St).cells 26 (0, 0) HPf.out.r0
  have hB9 : Below w.heap.size w (wl.setRow w.heap.size (⟨8, 0, 0, 0, 0, 0, 0, ⟨#[]⟩⟩ : St).cells) := ⟨HPf.out.b.os, HPf.out.b.tape, HPf.out.b.output, by simpa using HPf.out.b.size, fun i hi => (setRow_other _ _ _ _ (by omega)).trans (HPf.out.b.block i hi)⟩
  obtain ⟨W9, hW9⟩ : ∃ W9, W9 = wl.setRow w.heap.size (⟨8, 0, 0, 0, 0, 0, 0, ⟨#[]⟩⟩ : St).cells := ⟨_, rfl⟩
  rw [← hW9] at HR' hB9 ⊢
  clear hW9
  go_wp2_with fail
  exact bodyPost_ret (res8g _ _ w.heap.size (⟨8, 0, 0, 0, 0, 0, 0, ⟨#[]⟩⟩ : St) 0 rfl rfl HR') rfl ⟨rfl, hB9⟩

set_option maxHeartbeats 2000000 in
set_option maxRecDepth 100000 in
theorem get_3 (c f u : Nat) (d : ByteArray) (k1 : c < 4) (f1 : f ≤ 1) (hu : u < 18446744073709551616) (hd : d.size ≤ 64) (w : World) : Calls Tryz.prog 12 #[.string (bytesS (⟨3, 0, 0, (c : Int), (f : Int), 0, (u : Int), d⟩ : St))] w fun e w' => e = .returned (.tuple #[.agg (⟨3, 0, 0, (c : Int), (f : Int), 0, (u : Int), d⟩ : St).cells, .int .i64 0]) ∧ Below w.heap.size w w' := by
  have HRt := Lib.hid (fun W => right_3 0 0 (c : Int) (f : Int) 0 (u : Int) d W)
  rw [show decide (rightP (⟨3, 0, 0, (c : Int), (f : Int), 0, (u : Int), d⟩ : St)) = true from decide_eq_true ((rightP_3 _ _ _ _ _ _ _).2 ⟨by omega, by omega, by omega, by omega, by show (0 : Int) ≤ c; omega, by show (c : Int) < 4; omega, by show (f : Int) = 0 ∨ (f : Int) = 1; omega, hd, rfl⟩)] at HRt
  obtain ⟨s, hs⟩ : ∃ s, s = bytesS (⟨3, 0, 0, (c : Int), (f : Int), 0, (u : Int), d⟩ : St) := ⟨_, rfl⟩
  rw [← hs]
  have hs' : s = kS 3 ++ (⟨(c : Int), (f : Int), 0, (u : Int), d⟩ : Packet.P5).bytes := hs
  have k3 := kS_size 3
  have hpz := pby_sz (⟨(c : Int), (f : Int), 0, (u : Int), d⟩ : Packet.P5) hd
  have hpz2 : (⟨(c : Int), (f : Int), 0, (u : Int), d⟩ : Packet.P5).bytes.size ≤ 200 := by
    unfold Packet.P5.bytes
    have := Packet.textB_size d hd
    have := kS_size (c : Int); have := kS_size (f : Int); have := kS_size 0; have := kS_size (u : Int)
    simp only [ByteArray.size_append]
    omega
  have hsz : s.size ≤ 1000 := by rw [hs']; simp only [ByteArray.size_append]; omega
  have HN0 := Lib.hid (fun (W : World) (h : Rd.Lies W (w.heap.size + 1) ⟨s, 0⟩) => num_v (m := 8) (v := 3) (rest := (⟨(c : Int), (f : Int), 0, (u : Int), d⟩ : Packet.P5).bytes) (by decide) (by decide) (by rw [hs', show kS 3 = numS 3 from rfl]; simp) (by omega) W h)
  have HN1 := Lib.hid (fun (W : World) (h : Rd.Lies W (w.heap.size + 1) ⟨(⟨(c : Int), (f : Int), 0, (u : Int), d⟩ : Packet.P5).bytes, 0⟩) => Rd.take_any (w.heap.size + 1) ⟨(⟨(c : Int), (f : Int), 0, (u : Int), d⟩ : Packet.P5).bytes, 0⟩ (by show ((⟨(c : Int), (f : Int), 0, (u : Int), d⟩ : Packet.P5).bytes : ByteArray).size ≤ _; omega) W h)
  have hpb := Rd.packet_back (⟨(c : Int), (f : Int), 0, (u : Int), d⟩ : Packet.P5) ⟨by show (0 : Int) ≤ c; omega, by show (c : Int) < 4; omega, by show (f : Int) = 0 ∨ (f : Int) = 1; omega, hd⟩ ⟨by show (0 : Int) ≤ 0; decide, by show (0 : Int) < 18446744073709551616; decide, by show (0 : Int) ≤ u; omega, by show (u : Int) < 18446744073709551616; omega, by show d.size ≤ maxLen; unfold maxLen; omega⟩ ((⟨(c : Int), (f : Int), 0, (u : Int), d⟩ : Packet.P5).bytes) ⟨#[]⟩ (by simp)
  rw [hpb] at HN1
  clear hpb
  clear hs hs' hsz k3 hpz hpz2
  (try dsimp only at HN0)
  go_enter Tryz.func12, Tryz.ntmps12
  go_wp2_with fail
  refine (Rd.new_any s _).mono ?_
  rintro _ w1 ⟨rfl, hw⟩
  have hL : Rd.Lies w1 (w.heap.size + 1) ⟨s, 0⟩ := by
    rw [hw]
    have := heap_alloc_new (w.alloc (.cells St0.cells 26)) (.cells #[.string s, .int .i64 0] 95)
    rw [World.size_alloc] at this
    exact this
  have HW := Lib.hid hw
  clear hw
  simp only [World.size_alloc]
  go_wp2_with fail
  refine (HN0.out w1 hL).mono ?_
  rintro _ w2 ⟨rfl, hl2, ho2⟩
  have HQ : Hid (∀ W3, W3 = w2.alloc (.cells (⟨3, 0, 0, 0, 0, 0, 0, ⟨#[]⟩⟩ : St).cells 26) → QX w W3 w2.heap.size _ _) := Lib.hid (fun W3 h => QX.start hl2 (by rw [HW.out] at ho2; exact ho2) h)
  clear hl2 ho2 hL
  go_upto_region 3 with fail
  have HQ0 := Lib.hid (HQ.out _ rfl)
  generalize hT : w2.heap.size = T at HQ0 ⊢
  unfold St.cells at HQ0
  dsimp only at HQ0
  generalize w2.alloc (.cells #[.int .i64 3, .int .i64 0, .int .i64 0, .int .i64 0, .int .i64 0, .int .u64 0, .int .u64 0, .string ⟨#[]⟩] 26) = W3 at HQ0 ⊢
  clear hT HQ HW
  obtain ⟨⟨c0, c1, c2, c3, c4, c5, c6, c7⟩, z1, z2, z3, z4, z5, z6, z7⟩ := HQ0.out.cells
  dsimp only at c0 c1 c2 c3 c4 c5 c6 c7
  have hTw := HQ0.out.hT
  go_wp2_with fail
  refine (parts_3 _).mono ?_
  rintro _ wq ⟨rfl, hq⟩
  obtain rfl := hq.symm
  clear hq
  go_wp2_with fail
  refine (HN1.out _ HQ0.out.rd).mono ?_
  rintro _ wn1 ⟨rfl, hl1, ho1⟩
  have HA1 := Lib.hid (HQ0.out.only ho1 hl1)
  clear hl1 ho1
  clear c0 c1 c2 c3 c4 c5 c6 c7 z1 z2 z3 z4 z5 z6 z7 hTw
  obtain ⟨⟨c0, c1, c2, c3, c4, c5, c6, c7⟩, z1, z2, z3, z4, z5, z6, z7⟩ := HA1.out.cells
  dsimp only at c0 c1 c2 c3 c4 c5 c6 c7
  have hTw := HA1.out.hT
  unfold Packet.P5.cells
  dsimp only
  go_upto_region 11 with fail
  have HQ1 := Lib.hid (((((HA1.out.set (x' := (⟨3, 0, 0, (c : Int), 0, 0, 0, ⟨#[]⟩⟩ : St)) 3 (.int .i64 (c : Int)) rfl).set (x' := (⟨3, 0, 0, (c : Int), (f : Int), 0, 0, ⟨#[]⟩⟩ : St)) 4 (.int .i64 (f : Int)) rfl).set (x' := (⟨3, 0, 0, (c : Int), (f : Int), 0, 0, ⟨#[]⟩⟩ : St)) 5 (.int .u64 0) rfl).set (x' := (⟨3, 0, 0, (c : Int), (f : Int), 0, (u : Int), ⟨#[]⟩⟩ : St)) 6 (.int .u64 (u : Int)) rfl).set (x' := (⟨3, 0, 0, (c : Int), (f : Int), 0, (u : Int), d⟩ : St)) 7 (.string d) rfl)
  generalize ((((wn1.setCell ⟨T, 3, none⟩ (.int .i64 (c : Int))).setCell ⟨T, 4, none⟩ (.int .i64 (f : Int))).setCell ⟨T, 5, none⟩ (.int .u64 0)).setCell ⟨T, 6, none⟩ (.int .u64 (u : Int))).setCell ⟨T, 7, none⟩ (.string d) = WQ1 at HQ1 ⊢
  clear c0 c1 c2 c3 c4 c5 c6 c7 z1 z2 z3 z4 z5 z6 z7 hTw
  obtain ⟨⟨c0, c1, c2, c3, c4, c5, c6, c7⟩, z1, z2, z3, z4, z5, z6, z7⟩ := HQ1.out.cells
  dsimp only at c0 c1 c2 c3 c4 c5 c6 c7
  have hTw := HQ1.out.hT
  go_wp2_with fail
  refine (end0 _ _ HQ1.out.rd).mono ?_
  rintro _ wq ⟨rfl, hq⟩
  obtain rfl := hq.symm
  clear hq
  clear c0 c1 c2 c3 c4 c5 c6 c7 z1 z2 z3 z4 z5 z6 z7 hTw
  go_upto_region 14 with fail
  refine wp_region_lit ?_
  refine wpList_load_row rfl 26 _ rfl T rfl 26 (⟨3, 0, 0, (c : Int), (f : Int), 0, (u : Int), d⟩ : St).cells (0, 0) _ HQ1.out.t Tryz.underlying26 rfl (hi8 (⟨3, 0, 0, (c : Int), (f : Int), 0, (u : Int), d⟩ : St)) ?_
  go_wp2_with fail
  refine (HRt.out _).mono ?_
  rintro _ wl ⟨rfl, hbl⟩
  have HPf := Lib.hid (HQ1.out.below hbl)
  clear hbl
  go_upto_region 16 with fail
  refine wp_region_lit ?_
  refine wpList_load_row rfl 26 _ rfl T rfl 26 (⟨3, 0, 0, (c : Int), (f : Int), 0, (u : Int), d⟩ : St).cells (0, 0) _ HPf.out.t Tryz.underlying26 rfl (hi8 (⟨3, 0, 0, (c : Int), (f : Int), 0, (u : Int), d⟩ : St)) ?_
  refine wpList_store_rowTo rfl 26 _ _ rfl rfl w.heap.size (⟨3, 0, 0, (c : Int), (f : Int), 0, (u : Int), d⟩ : St).cells rfl rfl 26 _ HPf.out.r0 (hi8 (⟨3, 0, 0, (c : Int), (f : Int), 0, (u : Int), d⟩ : St)) rfl (cells8_one _) ?_
  have HR' := setRow_heap wl w.heap.size _ (⟨3, 0, 0, (c : Int), (f : Int), 0, (u : Int), d⟩ : St).cells 26 (0, 0) HPf.out.r0
  have hB9 : Below w.heap.size w (wl.setRow w.heap.size (⟨3, 0, 0, (c : Int), (f : Int), 0, (u : Int), d⟩ : St).cells) := ⟨HPf.out.b.os, HPf.out.b.tape, HPf.out.b.output, by simpa using HPf.out.b.size, fun i hi => (setRow_other _ _ _ _ (by omega)).trans (HPf.out.b.block i hi)⟩
  obtain ⟨W9, hW9⟩ : ∃ W9, W9 = wl.setRow w.heap.size (⟨3, 0, 0, (c : Int), (f : Int), 0, (u : Int), d⟩ : St).cells := ⟨_, rfl⟩
  rw [← hW9] at HR' hB9 ⊢
  clear hW9
  go_wp2_with fail
  exact bodyPost_ret (res8g _ _ w.heap.size (⟨3, 0, 0, (c : Int), (f : Int), 0, (u : Int), d⟩ : St) 0 rfl rfl HR') rfl ⟨rfl, hB9⟩

theorem get_ok (x : St) (h : rightP x) (t0 : 0 ≤ x.t) (t1 : x.t < 18446744073709551616) (w : World) : Calls Tryz.prog 12 #[.string (bytesS x)] w fun e w' => e = .returned (.tuple #[.agg x.cells, .int .i64 0]) ∧ Below w.heap.size w w' := by
  obtain ⟨k, sd, n, c, f, s, t, d⟩ := x
  rcases h with ⟨h1, h2, h3, h4, p1, p2, p3, p4, p5⟩ | ⟨h1, h2, h3, p1, p2, p3, p4, p5⟩ | ⟨h1, h2, h3, p1, p2, p3, p4, p5⟩ | ⟨h1, h2, h3, p1, p2, p3, p4, p5⟩ | ⟨h1, h2, h3, h4, p1, p2, p3, p4, p5⟩ | ⟨h1, h2, h3, h4, p1, p2, p3, p4, p5⟩ | ⟨h1, h2, h3, p1, p2, p3, p4, p5⟩ | ⟨h1, h2, h3, p1, p2, p3, p4, p5⟩
  all_goals simp only at *
  · subst h1 h2 p1 p2 p3 p4 p5; obtain ⟨m, rfl⟩ : ∃ m : Nat, n = (m : Int) := ⟨n.toNat, by omega⟩; exact get_1 m (by omega) w
  · subst h1 h3 p1 p2 p3 p4 p5; obtain ⟨m, rfl⟩ : ∃ m : Nat, sd = (m : Int) := ⟨sd.toNat, by omega⟩; exact get_2 m (by omega) w
  · subst h1 h2 h3 p5
    obtain ⟨u, rfl⟩ : ∃ u : Nat, t = (u : Int) := ⟨t.toNat, by omega⟩
    obtain ⟨cn, rfl⟩ : ∃ u : Nat, c = (u : Int) := ⟨c.toNat, by omega⟩
    obtain ⟨fn, rfl⟩ : ∃ u : Nat, f = (u : Int) := ⟨f.toNat, by omega⟩
    exact get_3 cn fn u d (by omega) (by omega) (by omega) p4 w
  · subst h1 h3 p1 p2 p3 p4 p5; obtain ⟨m, rfl⟩ : ∃ m : Nat, sd = (m : Int) := ⟨sd.toNat, by omega⟩; exact get_4 m (by omega) w
  · subst h1 h2 p1 p2 p3 p4 p5; obtain ⟨m, rfl⟩ : ∃ m : Nat, n = (m : Int) := ⟨n.toNat, by omega⟩; exact get_5 m (by omega) w
  · subst h1 p1 p2 p3 p4 p5
    obtain ⟨m, rfl⟩ : ∃ m : Nat, n = (m : Int) := ⟨n.toNat, by omega⟩
    obtain ⟨q, rfl⟩ : ∃ m : Nat, sd = (m : Int) := ⟨sd.toNat, by omega⟩
    exact get_6 q m (by omega) (by omega) (by omega) w
  · subst h1 h2 h3 p1 p2 p3 p4 p5; exact get_7 w
  · subst h1 h2 h3 p1 p2 p3 p4 p5; exact get_8 w

end Go.Proofs.YtnjcenbmdcogpaaGreatDoor.Sp
