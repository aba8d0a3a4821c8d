import Derived.WalkKit
import Derived.Laws.BitsAllLaws
import Derived.Test.YtdljphbfbiganaaGreatDoorGBuilder
import Derived.Ground.NamesProg
import Derived.Shelf.Lays
import Derived.Shelf.Strings.OnBuilder
import Derived.Test.YtdljphbfbiganaaGreatDoorGCommon
import Derived.Shelf.Strings.Repeat
import Derived.Test.YtdljphbfbiganaaGreatDoorRows
import Derived.WalkSpells
import Derived.WalkLawsBesides
import Derived.BigQuiet
import Derived.Lib.Hide
import Derived.Outline
import Derived.Deep.QuietTactic
import Derived.Below
/- The mathematics of SHA-256, over words of 32 bits: what a block's words are, what a round and a block make of a state; how the model's arithmetic on uint32 reads. -/
namespace Go.Proofs.YtdljphbfbiganaaGreatDoor.Sha
open Go Go.RowKit

abbrev W := BitVec 32
def wv (x : W) : Value := .int .u32 (x.toNat : Int)

theorem lt32 (x : W) : x.toNat < 4294967296 := x.isLt
theorem xor_w (x y : W) : bits .xor .u32 (x.toNat : Int) (y.toNat : Int) = ((x ^^^ y).toNat : Int) := by rw [u32_xor_nat _ _ (lt32 x) (lt32 y), BitVec.toNat_xor]
theorem and_w (x y : W) : bits .and .u32 (x.toNat : Int) (y.toNat : Int) = ((x &&& y).toNat : Int) := by rw [u32_and_nat _ _ (lt32 x) (lt32 y), BitVec.toNat_and]
theorem or_w (x y : W) : bits .or .u32 (x.toNat : Int) (y.toNat : Int) = ((x ||| y).toNat : Int) := by rw [u32_or_nat _ _ (lt32 x) (lt32 y), BitVec.toNat_or]
theorem add_w (x y : W) : IntKind.u32.wrap ((x.toNat : Int) + (y.toNat : Int)) = ((x + y).toNat : Int) := by
  rw [IntKind.wrap_u32', BitVec.toNat_add]; omega
theorem shr_w (x : W) (n : Nat) : (x.toNat : Int) / ((2 ^ n : Nat) : Int) = ((x >>> n).toNat : Int) := by
  rw [BitVec.toNat_ushiftRight, Nat.shiftRight_eq_div_pow]; rfl
theorem not_w (x : W) : (4294967295 : Int) - (x.toNat : Int) = ((~~~x).toNat : Int) := by
  rw [BitVec.toNat_not]; have := lt32 x; omega

/-- a word turned right by n -/
def rot (x : W) (n : Nat) : W := x >>> n ||| x <<< (32 - n)
theorem rot_nat (x : W) (n : Nat) (hn : n ≤ 32) : (rot x n).toNat = x.toNat / 2 ^ n + x.toNat % 2 ^ n * 2 ^ (32 - n) := by
  have hp : 2 ^ n * 2 ^ (32 - n) = 4294967296 := by rw [← Nat.pow_add, show n + (32 - n) = 32 by omega]
  have hpos : 0 < 2 ^ (32 - n) := Nat.pow_pos (by decide)
  have hl : x.toNat * 2 ^ (32 - n) % 4294967296 = x.toNat % 2 ^ n * 2 ^ (32 - n) := by
    rw [← hp, Nat.mul_mod_mul_right]
  have hq : x.toNat / 2 ^ n < 2 ^ (32 - n) := by
    rw [Nat.div_lt_iff_lt_mul (Nat.pow_pos (by decide)), Nat.mul_comm, hp]; exact lt32 x
  unfold rot
  rw [BitVec.toNat_or, BitVec.toNat_ushiftRight, BitVec.toNat_shiftLeft, Nat.shiftRight_eq_div_pow, Nat.shiftLeft_eq]
  rw [show (2 ^ 32 : Nat) = 4294967296 from rfl, hl, Nat.or_comm, ← Nat.shiftLeft_eq, ← Nat.shiftLeft_add_eq_or_of_lt hq, Nat.shiftLeft_eq, Nat.add_comm]

structure St where
  a : W
  b : W
  c : W
  d : W
  e : W
  f : W
  g : W
  h : W
def St.list (s : St) : List W := [s.a, s.b, s.c, s.d, s.e, s.f, s.g, s.h]
def St.cells (s : St) : List Value := s.list.map wv
def St.add (s t : St) : St := ⟨s.a + t.a, s.b + t.b, s.c + t.c, s.d + t.d, s.e + t.e, s.f + t.f, s.g + t.g, s.h + t.h⟩

def big0 (x : W) : W := rot x 2 ^^^ rot x 13 ^^^ rot x 22
def big1 (x : W) : W := rot x 6 ^^^ rot x 11 ^^^ rot x 25
def small0 (x : W) : W := rot x 7 ^^^ rot x 18 ^^^ x >>> 3
def small1 (x : W) : W := rot x 17 ^^^ rot x 19 ^^^ x >>> 10
def chosen (e f g : W) : W := e &&& f ^^^ ~~~e &&& g
def most (a b c : W) : W := a &&& b ^^^ a &&& c ^^^ b &&& c

/-- what a state becomes by the sum of a constant and a word -/
def round (s : St) (x : W) : St :=
  let t1 := s.h + big1 s.e + chosen s.e s.f s.g + x
  ⟨t1 + (big0 s.a + most s.a s.b s.c), s.a, s.b, s.c, s.d + t1, s.e, s.f, s.g⟩

def word (l : List UInt8) (t : Nat) : W :=
  BitVec.ofNat 32 ((l.getD (4 * t) 0).toNat * 16777216 + (l.getD (4 * t + 1) 0).toNat * 65536 + (l.getD (4 * t + 2) 0).toNat * 256 + (l.getD (4 * t + 3) 0).toNat)
/-- the first n words of a block -/
def next (w : List W) : W := small1 (w.getD (w.length - 2) 0) + w.getD (w.length - 7) 0 + small0 (w.getD (w.length - 15) 0) + w.getD (w.length - 16) 0
def words (l : List UInt8) : Nat → List W
  | 0 => []
  | t + 1 => let w := words l t; w ++ [if t < 16 then word l t else next w]
theorem words_len (l : List UInt8) : ∀ n, (words l n).length = n
  | 0 => rfl
  | n + 1 => by simp [words, words_len l n]
theorem words_at (l : List UInt8) (n t : Nat) (h : t < n) : (words l n).getD t 0 = if t < 16 then word l t else next (words l t) := by
  induction n with
  | zero => omega
  | succ n ih =>
    show ((words l n) ++ [if n < 16 then word l n else next (words l n)]).getD t 0 = _
    rcases Nat.lt_or_eq_of_le (Nat.le_of_lt_succ h) with h1 | rfl
    · rw [← ih h1, List.getD_eq_getElem?_getD, List.getElem?_append_left (by rw [words_len]; exact h1), List.getD_eq_getElem?_getD]
    · rw [List.getD_eq_getElem?_getD, List.getElem?_append_right (by rw [words_len]; exact Nat.le_refl _), words_len]; simp

def constL : List Nat := [1116352408, 1899447441, 3049323471, 3921009573, 961987163, 1508970993, 2453635748, 2870763221, 3624381080, 310598401, 607225278, 1426881987, 1925078388, 2162078206, 2614888103, 3248222580, 3835390401, 4022224774, 264347078, 604807628, 770255983, 1249150122, 1555081692, 1996064986, 2554220882, 2821834349, 2952996808, 3210313671, 3336571891, 3584528711, 113926993, 338241895, 666307205, 773529912, 1294757372, 1396182291, 1695183700, 1986661051, 2177026350, 2456956037, 2730485921, 2820302411, 3259730800, 3345764771, 3516065817, 3600352804, 4094571909, 275423344, 430227734, 506948616, 659060556, 883997877, 958139571, 1322822218, 1537002063, 1747873779, 1955562222, 2024104815, 2227730452, 2361852424, 2428436474, 2756734187, 3204031479, 3329325298]
def const (t : Nat) : W := BitVec.ofNat 32 (constL.getD t 0)
/-- a state behind n rounds -/
def rounds (l : List UInt8) (s : St) : Nat → St
  | 0 => s
  | n + 1 => round (rounds l s n) (const n + (words l 64).getD n 0)
def turn (s : St) (l : List UInt8) : St := s.add (rounds l s 64)
def start : St := ⟨1779033703, 3144134277, 1013904242, 2773480762, 1359893119, 2600822924, 528734635, 1541459225⟩
end Go.Proofs.YtdljphbfbiganaaGreatDoor.Sha
/- strings.Join of the shelf, laid. -/
namespace Go.Proofs.YtdljphbfbiganaaGreatDoor.Sha
open Go Go.RowKit Go.Shelf Go.Lib
def laysJoin_ren : Go.Shelf.Ren := ⟨fun | 156 => 46 | 165 => 60 | 166 => 61 | 169 => 62 | 240 => 72 | 241 => 73 | 276 => 90 | 277 => 91 | n => n, fun | 31 => 82 | 9 => 9 | 3 => 3 | 4 => 4 | 0 => 0 | 20 => 20 | 72 => 98 | 76 => 102 | 70 => 96 | 37 => 81 | 75 => 101 | 127 => 116 | 164 => 133 | 5 => 5 | 80 => 104 | n => n, fun | n => n⟩
theorem laysJoin : Go.Proofs.Lays.n156 Tryz.prog laysJoin_ren := {
  mixed := by kernel_rfl
  f156 := Tryz.func46.trans (congrArg some (by kernel_rfl))
  f165 := Tryz.func60.trans (congrArg some (by kernel_rfl))
  f166 := Tryz.func61.trans (congrArg some (by kernel_rfl))
  f169 := Tryz.func62.trans (congrArg some (by kernel_rfl))
  f240 := Tryz.func72.trans (congrArg some (by kernel_rfl))
  f241 := Tryz.func73.trans (congrArg some (by kernel_rfl))
  f276 := Tryz.func90.trans (congrArg some (by kernel_rfl))
  f277 := Tryz.func91.trans (congrArg some (by kernel_rfl))
  t0 := Tryz.underlying0
  a0 := Tryz.isAgg0
  z0 := Tryz.sizeOf0
  v0 := Tryz.zeroValue0
  t3 := Tryz.underlying3
  a3 := Tryz.isAgg3
  z3 := Tryz.sizeOf3
  v3 := Tryz.zeroValue3
  t4 := Tryz.underlying4
  a4 := Tryz.isAgg4
  z4 := Tryz.sizeOf4
  v4 := Tryz.zeroValue4
  t9 := Tryz.underlying9
  a9 := Tryz.isAgg9
  z9 := Tryz.sizeOf9
  v9 := Tryz.zeroValue9
  t20 := Tryz.underlying20
  a20 := Tryz.isAgg20
  z20 := Tryz.sizeOf20
  v20 := Tryz.zeroValue20
  t31 := Tryz.underlying82
  a31 := Tryz.isAgg82
  z31 := Tryz.sizeOf82
  v31 := Tryz.zeroValue82
  t37 := Tryz.underlying81
  a37 := Tryz.isAgg81
  z37 := Tryz.sizeOf81
  v37 := Tryz.zeroValue81
  t70 := Tryz.underlying96
  a70 := Tryz.isAgg96
  z70 := Tryz.sizeOf96
  v70 := Tryz.zeroValue96
  t72 := Tryz.underlying98
  a72 := Tryz.isAgg98
  z72 := Tryz.sizeOf98
  v72 := Tryz.zeroValue98
  t75 := Tryz.underlying101
  a75 := Tryz.isAgg101
  z75 := Tryz.sizeOf101
  v75 := Tryz.zeroValue101
  t76 := Tryz.underlying102
  a76 := Tryz.isAgg102
  z76 := Tryz.sizeOf102
  v76 := Tryz.zeroValue102
  t127 := Tryz.underlying116
  a127 := Tryz.isAgg116
  z127 := Tryz.sizeOf116
  v127 := Tryz.zeroValue116
  t164 := Tryz.underlying133
  a164 := Tryz.isAgg133
  z164 := Tryz.sizeOf133
  v164 := Tryz.zeroValue133 }
theorem extraJoin : Go.Proofs.Builder.Extra Tryz.prog laysJoin_ren := {
  sizeBuilder := by kernel_rfl
  liesBuilder := by kernel_rfl
  t5 := Tryz.underlying5
  a5 := Tryz.isAgg5
  z5 := Tryz.sizeOf5
  v5 := Tryz.zeroValue5
  infoByte := by kernel_rfl
  cellsByte := by kernel_rfl
  sizeByte := by kernel_rfl
  neB5 := by decide }

end Go.Proofs.YtdljphbfbiganaaGreatDoor.Sha
/- strings.Repeat, strings.Join: the shelf's contracts laid at this program. -/
namespace Go.Proofs.YtdljphbfbiganaaGreatDoor.Sha
open Go Go.RowKit Go.Shelf Go.Lib
theorem repeatL_one (n : Nat) : Lib.repeatL [0] n = List.replicate n (0 : UInt8) := by
  induction n with
  | zero => rfl
  | succ n ih => rw [List.replicate_succ, ← ih]; rfl
theorem repeat_any (n : Nat) (h : n ≤ 63) (w : World) : Calls Tryz.prog 63 #[.string ⟨#[0]⟩, .int .i64 (n : Int)] w fun e w' => e = .returned (.string ⟨(List.replicate n (0 : UInt8)).toArray⟩) ∧ Below w.heap.size w w' := by
  have := Any.strings_Repeat laysRepeat extraRepeat ⟨#[0]⟩ n w (by omega) (by show 1 * n ≤ _; omega)
  rw [show (⟨#[0]⟩ : ByteArray).data.toList = [0] from rfl, repeatL_one] at this
  exact this
end Go.Proofs.YtdljphbfbiganaaGreatDoor.Sha
/- A word turned: sha.right at each number that the program hands it, and the page's turned, power. -/
namespace Go.Proofs.YtdljphbfbiganaaGreatDoor.Sha
open Go.RowKit

theorem rot_prog (x : W) (n m : Nat) (hn : n + m = 32) (p : Int) (hp : p = ((2 ^ m : Nat) : Int)) (r : Int) (hr : r = ((2 ^ n : Nat) : Int)) :
    bits .or .u32 (IntKind.u32.wrap ((x.toNat : Int) * p)) ((x.toNat : Int) / r) = ((rot x n).toNat : Int) := by
  have h1 : IntKind.u32.wrap ((x.toNat : Int) * p) = ((x <<< m).toNat : Int) := by
    rw [IntKind.wrap_u32', hp, BitVec.toNat_shiftLeft, Nat.shiftLeft_eq]; rfl
  rw [h1, hr, shr_w, or_w]
  have : rot x n = x <<< m ||| x >>> n := by unfold rot; rw [show 32 - n = m by omega, BitVec.or_comm]
  rw [this]

set_option maxHeartbeats 400000 in
theorem right_2 (x : W) (w : World) : Calls Tryz.prog 77 #[.int .u32 (x.toNat : Int), .int .i64 2] w fun e w' => e = .returned (.int .u32 ((rot x 2).toNat : Int)) ∧ w' = w := by
  have hx := lt32 x
  have h := rot_prog x 2 30 rfl 1073741824 rfl 4 rfl
  have H := Lib.hid h; clear h
  have hs : bits BinOp.and IntKind.u64 (IntKind.u64.wrap (-2)) 31 = 30 := by decide
  go_enter Tryz.func77, Tryz.ntmps77
  go_wp2
  go_ret
  exact ⟨congrArg (fun n => Ending.returned (.int .u32 n)) H.out, rfl⟩

set_option maxHeartbeats 400000 in
theorem right_6 (x : W) (w : World) : Calls Tryz.prog 77 #[.int .u32 (x.toNat : Int), .int .i64 6] w fun e w' => e = .returned (.int .u32 ((rot x 6).toNat : Int)) ∧ w' = w := by
  have hx := lt32 x
  have h := rot_prog x 6 26 rfl 67108864 rfl 64 rfl
  have H := Lib.hid h; clear h
  have hs : bits BinOp.and IntKind.u64 (IntKind.u64.wrap (-6)) 31 = 26 := by decide
  go_enter Tryz.func77, Tryz.ntmps77
  go_wp2
  go_ret
  exact ⟨congrArg (fun n => Ending.returned (.int .u32 n)) H.out, rfl⟩

set_option maxHeartbeats 400000 in
theorem right_7 (x : W) (w : World) : Calls Tryz.prog 77 #[.int .u32 (x.toNat : Int), .int .i64 7] w fun e w' => e = .returned (.int .u32 ((rot x 7).toNat : Int)) ∧ w' = w := by
  have hx := lt32 x
  have h := rot_prog x 7 25 rfl 33554432 rfl 128 rfl
  have H := Lib.hid h; clear h
  have hs : bits BinOp.and IntKind.u64 (IntKind.u64.wrap (-7)) 31 = 25 := by decide
  go_enter Tryz.func77, Tryz.ntmps77
  go_wp2
  go_ret
  exact ⟨congrArg (fun n => Ending.returned (.int .u32 n)) H.out, rfl⟩

set_option maxHeartbeats 400000 in
theorem right_11 (x : W) (w : World) : Calls Tryz.prog 77 #[.int .u32 (x.toNat : Int), .int .i64 11] w fun e w' => e = .returned (.int .u32 ((rot x 11).toNat : Int)) ∧ w' = w := by
  have hx := lt32 x
  have h := rot_prog x 11 21 rfl 2097152 rfl 2048 rfl
  have H := Lib.hid h; clear h
  have hs : bits BinOp.and IntKind.u64 (IntKind.u64.wrap (-11)) 31 = 21 := by decide
  go_enter Tryz.func77, Tryz.ntmps77
  go_wp2
  go_ret
  exact ⟨congrArg (fun n => Ending.returned (.int .u32 n)) H.out, rfl⟩

set_option maxHeartbeats 400000 in
theorem right_13 (x : W) (w : World) : Calls Tryz.prog 77 #[.int .u32 (x.toNat : Int), .int .i64 13] w fun e w' => e = .returned (.int .u32 ((rot x 13).toNat : Int)) ∧ w' = w := by
  have hx := lt32 x
  have h := rot_prog x 13 19 rfl 524288 rfl 8192 rfl
  have H := Lib.hid h; clear h
  have hs : bits BinOp.and IntKind.u64 (IntKind.u64.wrap (-13)) 31 = 19 := by decide
  go_enter Tryz.func77, Tryz.ntmps77
  go_wp2
  go_ret
  exact ⟨congrArg (fun n => Ending.returned (.int .u32 n)) H.out, rfl⟩

set_option maxHeartbeats 400000 in
theorem right_17 (x : W) (w : World) : Calls Tryz.prog 77 #[.int .u32 (x.toNat : Int), .int .i64 17] w fun e w' => e = .returned (.int .u32 ((rot x 17).toNat : Int)) ∧ w' = w := by
  have hx := lt32 x
  have h := rot_prog x 17 15 rfl 32768 rfl 131072 rfl
  have H := Lib.hid h; clear h
  have hs : bits BinOp.and IntKind.u64 (IntKind.u64.wrap (-17)) 31 = 15 := by decide
  go_enter Tryz.func77, Tryz.ntmps77
  go_wp2
  go_ret
  exact ⟨congrArg (fun n => Ending.returned (.int .u32 n)) H.out, rfl⟩

set_option maxHeartbeats 400000 in
theorem right_18 (x : W) (w : World) : Calls Tryz.prog 77 #[.int .u32 (x.toNat : Int), .int .i64 18] w fun e w' => e = .returned (.int .u32 ((rot x 18).toNat : Int)) ∧ w' = w := by
  have hx := lt32 x
  have h := rot_prog x 18 14 rfl 16384 rfl 262144 rfl
  have H := Lib.hid h; clear h
  have hs : bits BinOp.and IntKind.u64 (IntKind.u64.wrap (-18)) 31 = 14 := by decide
  go_enter Tryz.func77, Tryz.ntmps77
  go_wp2
  go_ret
  exact ⟨congrArg (fun n => Ending.returned (.int .u32 n)) H.out, rfl⟩

set_option maxHeartbeats 400000 in
theorem right_19 (x : W) (w : World) : Calls Tryz.prog 77 #[.int .u32 (x.toNat : Int), .int .i64 19] w fun e w' => e = .returned (.int .u32 ((rot x 19).toNat : Int)) ∧ w' = w := by
  have hx := lt32 x
  have h := rot_prog x 19 13 rfl 8192 rfl 524288 rfl
  have H := Lib.hid h; clear h
  have hs : bits BinOp.and IntKind.u64 (IntKind.u64.wrap (-19)) 31 = 13 := by decide
  go_enter Tryz.func77, Tryz.ntmps77
  go_wp2
  go_ret
  exact ⟨congrArg (fun n => Ending.returned (.int .u32 n)) H.out, rfl⟩

set_option maxHeartbeats 400000 in
theorem right_22 (x : W) (w : World) : Calls Tryz.prog 77 #[.int .u32 (x.toNat : Int), .int .i64 22] w fun e w' => e = .returned (.int .u32 ((rot x 22).toNat : Int)) ∧ w' = w := by
  have hx := lt32 x
  have h := rot_prog x 22 10 rfl 1024 rfl 4194304 rfl
  have H := Lib.hid h; clear h
  have hs : bits BinOp.and IntKind.u64 (IntKind.u64.wrap (-22)) 31 = 10 := by decide
  go_enter Tryz.func77, Tryz.ntmps77
  go_wp2
  go_ret
  exact ⟨congrArg (fun n => Ending.returned (.int .u32 n)) H.out, rfl⟩

set_option maxHeartbeats 400000 in
theorem right_25 (x : W) (w : World) : Calls Tryz.prog 77 #[.int .u32 (x.toNat : Int), .int .i64 25] w fun e w' => e = .returned (.int .u32 ((rot x 25).toNat : Int)) ∧ w' = w := by
  have hx := lt32 x
  have h := rot_prog x 25 7 rfl 128 rfl 33554432 rfl
  have H := Lib.hid h; clear h
  have hs : bits BinOp.and IntKind.u64 (IntKind.u64.wrap (-25)) 31 = 7 := by decide
  go_enter Tryz.func77, Tryz.ntmps77
  go_wp2
  go_ret
  exact ⟨congrArg (fun n => Ending.returned (.int .u32 n)) H.out, rfl⟩

theorem right_any (x : W) (n : Int) (w : World) (h : n = 2 ∨ n = 6 ∨ n = 7 ∨ n = 11 ∨ n = 13 ∨ n = 17 ∨ n = 18 ∨ n = 19 ∨ n = 22 ∨ n = 25) : Calls Tryz.prog 77 #[.int .u32 (x.toNat : Int), .int .i64 n] w fun e w' => e = .returned (.int .u32 ((rot x n.toNat).toNat : Int)) ∧ w' = w := by
  rcases h with rfl | rfl | rfl | rfl | rfl | rfl | rfl | rfl | rfl | rfl
  · exact right_2 x w
  · exact right_6 x w
  · exact right_7 x w
  · exact right_11 x w
  · exact right_13 x w
  · exact right_17 x w
  · exact right_18 x w
  · exact right_19 x w
  · exact right_22 x w
  · exact right_25 x w
end Go.Proofs.YtdljphbfbiganaaGreatDoor.Sha
/- A round of the program: what a state becomes by the sum of a constant and a word. -/
namespace Go.Proofs.YtdljphbfbiganaaGreatDoor.Sha
open Go.RowKit

theorem quiet_add_same {P : Program} {f : FuncId} {args : Array Value} {w : World} {a n : Nat} {v : Value}
    (h : Calls P f args (w.drewN (a + n)) fun e w' => e = .returned v ∧ w' = w.drewN (a + n)) :
    Calls P f args (w.drewN (a + n)) fun e w'' => e = .returned v ∧ ∃ m, w'' = w.drewN (a + m) :=
  h.mono fun _ _ ⟨he, hm⟩ => ⟨he, n, hm⟩

theorem below_drewN {B : Nat} {a w : World} (h : Below B a w) (n : Nat) : Below B a (w.drewN n) := ⟨h.os, h.tape, h.output, h.size, h.block⟩
theorem last_alloc (w : World) (o o' : Obj) (n : Nat) : (((w.alloc o).alloc o').drewN n).heap[w.heap.size + 1]? = some o' := by
  have h : w.heap.size + 1 = (w.alloc o).heap.size := by simp
  rw [h]
  exact Array.getElem?_push_size
theorem cell_blk {w : World} {g : Nat} {cs : Array Value} {t : TypeId} (h : w.heap[g]? = some (.cells cs t (0, 0))) (i : Nat) : w.cell? ⟨g, i, none⟩ = cs[i]? := cell_of_row w g i cs t (0, 0) h
theorem free_blk {w : World} {g : Nat} {cs : Array Value} {t : TypeId} (h : w.heap[g]? = some (.cells cs t (0, 0))) (i : Nat) : w.frozen? ⟨g, i, none⟩ = false := by simp [World.frozen?, h]
def St.arr (s : St) : Array Value := #[wv s.a, wv s.b, wv s.c, wv s.d, wv s.e, wv s.f, wv s.g, wv s.h]

theorem xor_u (x : W) : bits .xor .u32 IntKind.u32.max (x.toNat : Int) = ((~~~x).toNat : Int) := by
  have h := xor_w (BitVec.allOnes 32) x
  rw [BitVec.allOnes_xor] at h
  exact h
theorem sum6 (a b c d e f : W) : ((a.toNat : Int) + b.toNat + c.toNat + d.toNat + (e.toNat + f.toNat)) % 4294967296 = ((a + b + c + d + (e + f)).toNat : Int) := by
  simp only [BitVec.toNat_add]; omega
theorem sum5 (a b c d e : W) : ((e.toNat : Int) + ((a.toNat : Int) + b.toNat + c.toNat + d.toNat)) % 4294967296 = ((e + (a + b + c + d)).toNat : Int) := by
  simp only [BitVec.toNat_add]; omega

set_option maxRecDepth 100000 in
set_option maxHeartbeats 300000 in
theorem round_any (a b c d e f g q x : W) (w : World) :
    Calls Tryz.prog 65 #[.agg #[.int .u32 (a.toNat : Int), .int .u32 (b.toNat : Int), .int .u32 (c.toNat : Int), .int .u32 (d.toNat : Int), .int .u32 (e.toNat : Int), .int .u32 (f.toNat : Int), .int .u32 (g.toNat : Int), .int .u32 (q.toNat : Int)], .int .u32 (x.toNat : Int)] w
      fun r w' => r = .returned (.agg (round ⟨a, b, c, d, e, f, g, q⟩ x).arr) ∧ Below w.heap.size w w' := by
  have hsg : IntKind.u32.signed = false := rfl
  go_enter Tryz.func65, Tryz.ntmps65
  go_wp2_with fail
  go_quiet (fail)
  obtain ⟨W, hW⟩ : ∃ W, W = ((w.alloc (.cells #[.int .u32 (a.toNat : Int), .int .u32 (b.toNat : Int), .int .u32 (c.toNat : Int), .int .u32 (d.toNat : Int), .int .u32 (e.toNat : Int), .int .u32 (f.toNat : Int), .int .u32 (g.toNat : Int), .int .u32 (q.toNat : Int)] 86)).alloc (.cells #[.int .u32 0, .int .u32 0, .int .u32 0, .int .u32 0, .int .u32 0, .int .u32 0, .int .u32 0, .int .u32 0] 86)).drewN nq := ⟨_, rfl⟩
  rw [← hW]
  have hc3 : W.cell? ⟨w.heap.size, 3, none⟩ = some (.int .u32 (d.toNat : Int)) := by rw [hW]; go_simp
  have hc7 : W.cell? ⟨w.heap.size, 7, none⟩ = some (.int .u32 (q.toNat : Int)) := by rw [hW]; go_simp
  have hB : Below w.heap.size w W := by rw [hW]; exact below_drewN (((Below.refl _ _).alloc (Nat.le_refl _) _).alloc (by simp) _) nq
  have hS : W.heap[w.heap.size + 1]? = some (.cells #[.int .u32 0, .int .u32 0, .int .u32 0, .int .u32 0, .int .u32 0, .int .u32 0, .int .u32 0, .int .u32 0] 86 (0, 0)) := by rw [hW]; exact last_alloc _ _ _ _
  have hz : w.heap.size + 1 < W.heap.size := by rw [hW]; simp
  clear hW
  have HS := Lib.hid hS; clear hS
  go_wp2_with fail
  go_quiet ((go_at_call 77; exact Calls.quiet_of_same (right_any _ _ _ (by decide))))
  obtain ⟨W1, hW⟩ : ∃ W1, W1 = W.drewN nq := ⟨_, rfl⟩
  rw [← hW]
  have hc3' : W1.cell? ⟨w.heap.size, 3, none⟩ = some (.int .u32 (d.toNat : Int)) := by rw [hW]; exact hc3
  have hB' : Below w.heap.size w W1 := by rw [hW]; exact below_drewN hB _
  have hS' : W1.heap[w.heap.size + 1]? = some (.cells #[.int .u32 0, .int .u32 0, .int .u32 0, .int .u32 0, .int .u32 0, .int .u32 0, .int .u32 0, .int .u32 0] 86 (0, 0)) := by rw [hW]; exact HS.out
  have hz' : w.heap.size + 1 < W1.heap.size := by rw [hW]; exact hz
  clear hW hc3 hc7 hB hz HS
  have c0 := cell_blk hS' 0
  have f0 := free_blk hS' 0
  have c1 := cell_blk hS' 1
  have f1 := free_blk hS' 1
  have c2 := cell_blk hS' 2
  have f2 := free_blk hS' 2
  have c3 := cell_blk hS' 3
  have f3 := free_blk hS' 3
  have c4 := cell_blk hS' 4
  have f4 := free_blk hS' 4
  have c5 := cell_blk hS' 5
  have f5 := free_blk hS' 5
  have c6 := cell_blk hS' 6
  have f6 := free_blk hS' 6
  have c7 := cell_blk hS' 7
  have f7 := free_blk hS' 7
  clear hS'
  simp only [List.getElem?_toArray, List.getElem?_cons_zero, List.getElem?_cons_succ] at c0 c1 c2 c3 c4 c5 c6 c7
  go_wp2_with (go_at_call 77; refine (right_any _ _ _ (by decide)).mono ?_; rintro _ _ ⟨rfl, hw⟩; obtain rfl := hw.symm)
  simp only [xor_u, xor_w, and_w, sum6, sum5]
  generalize hA : q + (rot e 6 ^^^ rot e 11 ^^^ rot e 25) + (e &&& f ^^^ ~~~e &&& g) + x + ((rot a 2 ^^^ rot a 13 ^^^ rot a 22) + (a &&& b ^^^ a &&& c ^^^ b &&& c)) = A
  generalize hE : d + (q + (rot e 6 ^^^ rot e 11 ^^^ rot e 25) + (e &&& f ^^^ ~~~e &&& g) + x) = E
  have hr : (round ⟨a, b, c, d, e, f, g, q⟩ x).arr = #[.int .u32 (A.toNat : Int), .int .u32 (a.toNat : Int), .int .u32 (b.toNat : Int), .int .u32 (c.toNat : Int), .int .u32 (E.toNat : Int), .int .u32 (e.toNat : Int), .int .u32 (f.toNat : Int), .int .u32 (g.toNat : Int)] := by rw [← hA, ← hE]; rfl
  rw [hr]
  clear hr hA hE
  refine bodyPost_ret (v := .agg #[.int .u32 (A.toNat : Int), .int .u32 (a.toNat : Int), .int .u32 (b.toNat : Int), .int .u32 (c.toNat : Int), .int .u32 (E.toNat : Int), .int .u32 (e.toNat : Int), .int .u32 (f.toNat : Int), .int .u32 (g.toNat : Int)]) ?_ rfl ⟨rfl, ?_⟩
  · simp [results, Tryz.results65, go_sem, c0, c1, c2, c3, c4, c5, c6, c7]
  · refine Below.setCell ?_ (by show w.heap.size ≤ w.heap.size + 1; omega) _
    refine Below.setCell ?_ (by show w.heap.size ≤ w.heap.size + 1; omega) _
    refine Below.setCell ?_ (by show w.heap.size ≤ w.heap.size + 1; omega) _
    refine Below.setCell ?_ (by show w.heap.size ≤ w.heap.size + 1; omega) _
    refine Below.setCell ?_ (by show w.heap.size ≤ w.heap.size + 1; omega) _
    refine Below.setCell ?_ (by show w.heap.size ≤ w.heap.size + 1; omega) _
    refine Below.setCell ?_ (by show w.heap.size ≤ w.heap.size + 1; omega) _
    refine Below.setCell ?_ (by show w.heap.size ≤ w.heap.size + 1; omega) _
    exact hB'
end Go.Proofs.YtdljphbfbiganaaGreatDoor.Sha
