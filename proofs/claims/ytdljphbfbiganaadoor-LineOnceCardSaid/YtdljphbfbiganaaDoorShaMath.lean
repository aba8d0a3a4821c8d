/- The mathematics of SHA-256, over words of 32 bits: what a block's words are, what a round and a block make of a state; how the model's arithmetic on uint32 reads. -/
import Derived.WalkKit
import Derived.Laws.BitsAllLaws
namespace Go.Proofs.YtdljphbfbiganaaDoor.Sha
open Go Go.RowKit

abbrev W := BitVec 32
def wv (x : W) : Value := .int .u32 (x.toNat : Int)

theorem lt32 (x : W) : x.toNat < 4294967296 := x.isLt
theorem xor_w (x y : W) : bits .xor .u32 (x.toNat : Int) (y.toNat : Int) = ((x ^^^ y).toNat : Int) := by rw [u32_xor_nat _ _ (lt32 x) (lt32 y), BitVec.toNat_xor]
theorem and_w (x y : W) : bits .and .u32 (x.toNat : Int) (y.toNat : Int) = ((x &&& y).toNat : Int) := by rw [u32_and_nat _ _ (lt32 x) (lt32 y), BitVec.toNat_and]
theorem or_w (x y : W) : bits .or .u32 (x.toNat : Int) (y.toNat : Int) = ((x ||| y).toNat : Int) := by rw [u32_or_nat _ _ (lt32 x) (lt32 y), BitVec.toNat_or]
theorem add_w (x y : W) : IntKind.u32.wrap ((x.toNat : Int) + (y.toNat : Int)) = ((x + y).toNat : Int) := by
  rw [IntKind.wrap_u32', BitVec.toNat_add]; omega
theorem shr_w (x : W) (n : Nat) : (x.toNat : Int) / ((2 ^ n : Nat) : Int) = ((x >>> n).toNat : Int) := by
  rw [BitVec.toNat_ushiftRight, Nat.shiftRight_eq_div_pow]; rfl
theorem not_w (x : W) : (4294967295 : Int) - (x.toNat : Int) = ((~~~x).toNat : Int) := by
  rw [BitVec.toNat_not]; have := lt32 x; omega

/-- a word turned right by n -/
def rot (x : W) (n : Nat) : W := x >>> n ||| x <<< (32 - n)
theorem rot_nat (x : W) (n : Nat) (hn : n ≤ 32) : (rot x n).toNat = x.toNat / 2 ^ n + x.toNat % 2 ^ n * 2 ^ (32 - n) := by
  have hp : 2 ^ n * 2 ^ (32 - n) = 4294967296 := by rw [← Nat.pow_add, show n + (32 - n) = 32 by omega]
  have hpos : 0 < 2 ^ (32 - n) := Nat.pow_pos (by decide)
  have hl : x.toNat * 2 ^ (32 - n) % 4294967296 = x.toNat % 2 ^ n * 2 ^ (32 - n) := by
    rw [← hp, Nat.mul_mod_mul_right]
  have hq : x.toNat / 2 ^ n < 2 ^ (32 - n) := by
    rw [Nat.div_lt_iff_lt_mul (Nat.pow_pos (by decide)), Nat.mul_comm, hp]; exact lt32 x
  unfold rot
  rw [BitVec.toNat_or, BitVec.toNat_ushiftRight, BitVec.toNat_shiftLeft, Nat.shiftRight_eq_div_pow, Nat.shiftLeft_eq]
  rw [show (2 ^ 32 : Nat) = 4294967296 from rfl, hl, Nat.or_comm, ← Nat.shiftLeft_eq, ← Nat.shiftLeft_add_eq_or_of_lt hq, Nat.shiftLeft_eq, Nat.add_comm]

structure St where
  a : W
  b : W
  c : W
  d : W
  e : W
  f : W
  g : W
  h : W
def St.list (s : St) : List W := [s.a, s.b, s.c, s.d, s.e, s.f, s.g, s.h]
def St.cells (s : St) : List Value := s.list.map wv
def St.add (s t : St) : St := ⟨s.a + t.a, s.b + t.b, s.c + t.c, s.d + t.d, s.e + t.e, s.f + t.f, s.g + t.g, s.h + t.h⟩

def big0 (x : W) : W := rot x 2 ^^^ rot x 13 ^^^ rot x 22
def big1 (x : W) : W := rot x 6 ^^^ rot x 11 ^^^ rot x 25
def small0 (x : W) : W := rot x 7 ^^^ rot x 18 ^^^ x >>> 3
def small1 (x : W) : W := rot x 17 ^^^ rot x 19 ^^^ x >>> 10
def chosen (e f g : W) : W := e &&& f ^^^ ~~~e &&& g
def most (a b c : W) : W := a &&& b ^^^ a &&& c ^^^ b &&& c

/-- what a state becomes by the sum of a constant and a word -/
def round (s : St) (x : W) : St :=
  let t1 := s.h + big1 s.e + chosen s.e s.f s.g + x
  ⟨t1 + (big0 s.a + most s.a s.b s.c), s.a, s.b, s.c, s.d + t1, s.e, s.f, s.g⟩

def word (l : List UInt8) (t : Nat) : W :=
  BitVec.ofNat 32 ((l.getD (4 * t) 0).toNat * 16777216 + (l.getD (4 * t + 1) 0).toNat * 65536 + (l.getD (4 * t + 2) 0).toNat * 256 + (l.getD (4 * t + 3) 0).toNat)
/-- the first n words of a block -/
def next (w : List W) : W := small1 (w.getD (w.length - 2) 0) + w.getD (w.length - 7) 0 + small0 (w.getD (w.length - 15) 0) + w.getD (w.length - 16) 0
def words (l : List UInt8) : Nat → List W
  | 0 => []
  | t + 1 => let w := words l t; w ++ [if t < 16 then word l t else next w]
theorem words_len (l : List UInt8) : ∀ n, (words l n).length = n
  | 0 => rfl
  | n + 1 => by simp [words, words_len l n]
theorem words_at (l : List UInt8) (n t : Nat) (h : t < n) : (words l n).getD t 0 = if t < 16 then word l t else next (words l t) := by
  induction n with
  | zero => omega
  | succ n ih =>
    show ((words l n) ++ [if n < 16 then word l n else next (words l n)]).getD t 0 = _
    rcases Nat.lt_or_eq_of_le (Nat.le_of_lt_succ h) with h1 | rfl
    · rw [← ih h1, List.getD_eq_getElem?_getD, List.getElem?_append_left (by rw [words_len]; exact h1), List.getD_eq_getElem?_getD]
    · rw [List.getD_eq_getElem?_getD, List.getElem?_append_right (by rw [words_len]; exact Nat.le_refl _), words_len]; simp

def constL : List Nat := [1116352408, 1899447441, 3049323471, 3921009573, 961987163, 1508970993, 2453635748, 2870763221, 3624381080, 310598401, 607225278, 1426881987, 1925078388, 2162078206, 2614888103, 3248222580, 3835390401, 4022224774, 264347078, 604807628, 770255983, 1249150122, 1555081692, 1996064986, 2554220882, 2821834349, 2952996808, 3210313671, 3336571891, 3584528711, 113926993, 338241895, 666307205, 773529912, 1294757372, 1396182291, 1695183700, 1986661051, 2177026350, 2456956037, 2730485921, 2820302411, 3259730800, 3345764771, 3516065817, 3600352804, 4094571909, 275423344, 430227734, 506948616, 659060556, 883997877, 958139571, 1322822218, 1537002063, 1747873779, 1955562222, 2024104815, 2227730452, 2361852424, 2428436474, 2756734187, 3204031479, 3329325298]
def const (t : Nat) : W := BitVec.ofNat 32 (constL.getD t 0)
/-- a state behind n rounds -/
def rounds (l : List UInt8) (s : St) : Nat → St
  | 0 => s
  | n + 1 => round (rounds l s n) (const n + (words l 64).getD n 0)
def turn (s : St) (l : List UInt8) : St := s.add (rounds l s 64)
def start : St := ⟨1779033703, 3144134277, 1013904242, 2773480762, 1359893119, 2600822924, 528734635, 1541459225⟩
end Go.Proofs.YtdljphbfbiganaaDoor.Sha
