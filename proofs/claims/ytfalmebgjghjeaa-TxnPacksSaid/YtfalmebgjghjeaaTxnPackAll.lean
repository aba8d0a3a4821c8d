/- txn.Pack; what was packed is unpacked as it was. -/
import Derived.Test.YtfalmebgjghjeaaTxnPack
namespace Go.Proofs.Ytfalmebgjghjeaa.Msg
open Go Go.RowKit Num Texts
open _root_.Go.Proofs.Ytfalmebgjghjeaa.Rd (textR textsN listR R2 unpackR eachR getT getT_back text_back num_back ext_list Q4 keyP keyQ)

set_option maxRecDepth 20000 in
theorem wpack_full (A : Option Addr) (n c : Nat) (W : World) (h : 1024 < n) :
    Calls Try.prog 15 #[.slice A n c, .func (.func 12) #[] #[]] W fun e w' => e = .returned (.tuple #[.string ⟨#[]⟩, .int .i64 6]) ∧ Below W.heap.size W w' := by
  have hni : (1024 : Int) < (n : Int) := by omega
  go_enter Try.func15, Try.ntmps15
  go_wp2
  go_ret2
  exact ⟨rfl, Below.refl _ _⟩
set_option maxRecDepth 20000 in
theorem tpack_full (A : Option Addr) (n c : Nat) (W : World) (h : 1024 < n) :
    Calls Try.prog 7 #[.slice A n c] W fun e w' => e = .returned (.tuple #[.string ⟨#[]⟩, .int .i64 6]) ∧ Below W.heap.size W w' := by
  have HU := Lib.hid (fun V => wpack_full A n c V h)
  clear h
  go_enter Try.func7, Try.ntmps7
  go_wp2_with fail
  refine (HU.out _).mono ?_
  rintro _ w4 ⟨rfl, b4⟩
  go_wp2
  go_ret2
  exact ⟨rfl, b4⟩
set_option maxRecDepth 20000 in
theorem tpack_any (A : Option Addr) (n c : Nat) (qs : List T4) (W : World) (hr : RdX W A n qs) (hq : ∀ q ∈ qs, Rd W q.A q.len q.ms ∧ q.len ≤ 9223372036854775807 ∧ (0 ≤ q.n ∧ q.n < 18446744073709551616) ∧ ∀ m ∈ q.ms, m.wf) (hn : n ≤ 1024) :
    Calls Try.prog 7 #[.slice A n c] W fun e w' => e = .returned (.tuple #[.string (packS qs), .int .i64 (if allR qs then 0 else 1)]) ∧ Below W.heap.size W w' := by
  have HU := Lib.hid (wpack_any A n c qs W hr hq hn)
  obtain ⟨S, hS⟩ : ∃ S, S = packS qs := ⟨_, rfl⟩
  obtain ⟨E, hE⟩ : ∃ E : Int, E = if allR qs then 0 else 1 := ⟨_, rfl⟩
  rw [← hS, ← hE] at HU ⊢
  clear hr hq hS hE
  go_enter Try.func7, Try.ntmps7
  go_wp2_with fail
  refine HU.out.mono ?_
  rintro _ w4 ⟨rfl, b4⟩
  go_wp2
  go_ret2
  exact ⟨rfl, b4⟩

theorem texts_back : ∀ (ss : List ByteArray) (s rest : ByteArray), (∀ x ∈ ss, x.size ≤ 1600) → s.data.toList = textsL ss ++ rest.data.toList → textsN ss.length s = (ss, 0, rest)
  | [], s, rest, _, hs => by
    have : s = rest := ext_list (by rw [hs]; rfl)
    rw [this]; rfl
  | d :: ss, s, rest, h, hs => by
    have hd := h d (by simp)
    obtain ⟨r, hr⟩ : ∃ r : ByteArray, r.data.toList = textsL ss ++ rest.data.toList := ⟨⟨(textsL ss ++ rest.data.toList).toArray⟩, by simp⟩
    have h1 := text_back 18446744073709551615 s d r (by omega) (by omega) (by rw [hs, hr]; show (textL d ++ textsL ss) ++ _ = _; unfold textL; simp)
    have h2 := texts_back ss r rest (fun x hx => h x (by simp [hx])) hr
    show textsN (ss.length + 1) s = _
    rw [textsN, h1]
    dsimp only
    rw [if_neg (by simp), h2]
    dsimp only
    rw [if_neg (by simp)]
theorem list_back (m : Nat) (ss : List ByteArray) (h : ∀ x ∈ ss, x.size ≤ 1600) (hm : ss.length ≤ m) (hl : ss.length ≤ 1024) : listR m ⟨(listL ss).toArray⟩ = (ss, 0, ⟨#[]⟩) := by
  obtain ⟨r, hr⟩ : ∃ r : ByteArray, r.data.toList = textsL ss := ⟨⟨(textsL ss).toArray⟩, by simp⟩
  have h1 := num_back 18446744073709551615 ss.length ⟨(listL ss).toArray⟩ r (by omega) (by omega) (by rw [hr]; simp [listL])
  have h2 := texts_back ss r ⟨#[]⟩ h (by rw [hr]; simp)
  unfold listR
  rw [h1]
  dsimp only
  rw [if_neg (by simp), if_neg (by omega), h2]
def toQ (q : T4) : Q4 := (q.side.toNat, q.acc.toNat, q.n.toNat, q.ms)
theorem each_back : ∀ (qs : List T4) (i : Nat), (∀ q ∈ qs, tq q = true ∧ (0 ≤ q.n ∧ q.n < 18446744073709551616) ∧ ∀ m ∈ q.ms, m.wf) → eachR i (qs.map tbq) = (qs.map toQ, 0, 0)
  | [], i, _ => rfl
  | q :: qs, i, h => by
    obtain ⟨a, b, c⟩ := h q (by simp)
    have h1 := getT_back q.side q.acc q.n q.ms a b c
    have h2 := each_back qs (i + 1) (fun x hx => h x (by simp [hx]))
    show eachR i (tbq q :: qs.map tbq) = _
    rw [eachR, show getT (tbq q) = (toQ q, 0) from h1]
    dsimp only
    rw [if_neg (by simp), h2]
    dsimp only
    rw [if_neg (by simp)]
    rfl
theorem keyQ_toQ (q : T4) (h : tq q = true) (hn : 0 ≤ q.n) : keyQ (toQ q) = keyP q := by
  obtain ⟨p1, p2, p3, p4, p5⟩ := txright_parts (show txright q.side q.acc q.ms = true from h)
  unfold keyQ toQ keyP
  dsimp only
  rw [show ((q.side.toNat : Nat) : Int) = q.side by omega, show ((q.acc.toNat : Nat) : Int) = q.acc by omega, show ((q.n.toNat : Nat) : Int) = q.n by omega]
theorem unpack_back (qs : List T4) (ha : allR qs = true) (h : ∀ q ∈ qs, (0 ≤ q.n ∧ q.n < 18446744073709551616) ∧ ∀ m ∈ q.ms, m.wf) (hl : qs.length ≤ 1024) : unpackR (packS qs) = (qs.map toQ, 0, 0) := by
  have hg : ∀ q ∈ qs, tq q = true := List.all_eq_true.1 ha
  have e : packS qs = ⟨(listL (qs.map tbq)).toArray⟩ := by rw [packS, ha]; rfl
  have h1 := list_back 1024 (qs.map tbq) (fun x hx => by
    obtain ⟨q, hq, rfl⟩ := List.mem_map.1 hx
    exact tbq_size q (hg q hq)) (by simpa using hl) (by simpa using hl)
  have h2 : (R2.mk (packS qs) 0).list 1024 = (qs.map tbq, ⟨⟨#[]⟩, 0⟩) := by
    rw [e]
    unfold R2.list
    dsimp only
    rw [if_pos rfl, h1]
    rfl
  unfold unpackR
  rw [h2]
  dsimp only
  rw [if_neg (fun h => h rfl)]
  exact each_back qs 0 (fun q hq => ⟨hg q hq, h q hq⟩)
end Go.Proofs.Ytfalmebgjghjeaa.Msg
