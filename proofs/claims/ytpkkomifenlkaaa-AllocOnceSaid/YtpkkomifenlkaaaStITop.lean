/- sort.Sort over the abstract state -/
import Derived.Test.YtpkkomifenlkaaaStIPdq
import Derived.Test.YtpkkomifenlkaaaStIRev
import Derived.Test.YtpkkomifenlkaaaStIBrk
import Derived.Shelf.GgSortMore.IfacePdq
import Derived.Lib.Hide
namespace Go.Proofs.Ytpkkomifenlkaaa.St
open Go Go.RowKit Go.Shelf Go.Lib Go.Sort Go.Proofs
variable {P : Program} {ρ : Ren} {α : Type} [Inhabited α]

set_option maxHeartbeats 1000000 in
set_option maxRecDepth 1000000 in
theorem tiny_any (L : LaysGt.n11 P ρ) (ty : TypeId) (rv : Value) (gn n : Nat) (hn : n ≤ 1) (w : World) (mN : Sem.run P (method (P.types.size + 100) ty rv "Len") w = .ok (gn, rv) w) (eN : ∀ args w, (callFunc gn args).run P w = .ok (.enter gn args) w)
    (hlen : Calls P gn #[rv] w fun e w' => e = .returned (.int .i64 n) ∧ w' = w) :
    Calls P (ρ.f 11) #[.iface ty rv] w fun e w' => e = .returned (.tuple #[]) ∧ w' = w := by
  have mixed := L.mixed; have t0 := L.t0; have a0 := L.a0; have z0 := L.z0; have v0 := L.v0; have t3 := L.t3; have a3 := L.a3; have z3 := L.z3
  have v3 := L.v3; have t4 := L.t4; have a4 := L.a4; have z4 := L.z4; have v4 := L.v4; have t5 := L.t5; have a5 := L.a5; have z5 := L.z5
  have v5 := L.v5; have t9 := L.t9; have a9 := L.a9; have z9 := L.z9; have v9 := L.v9; have t26 := L.t26; have a26 := L.a26; have z26 := L.z26
  have v26 := L.v26; have t38 := L.t38; have a38 := L.a38; have z38 := L.z38; have v38 := L.v38; have t43 := L.t43; have a43 := L.a43; have z43 := L.z43
  have v43 := L.v43; have t45 := L.t45; have a45 := L.a45; have z45 := L.z45; have v45 := L.v45; have t47 := L.t47; have a47 := L.a47; have z47 := L.z47
  have v47 := L.v47; have t56 := L.t56; have a56 := L.a56; have z56 := L.z56; have v56 := L.v56; have t58 := L.t58; have a58 := L.a58; have z58 := L.z58
  have v58 := L.v58; have t60 := L.t60; have a60 := L.a60; have z60 := L.z60; have v60 := L.v60; have t61 := L.t61; have a61 := L.a61; have z61 := L.z61
  have v61 := L.v61; have t65 := L.t65; have a65 := L.a65; have z65 := L.z65; have v65 := L.v65; have t67 := L.t67; have a67 := L.a67; have z67 := L.z67
  have v67 := L.v67; have t71 := L.t71; have a71 := L.a71; have z71 := L.z71; have v71 := L.v71; have t73 := L.t73; have a73 := L.a73; have z73 := L.z73
  have v73 := L.v73; have t74 := L.t74; have a74 := L.a74; have z74 := L.z74; have v74 := L.v74
  go_enter L.f11, BodyGt.n11_ntmps ρ
  go_wp2_with (go_at_fn gn; refine hlen.mono ?_; rintro e w' ⟨rfl, rfl⟩)
  all_goals first | (exfalso; omega) | ((try simp only [Exit.inBlock, Exit.then]); refine bodyPost_ret (results_none rfl _ _ _) rfl ?_; exact ⟨rfl, rfl⟩)
set_option maxHeartbeats 1000000 in
set_option maxRecDepth 1000000 in
theorem sort_any (L : LaysGt.n11 P ρ) (lt : α → α → Bool) (hO : SWO lt) (B size : Nat) (T : Array α → World → Prop) (ty : TypeId) (rv : Value) (gl gs : Nat) (F : IfaceFam P lt B size T ty rv gl gs) (h2 : 2 ≤ size) (gn : Nat) (d : Array α) (w : World) (hT : T d w)
    (mN : Sem.run P (method (P.types.size + 100) ty rv "Len") w = .ok (gn, rv) w) (eN : ∀ args w, (callFunc gn args).run P w = .ok (.enter gn args) w) (hlen : Calls P gn #[rv] w fun e w' => e = .returned (.int .i64 size) ∧ w' = w) :
    Calls P (ρ.f 11) #[.iface ty rv] w fun e w' => e = .returned (.tuple #[]) ∧ ∃ d', PermIn 0 d.size d d' ∧ SortedIn lt 0 d.size d' ∧ T d' w' ∧ Up B w w' := by
  have mixed := L.mixed; have t0 := L.t0; have a0 := L.a0; have z0 := L.z0; have v0 := L.v0; have t3 := L.t3; have a3 := L.a3; have z3 := L.z3
  have v3 := L.v3; have t4 := L.t4; have a4 := L.a4; have z4 := L.z4; have v4 := L.v4; have t5 := L.t5; have a5 := L.a5; have z5 := L.z5
  have v5 := L.v5; have t9 := L.t9; have a9 := L.a9; have z9 := L.z9; have v9 := L.v9; have t26 := L.t26; have a26 := L.a26; have z26 := L.z26
  have v26 := L.v26; have t38 := L.t38; have a38 := L.a38; have z38 := L.z38; have v38 := L.v38; have t43 := L.t43; have a43 := L.a43; have z43 := L.z43
  have v43 := L.v43; have t45 := L.t45; have a45 := L.a45; have z45 := L.z45; have v45 := L.v45; have t47 := L.t47; have a47 := L.a47; have z47 := L.z47
  have v47 := L.v47; have t56 := L.t56; have a56 := L.a56; have z56 := L.z56; have v56 := L.v56; have t58 := L.t58; have a58 := L.a58; have z58 := L.z58
  have v58 := L.v58; have t60 := L.t60; have a60 := L.a60; have z60 := L.z60; have v60 := L.v60; have t61 := L.t61; have a61 := L.a61; have z61 := L.z61
  have v61 := L.v61; have t65 := L.t65; have a65 := L.a65; have z65 := L.z65; have v65 := L.v65; have t67 := L.t67; have a67 := L.a67; have z67 := L.z67
  have v67 := L.v67; have t71 := L.t71; have a71 := L.a71; have z71 := L.z71; have v71 := L.v71; have t73 := L.t73; have a73 := L.a73; have z73 := L.z73
  have v73 := L.v73; have t74 := L.t74; have a74 := L.a74; have z74 := L.z74; have v74 := L.v74
  have e17 : ∀ args w, (callFunc (ρ.f 17) args).run P w = .ok (.enter (ρ.f 17) args) w := enters_of L.f17 (by kernel_rfl) rfl
  have e18 : ∀ args w, (callFunc (ρ.f 18) args).run P w = .ok (.enter (ρ.f 18) args) w := enters_of L.f18 (by kernel_rfl) rfl
  have hsz := F.small
  have hds := F.play.size hT
  have hb := fun w => Any.bits_Len (LaysGg.n13.bits (({ L with } : LaysGt.n17 P ρ).elder)) (size : Int) w (by omega) (by omega)
  change ∀ w, Calls P (ρ.f 17) _ w _ at hb
  have wr : IntKind.u64.wrap (size : Int) = size := by simp [IntKind.wrap, IntKind.bits, IntKind.signed]; omega
  have hlim : Lib.bitLen size < 4611686018427387904 := Nat.lt_of_le_of_lt (Lib.bitLen_le size 62 (by omega) (by omega)) (by omega)
  have hp := pdq_all (P := P) (ρ := ρ) { L with } lt hO B size T ty rv gl gs F (fun d W a b h hab hb => brk_any { L with } lt B size T ty rv gl gs F a b hab hb d W h) (fun d W a b h hab hb => rev_any { L with } lt B size T ty rv gl gs F a b hab hb d W h)
    (size + 1) 0 size (Lib.bitLen size) d w (by omega) hT (Nat.zero_le _) (Nat.le_refl _) hlim (Or.inl rfl)
  have hsort := pdq_sorts lt hO d 0 d.size (Lib.bitLen d.size) true true (Nat.zero_le _) (Nat.le_refl _) (Or.inl rfl)
  rw [hds] at hsort
  rw [hds]
  have HSo := Lib.hid hsort
  clear hT hsort hds
  go_enter L.f11, BodyGt.n11_ntmps ρ
  go_wp2_with (first
    | (go_at_fn gn; refine hlen.mono ?_; rintro e w' ⟨rfl, rfl⟩)
    | (go_at_fn (ρ.f 17); refine (hb _).mono ?_; rintro e w' ⟨rfl, rfl⟩)
    | (go_at_fn (ρ.f 18); refine hp.mono ?_; rintro e w' ⟨rfl, hT1, hU1⟩))
  all_goals first
    | (exfalso; omega)
    | (go_end0; exact ⟨rfl, _, HSo.out.1, HSo.out.2, hT1, hU1⟩)

end Go.Proofs.Ytpkkomifenlkaaa.St
