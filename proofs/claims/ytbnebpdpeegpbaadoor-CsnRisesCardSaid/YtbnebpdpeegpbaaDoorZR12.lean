/- CsnRises: for every replica and every row of at most sixty steps, whatever the clock says, each number that is told is above all that were told and seen, is the replica's own and is one; there is none only where the clock or the numbers are at the end of time; what is laid of the library's tables and errors is as the program's text lays it. -/
import Derived.Test.YtbnebpdpeegpbaaDoorZR11
import Derived.ShutString
import Derived.SliceStrings
import Derived.Test.YtbnebpdpeegpbaaDoorTie
import Derived.Test.YtbnebpdpeegpbaaDoorCards
import Derived.Lay
import Derived.SevenTiedAt
set_option linter.unusedVariables false
set_option maxRecDepth 100000
namespace Go.Proofs.YtbnebpdpeegpbaaDoor.csnRises
open Go.ChangeShapes Go.WideShapes Go.ChangeAt Go.RowKit
open Go.ChangeMaps (open_string shut_string)
theorem own : ownKnob Tryd.prog.godebug = none:=by kernel_rfl
theorem laidOut : laidOutB Tryd.prog = true:=by kernel_rfl
set_option maxRecDepth 100000 in
set_option maxHeartbeats 4000000 in
theorem lifted (os : Os) (started : os.Started) (H : Type) (enc : TypeId × Value → H) :
  ReturnsInHanded {} Tryd.checked os 5 .any (fun w args=>(Rows.csnRisesSpec.pre enc Tryd.prog Tryd.f5 Rows.csnRisesRow.domain false w args ∧ laidMetH Tryd.prog Rows.csnRisesRow.laid w) ∧ sizedMet enc Tryd.prog Tryd.f5 (OpenSpec.ofChange Rows.csnRisesSpec) false w args)
   (Rows.csnRisesSpec.post enc Tryd.prog Tryd.f5 false true false false):=by
 refine returnsInHanded_of_change_and (C:=Tryd.checked) (X:=fun w _=>laidMetH Tryd.prog Rows.csnRisesRow.laid w) (fun _ _ _ hh h=>h.of_heap hh) own started (by kernel_rfl) Tryd.func5
  (ChangeSpec.witness_shaped (enc:=enc) (C:=Tryd.checked) (os:=os) (X:=fun w _=>laidMetH Tryd.prog Rows.csnRisesRow.laid w) false (World.laidAll Tryd.prog os Rows.csnRisesRow.laid) #[.int .u8 0, .slice none 0 0] 8 (World.laidAll_os _ _ _)
   (World.shaped_of_ZipB (by kernel_rfl) (by kernel_rfl)) (by kernel_rfl) (by kernel_rfl) (by kernel_rfl)
   (by rw [MakeChecks.laidMetH_plain _ _ _ (by kernel_rfl)]; exact laidMet_laidAll _ (by kernel_rfl) (by kernel_rfl))) ?_
 intro W base args ds gs before hval0 hW hcnd _ hL _
 have hval : ∀ (j : Nat) t v, Tryd.f5.params[j]? = some t → args[j]? = some v → Value.okWide Tryd.prog W .any base t v:=hval0
 have hW':=hW
 obtain ⟨p, q, hA0, hV, rfl, hfz, hnd⟩:=hW
 have hA : DataW.TrodAll enc Tryd.prog W 0 (fun _=>true) true Tryd.f5.params.toList args.toList ds p:=hA0
 have hlt : ∀ x ∈ p, x.block < W.heap.size:=fun x hx=>hW'.lt x (by simp [hx])
 rw [Tryd.params5] at hA hval
 obtain ⟨v0, vs0, d0, ds0, p0, q0, hargs, rfl, rfl, h0, r0⟩:=trodAll_cons hA
 obtain ⟨v1, vs1, d1, ds1, p1, q1, rfl, rfl, rfl, h1, r1⟩:=trodAll_cons r0
 obtain ⟨rfl, rfl, rfl⟩:=trodAll_nil r1
 obtain rfl : args = #[v0, v1]:=by cases args; simp_all
 obtain ⟨rfl, rfl⟩:=trodVars_none hV
 obtain ⟨a0, rfl, rfl, rfl, w0⟩:=open_int Tryd.underlying5 (hval 0 5 v0 rfl rfl) h0
 have k1:=h1
 have lt1 : ∀ x ∈ p1, x.block < W.heap.size:=by obtain ⟨m, hm⟩:=k1; exact DataW.trod_lt m _ _ _ hm
 obtain ⟨A1, c1, ks1, rfl, w1⟩:=Cs.open_steps (hval 1 32 v1 rfl rfl) h1
 clear hA0 hval0
 have hGl:=Cs.glob_of_laid hL
 refine (Cs.walk_CsnRises W a0 w0 A1 c1 ks1 w1 hGl).mono fun e W' ⟨he, bel⟩=>?_
 subst he
 exact ⟨_, rfl, _, _, _, [], _, [], hW', trodAll_mk1 (shut_bool Tryd.underlying4 _), (trodAll_cons_mk (shut_int Tryd.underlying5 w0) (trodAll_cons_mk (Below.trod laidOut (by kernel_rfl) (of_decide_eq_true (by kernel_rfl)) k1 bel lt1) trodAll_mk0)), rfl, bel.frame _, fun h=>by cases h⟩
theorem over : Rows.csnRisesRow.holds Tryd.pinned (OpenSpec.ofChange Rows.csnRisesSpec) :=
 OpenClaim.holds_of_wide 5 Tryd.f5 rfl rfl rfl rfl rfl rfl rfl ⟨rfl, rfl, rfl, rfl, rfl⟩ rfl rfl rfl rfl rfl (by kernel_rfl) Tryd.func5 (by kernel_rfl)
  (of_decide_eq_true (by kernel_rfl)) (by unfold Func.isWrapper; first | (rw [if_pos (by decide +kernel)]; kernel_rfl) | (rw [if_neg (by decide +kernel)]; exact ⟨rfl, rfl⟩))
  (fun os started H enc _=>lifted os started H enc)
set_option maxRecDepth 100000 in
theorem proved : Rows.CsnRisesCardSaid :=
 Claim7.holds_tied_plain_at .later [] [.data, .data, .data, .sentinel, .sentinel] true _ _ over (fun _ h=>by cases h) (by kernel_rfl) (fun _ h=>by cases h) csnRises_row_tie rfl ⟨rfl, rfl⟩ (by kernel_rfl) rfl
  (fun f fn hf hfn=>by
   obtain rfl : f = 5:=Option.some.inj ((show Tryd.prog.funcNamed "prefect/prefectlaw10.CsnRises" = some 5 by kernel_rfl).symm.trans hf) |>.symm
   obtain rfl : fn = Tryd.f5:=(Option.some.inj (Tryd.func5.symm.trans hfn)).symm
   exact ⟨by kernel_rfl, fun j t ht=>by
    rw [Tryd.params5] at ht
    have hm : t ∈ [5, 32]:=by simpa using Array.mem_of_getElem? ht
    have hall : ([5, 32].all fun u=>!Tryd.prog.wantsStandIn u) = true:=by kernel_rfl
    exact (show Tryd.prog.wantsStandIn t = false by simpa using List.all_eq_true.1 hall t hm)⟩)
  (by kernel_rfl)
end Go.Proofs.YtbnebpdpeegpbaaDoor.csnRises
