import Derived.Test.YtbdpkfgllnbheaaGreatDoorZQ39
set_option linter.unusedVariables false
set_option maxRecDepth 100000
namespace Go.Proofs.YtbdpkfgllnbheaaGreatDoor.Ch
open Go.RowKit
theorem fw_smG {c : Cg} (h : fwG c) : smG c:=by
 obtain ⟨⟨h1, h2⟩, h3, h4⟩:=h
 refine ⟨by omega, fun a ha=>?_, by omega, fun d hd=>?_⟩
 ·have:=h4 a ha; omega
 ·obtain ⟨p1, p2, p3⟩:=h2 d hd
  exact ⟨by omega, by omega, fun s hs=>by have:=p3 s hs; omega⟩
theorem fw_smA {c : Cg} (h : fwG c) : smA c:=fun d hd=>by have:=(h.1.2 d hd).1; omega
theorem eqMos_self : ∀ l : List Mo, eqMos l l = true
 | []=>rfl
 | a :: r=>by
  unfold eqMos eqMo
  rw [eqMos_self r, decide_eq_true rfl, decide_eq_true rfl, decide_eq_true rfl]
  rfl
theorem eqG_self (c : Cg) : eqG c c = true:=by
 have e (x : Cn) : eqCn x x = true:=decide_eq_true ⟨rfl, rfl, rfl⟩
 unfold eqG
 rw [e, e, e, eqMos_self, decide_eq_true rfl, decide_eq_true rfl, decide_eq_true rfl]
 rfl
end Go.Proofs.YtbdpkfgllnbheaaGreatDoor.Ch
