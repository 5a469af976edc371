/- Small lemmas: what a tactic shows, as a term. -/
import Derived.Test.YtogfefdlffmioaaGreatRows
import Derived.WalkKit
import Derived.BigQuiet
import Derived.KernelRfl
import Derived.Below
set_option linter.unusedVariables false
namespace Go.Proofs.YtogfefdlffmioaaGreat
theorem _root_.Go.RowKit.Hid.o {p:Prop}(h:Go.RowKit.Hid p):p:=h
theorem kr_ {P:Prop}(h:P:=by kernel_rfl):P:=h
theorem om_ {P:Prop}(h:P:=by omega):P:=h
theorem si_ {P:Prop}(h:P:=by simp):P:=h
theorem de_ {P:Prop}(h:P:=by decide):P:=h
theorem br_ {P:Prop}(h:P:=by first | exact Below.refl _ _ | assumption):P:=h
theorem ba_ {P:Prop}(h:P:=by first | assumption | exact Below.refl _ _):P:=h
end Go.Proofs.YtogfefdlffmioaaGreat
