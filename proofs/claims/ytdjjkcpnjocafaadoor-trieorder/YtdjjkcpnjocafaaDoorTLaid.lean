/- What the listed variable of the library holds when a call begins: the type of errors. -/
import Derived.Test.YtdjjkcpnjocafaaDoorRows
import Derived.Test.YtdjjkcpnjocafaaDoorTLaw
import Derived.Shelf.Vars
import Derived.LaidMore
import Derived.LaidHandle
import Derived.Stop.LaidErr
import Derived.LaidLaws
namespace Go.Proofs.YtdjjkcpnjocafaaDoor
open Go.RowKit Go.Lib

theorem gErr : Tryd.prog.globalNamed "errors.errorType" = some 0 := by kernel_rfl
theorem rtyp : (Tryd.prog.cutTypes.find? (·.1 == "internal/reflectlite.rtype")).map (·.2) = some 119 := by kernel_rfl
theorem oneRow : ((List.range 174).filter fun t => Tryd.prog.rowNamed t [101, 114, 114, 111, 114]) = [28] := by kernel_rfl
theorem typesSize : Tryd.prog.types.size = 174 := by kernel_rfl
set_option maxRecDepth 100000 in
theorem env_of {W : World} (h : handlesMet Tryd.prog [("errors.errorType", Rows.laid_errors_errorType)] W) : EnvE W := by
  obtain ⟨name, u, ty, e1, e2, e3, e4, e5⟩ := h _ (List.mem_singleton.2 rfl)
  have en : name = [101, 114, 114, 111, 114] := (Option.some.inj e1).symm
  subst en
  obtain rfl := Option.some.inj (rtyp.symm.trans e2)
  have hm : ty ∈ (List.range 174).filter fun t => Tryd.prog.rowNamed t [101, 114, 114, 111, 114] := List.mem_filter.2 ⟨List.mem_range.2 (by rw [← typesSize]; exact e3), e4⟩
  rw [oneRow] at hm
  obtain rfl := List.mem_singleton.1 hm
  have hh : typeHandle Tryd.prog 28 = .pointer (some ⟨4, 28, none⟩) := by kernel_rfl
  rw [hh] at e5
  unfold EnvE
  simpa using World.var?_cell gErr e5 0
end Go.Proofs.YtdjjkcpnjocafaaDoor
