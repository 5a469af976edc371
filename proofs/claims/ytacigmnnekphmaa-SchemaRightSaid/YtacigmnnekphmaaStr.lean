/- A list of bytes as a string. No condition. -/
import Derived.Test.YtacigmnnekphmaaKit
import Derived.Laws.BytesArg
import Derived.Laws.Concat
namespace Go.Proofs.Ytacigmnnekphmaa.texts
open Go.RowKit

/-- the string of a list of bytes -/
def strL (l : List UInt8) : ByteArray := ⟨l.toArray⟩
theorem strL_data (l : List UInt8) : (strL l).data.toList = l := rfl
theorem strL_size (l : List UInt8) : (strL l).size = l.length := by simp [strL, ByteArray.size]
theorem strL_app (a b : List UInt8) : strL a ++ strL b = strL (a ++ b) := ByteArray.mk_append_mk a b
theorem strL_of (s : ByteArray) : strL s.data.toList = s := by cases s; simp [strL]
theorem strL_inj {a b : List UInt8} (h : strL a = strL b) : a = b := by rw [← strL_data a, h, strL_data]
theorem strL_toList (l : List UInt8) : (strL l).toList = l := ByteArray.toList_mk l
end Go.Proofs.Ytacigmnnekphmaa.texts
