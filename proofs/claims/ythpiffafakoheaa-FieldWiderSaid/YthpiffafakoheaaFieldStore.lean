/- A result that is a value of a field and lives in a variable: stored and returned. No condition. -/
import Derived.Test.YthpiffafakoheaaFieldRight
namespace Go.Proofs.Ythpiffafakoheaa.field
open Go.RowKit
set_option linter.unusedVariables false

/-- a value that has just been boxed stays -/
theorem two (v : Va) (w w' : World) (hb : Below (w.alloc (.cells #[.int .i64 v.n, .string v.s] 25)).heap.size (w.alloc (.cells #[.int .i64 v.n, .string v.s] 25)) w') : (w'.cell? ⟨w.heap.size, 0, none⟩ = some (.int .i64 v.n) ∧ w'.cell? ⟨w.heap.size, 1, none⟩ = some (.string v.s)) := by
  have hB := (Block.new w 25 [.int .i64 v.n, .string v.s]).later hb
  exact ⟨hB.cell 0, hB.cell 1⟩
/-- the world in which a field has been boxed and the result's variable made -/
def W2 (f : Fd) (w : World) : World := (w.alloc (.cells #[.int .i64 f.id, .int .i64 f.kind, .int .i64 f.lo, .int .i64 f.hi, .int .i64 f.most] 23)).alloc (.cells #[.int .i64 0, .string ⟨#[]⟩] 25)
theorem W2.all (f : Fd) (w w' : World) (hb : Below (W2 f w).heap.size (W2 f w) w') : (w'.cell? ⟨w.heap.size, 0, none⟩ = some (.int .i64 f.id) ∧ w'.cell? ⟨w.heap.size, 1, none⟩ = some (.int .i64 f.kind) ∧ w'.cell? ⟨w.heap.size, 2, none⟩ = some (.int .i64 f.lo) ∧ w'.cell? ⟨w.heap.size, 3, none⟩ = some (.int .i64 f.hi) ∧ w'.cell? ⟨w.heap.size, 4, none⟩ = some (.int .i64 f.most)) ∧ Block w' (w.heap.size + 1) 25 [.int .i64 0, .string ⟨#[]⟩] ∧ Below w.heap.size w w' := by
  have h1 : Below (w.alloc (.cells #[.int .i64 f.id, .int .i64 f.kind, .int .i64 f.lo, .int .i64 f.hi, .int .i64 f.most] 23)).heap.size (w.alloc (.cells #[.int .i64 f.id, .int .i64 f.kind, .int .i64 f.lo, .int .i64 f.hi, .int .i64 f.most] 23)) w' := (newB _ _).trans (hb.mono (by unfold W2; simp))
  refine ⟨five f w w' h1, ?_, belowF f w w' h1⟩
  have h2 := (Block.new (w.alloc (.cells #[.int .i64 f.id, .int .i64 f.kind, .int .i64 f.lo, .int .i64 f.hi, .int .i64 f.most] 23)) 25 [.int .i64 0, .string ⟨#[]⟩]).later hb
  simpa using h2
theorem val_there {w : World} {b : Nat} {x y : Value} (h : Block w b 25 [x, y]) (n : Int) (s : ByteArray) : w.there b 0 (#[.int .i64 n, .string s] : Array Value).size := h.there 0 2 (by simp)
theorem val_info (n : Int) (s : ByteArray) : (Try.prog.info? 25).map (·.size) = some (#[.int .i64 n, .string s] : Array Value).size := by kernel_rfl
theorem val_info2 (n : Int) (s : ByteArray) : (Try.prog.info? 25).map (·.size) = some [Value.int .i64 n, Value.string s].length := by kernel_rfl
theorem val_one (n : Int) (s : ByteArray) : (#[.int .i64 n, .string s] : Array Value).all (·.oneCell') = true := by simp [Value.oneCell']
theorem val_stored {w w2 a : World} {b B : Nat} {x y : Value} {n : Int} {s : ByteArray} (h : Block w b 25 [x, y]) (hw : Hid (w.setCells b 0 (#[.int .i64 n, .string s] : Array Value).toList = w2)) (hb : B ≤ b) (ha : Below B a w) :
    Block w2 b 25 [.int .i64 n, .string s] ∧ Below B a w2 := by
  constructor
  · have := h.setCells (vs := [.int .i64 n, .string s]) (o := 0)
    rw [put_all _ _ (by simp)] at this
    rw [← hw.out]
    exact this
  · rw [← hw.out]
    exact below_setCells ha hb _ _
/-- three results of which the first lives in a variable -/
theorem results_cell3 {fn : Func} {p u v : Tmp} {ty : TypeId} {tmps : Array Value} {P : Program} {w : World} {b o : Nat} {cs : List Value} {d : TypeDesc} (h : fn.results = #[.cell p ty, .tmp u, .tmp v])
    (hp : tmps.getD p undef = .pointer (some ⟨b, o, none⟩)) (hc : w.rangeAt b o cs) (hu : P.underlying ty = some d) (hd : d.isRow = true) (hi : (P.info? ty).map (·.size) = some cs.length) :
    (results fn tmps).run P w = .ok (.tuple #[.agg cs.toArray, tmps.getD u undef, tmps.getD v undef]) w := by
  simp only [results, h]
  simp at hp
  simp [hp, asAddr, run_loadVar_mid w b o ty cs d hc hu hd hi]
end Go.Proofs.Ythpiffafakoheaa.field
