/- Contract of the law file's awake of layer 13. No condition. -/
import Derived.Test.YtacigmnnekphmaaSchemaPrint
import Derived.Test.YtacigmnnekphmaaSchemaGreat
namespace Go.Proofs.Ytacigmnnekphmaa.schema
open Go.RowKit Go.Proofs.Ytacigmnnekphmaa.pen
set_option linter.unusedVariables false

def fd1 : field.Fd := ⟨1, 2, 0, 0, 0⟩
theorem fd1_right : fd1.Right := by decide
theorem fd1_size : size [fd1] = 1 := by decide
theorem fine1 : Fine (7, [fd1]) := by decide
theorem right1 : Right 2 [(7, [fd1])] := by decide
theorem right0 : ¬ Right 0 [] := by decide
theorem bytes1 : schemaB 2 [(7, [fd1])] = [2, 1, 7, 1, 1, 2] := by
  simp only [schemaB, formsB, formB, fieldsB, fieldB, fd1, List.map_cons, List.map_nil, List.flatten_cons, List.flatten_nil, List.length_cons, List.length_nil]
  rw [show (2 : Int).toNat = 2 from rfl, show (7 : Int).toNat = 7 from rfl, show (1 : Int).toNat = 1 from rfl]
  rw [vb_small (by omega), vb_small (by omega), vb_small (by omega)]
  rfl
set_option maxRecDepth 20000 in
theorem awake_any (w : World) : Calls Try.prog 7 #[] w (Yes w) := by
  obtain ⟨q, hq⟩ : ∃ q : Fm, Hid (q = ⟨7, some ⟨w.heap.size, 0, none⟩, 1, [fd1]⟩) := ⟨_, hid rfl⟩
  have hforms : forms [q] = [(7, [fd1])] := by rw [hq.out]; rfl
  have b1 := field.newB w (.cells #[.int .i64 1, .int .i64 2, .int .i64 0, .int .i64 0, .int .i64 0] 50)
  have b2 := field.newB (w.alloc (.cells #[.int .i64 1, .int .i64 2, .int .i64 0, .int .i64 0, .int .i64 0] 50)) (.cells #[.int .i64 7, .slice (some ⟨w.heap.size, 0, none⟩) 1 1] 29)
  have b3 := field.newB ((w.alloc (.cells #[.int .i64 1, .int .i64 2, .int .i64 0, .int .i64 0, .int .i64 0] 50)).alloc (.cells #[.int .i64 7, .slice (some ⟨w.heap.size, 0, none⟩) 1 1] 29)) (.cells #[.int .i64 2, .slice (some ⟨w.heap.size + 1, 0, none⟩) 1 1] 24)
  have hBF := ((Block.new w 50 [.int .i64 1, .int .i64 2, .int .i64 0, .int .i64 0, .int .i64 0]).later b2).later b3
  have hBM := (Block.new (w.alloc (.cells #[.int .i64 1, .int .i64 2, .int .i64 0, .int .i64 0, .int .i64 0] 50)) 29 [.int .i64 7, .slice (some ⟨w.heap.size, 0, none⟩) 1 1]).later b3
  have hBS := Block.new ((w.alloc (.cells #[.int .i64 1, .int .i64 2, .int .i64 0, .int .i64 0, .int .i64 0] 50)).alloc (.cells #[.int .i64 7, .slice (some ⟨w.heap.size, 0, none⟩) 1 1] 29)) 24 [.int .i64 2, .slice (some ⟨w.heap.size + 1, 0, none⟩) 1 1]
  have hb03 := b1.trans ((b2.mono b1.size).trans (b3.mono (Nat.le_trans b1.size b2.size)))
  simp only [World.size_alloc] at hBM hBS
  have hfds : field.Fds (((w.alloc (.cells #[.int .i64 1, .int .i64 2, .int .i64 0, .int .i64 0, .int .i64 0] 50)).alloc (.cells #[.int .i64 7, .slice (some ⟨w.heap.size, 0, none⟩) 1 1] 29)).alloc (.cells #[.int .i64 2, .slice (some ⟨w.heap.size + 1, 0, none⟩) 1 1] 24)) (some ⟨w.heap.size, 0, none⟩) [fd1] := by
    refine .inr ⟨w.heap.size, 0, rfl, hBF.lt, fun i p hp => ?_⟩
    cases i with
    | zero => simp at hp; subst hp; exact ⟨hBF.cell 0, hBF.cell 1, hBF.cell 2, hBF.cell 3, hBF.cell 4⟩
    | succ i => simp at hp
  have hfm : FmL (((w.alloc (.cells #[.int .i64 1, .int .i64 2, .int .i64 0, .int .i64 0, .int .i64 0] 50)).alloc (.cells #[.int .i64 7, .slice (some ⟨w.heap.size, 0, none⟩) 1 1] 29)).alloc (.cells #[.int .i64 2, .slice (some ⟨w.heap.size + 1, 0, none⟩) 1 1] 24)) (some ⟨w.heap.size + 1, 0, none⟩) [q] := by
    refine ⟨.inr ⟨w.heap.size + 1, 0, rfl, hBM.lt, fun i p hp => ?_⟩, fun p hp => ?_⟩
    · cases i with
      | zero => simp at hp; subst hp; rw [hq.out]; exact ⟨hBM.cell 0, hBM.cell 1⟩
      | succ i => simp at hp
    · rw [List.mem_singleton.1 hp, hq.out]; exact ⟨hfds, by simp, by unfold maxLen; simp⟩
  have HB := hid (fun w' hb => hb03.trans ((hb : Below (((w.alloc (.cells #[.int .i64 1, .int .i64 2, .int .i64 0, .int .i64 0, .int .i64 0] 50)).alloc (.cells #[.int .i64 7, .slice (some ⟨w.heap.size, 0, none⟩) 1 1] 29)).alloc (.cells #[.int .i64 2, .slice (some ⟨w.heap.size + 1, 0, none⟩) 1 1] 24)).heap.size _ w').mono hb03.size))
  obtain ⟨W3, hW3⟩ : ∃ x, (((w.alloc (.cells #[.int .i64 1, .int .i64 2, .int .i64 0, .int .i64 0, .int .i64 0] 50)).alloc (.cells #[.int .i64 7, .slice (some ⟨w.heap.size, 0, none⟩) 1 1] 29)).alloc (.cells #[.int .i64 2, .slice (some ⟨w.heap.size + 1, 0, none⟩) 1 1] 24)) = x := ⟨_, rfl⟩
  rw [hW3] at HB hfm hBS hBM hfds
  have HW3 := hid hW3
  have HFM := hid hfm
  have cP := print_yes 2 (some ⟨w.heap.size + 1, 0, none⟩) 1 [q] W3 hfm (by rw [hforms]; exact right1)
  rw [hforms, bytes1] at cP
  have cR := fun w' (hb : Below W3.heap.size W3 w') => right_any 2 (some ⟨w.heap.size + 1, 0, none⟩) 1 [q] w' (hfm.below hb) (by unfold maxLen; simp)
  rw [hforms, decide_eq_true right1] at cR
  have cZ := fun w' => right_any 0 none 0 [] w' ⟨.inl rfl, by simp⟩ (by unfold maxLen; simp)
  rw [show forms [] = [] from rfl, decide_eq_false right0] at cZ
  have cL := fun w' (hb : Below W3.heap.size W3 w') => long_any 7 (some ⟨w.heap.size, 0, none⟩) 1 [fd1] w' (hfds.below hb) (by simp)
  rw [fd1_size] at cL
  have HS : Hid (strOf [2, 1, 7, 1, 1, 2] = ⟨#[2, 1, 7, 1, 1, 2]⟩) := by show _ = _; decide
  have HBS := hid hBS
  have HBM := hid hBM
  simp only [List.length_cons, List.length_nil, Nat.zero_add] at cP cR cZ cL
  clear hq hforms hfm hBF hBM hBS hb03 hfds b1 b2 b3 hW3
  rw [← HW3.out] at cP
  go_enter Try.func7, Try.ntmps7
  go_wp2_with (first
    | (go_at_call 21; ((with_reducible refine cP.mono ?_); clear cP; rintro e w4 ⟨u, rfl, ho, hb4⟩; rw [HW3.out] at hb4; obtain ⟨a4, c4, rfl, _⟩ := ownsRow_slice ho; have hcv := Reads.str (P := Try.prog) (show Reads .u8 w4 a4 6 [2, 1, 7, 1, 1, 2] from Reads.own ho) 39 5 Try.underlying39 Try.underlying5 c4 9 Try.underlying9; rw [HS.out] at hcv; have hB4 := HBS.out.later hb4; have y0 := hB4.cell 0; have y1 := hB4.cell 1; clear ho))
    | (go_at_call 17; ((with_reducible refine (cR _ hb4).mono ?_); rintro e w5 ⟨rfl, hb5⟩; have hb45 := hb4.trans (hb5.mono hb4.size); have hB5 := HBS.out.later hb45; have y0 := hB5.cell 0; have y1 := hB5.cell 1))
    | (go_at_call 17; ((with_reducible refine (cZ _).mono ?_); rintro e w6 ⟨rfl, hb6⟩; have hb46 := hb45.trans (hb6.mono hb45.size); have hB6 := HBS.out.later hb46; have hM6 := HBM.out.later hb46; have y0 := hB6.cell 0; have y1 := hB6.cell 1; have x0 := hM6.cell 0; have x1 := hM6.cell 1))
    | (go_at_call 13; ((with_reducible refine (cL _ hb46).mono ?_); rintro e w7 ⟨rfl, hb7⟩; have hb47 := hb46.trans (hb7.mono hb46.size))))
  go_ret
  exact ⟨rfl, HB.out _ hb47⟩
end Go.Proofs.Ytacigmnnekphmaa.schema
