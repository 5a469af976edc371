/- Contracts of Dec and Read, for every number and every string; the listed variables of the library hold what the rows say. No condition beyond a string's length. -/
import Derived.Test.YtdlebjogbhgheaaDoorTextsNum
import Derived.Test.YtdlebjogbhgheaaDoorShelf
import Derived.Lib.AppendIntMem
namespace Go.Proofs.YtdlebjogbhgheaaDoor.texts
open Go.RowKit Go.Lib
set_option linter.unusedVariables false

/-- the library's variables that the calls read -/
structure Ready (w : World) : Prop where
  tab : Lib.TabIs Tryd.prog w "internal/strconv.uint64pow10" .u64 Lib.pow10Tab
  syn : ∃ tp p, w.var? Tryd.prog "strconv.ErrSyntax" = some #[.iface tp p]
  ran : ∃ tp p, w.var? Tryd.prog "strconv.ErrRange" = some #[.iface tp p]
  ml : ∃ m, w.cell? ⟨2, 0, none⟩ = some (.int .i64 m)
theorem var_below {n : String} {g : Nat} {xs : Array Value} {w w' : World} (hg : Tryd.prog.globalNamed n = some g) (h : w.var? Tryd.prog n = some xs) (hb : Below w.heap.size w w') : w'.var? Tryd.prog n = some xs := by
  unfold World.var? at h ⊢
  rw [hg] at h ⊢
  simp only [Option.bind_some] at h ⊢
  cases ho : w.heap[g]? with
  | none => rw [ho] at h; cases h
  | some o =>
    rw [hb.block g (Array.getElem?_eq_some_iff.1 ho).1]
    exact h
theorem Ready.below {w w' : World} (h : Ready w) (hb : Below w.heap.size w w') : Ready w' := by
  obtain ⟨h1, ⟨t2, p2, h2⟩, ⟨t3, p3, h3⟩, ⟨m, h4⟩⟩ := h
  exact ⟨var_below (g := 3) (by kernel_rfl) h1 hb, ⟨t2, p2, var_below (g := 0) (by kernel_rfl) h2 hb⟩, ⟨t3, p3, var_below (g := 1) (by kernel_rfl) h3 hb⟩, ⟨m, (hb.cell (p := ⟨2, 0, none⟩) (World.block_lt_of_cell? w _ h4)).trans h4⟩⟩

theorem dec_any (n : Int) (hf : Fits n) (w : World) (hr : Ready w) :
    Calls Tryd.prog 9 #[.int .i64 n] w fun e w' => e = .returned (.string (strL (itoa n))) ∧ Below w.heap.size w w' := by
  have c := Tryd.strconv_Itoa n hf.1 hf.2 w hr.tab
  go_enter Tryd.func9, Tryd.ntmps9
  go_wp2_with (go_at_call 22; refine c.mono ?_; rintro e w' ⟨rfl, k, os, rfl⟩)
  go_ret
  exact ⟨rfl, below_grow _ _ (Nat.le_refl _) _ _⟩

/-- what Atoi hands back: a number and nil, or a number and an error; the road it took -/
theorem atoi_any (l : List UInt8) (hl : l.length ≤ 281474976710656) (w : World) (hr : Ready w) :
    Calls Tryd.prog 21 #[.string (strL l)] w fun e w' => Below w.heap.size w w' ∧
      ((∃ v, atoiAll l = .ok v ∧ e = .returned (.tuple #[.int .i64 v, .nilIface])) ∨ (∃ v tp p, (∀ m, atoiAll l ≠ .ok m) ∧ e = .returned (.tuple #[.int .i64 v, .iface tp p]))) := by
  have hs : (strL l).size ≤ 281474976710656 := by rw [strL_size]; exact hl
  obtain ⟨t2, p2, h2⟩ := hr.syn
  obtain ⟨t3, p3, h3⟩ := hr.ran
  cases h : atoiAll l
  · rename_i v
    refine (Tryd.strconv_Atoi_ok (strL l) (by omega) v h w).mono ?_
    rintro e w' ⟨rfl, rfl | ⟨t, rfl⟩⟩
    · exact ⟨Below.refl _ _, .inl ⟨v, rfl, rfl⟩⟩
    · exact ⟨bytesWorld_below _ _ _, .inl ⟨v, rfl, rfl⟩⟩
  · refine (Any.strconv_Atoi_syntax_var Tryd.laysC172 (strL l) hs h t2 p2 w h2).mono ?_
    rintro e w' ⟨N, rfl, _, _, hb⟩
    exact ⟨hb, .inr ⟨_, _, _, fun m => by simp, rfl⟩⟩
  · refine (Tryd.strconv_Atoi_range_var (strL l) hs h t3 p3 w h3).mono ?_
    rintro e w' ⟨N, rfl, _, _, hb⟩
    exact ⟨hb, .inr ⟨_, _, _, fun m => by simp, rfl⟩⟩

theorem read_any (l : List UInt8) (hl : l.length ≤ 281474976710656) (w : World) (hr : Ready w) :
    Calls Tryd.prog 7 #[.string (strL l)] w fun e w' => ∃ n c, e = .returned (.tuple #[.int .i64 n, .int .i64 c]) ∧ NumOf l n c ∧ Below w.heap.size w w' := by
  have ca := atoi_any l hl w hr
  have HR := hid hr
  have est := strL_toList
  clear hr
  go_enter Tryd.func7, Tryd.ntmps7
  go_wp2_with (go_at_call 21; refine ca.mono ?_; rintro e w1 ⟨hb1, ⟨v, hv, rfl⟩ | ⟨v, tp, p, hv, rfl⟩⟩)
  · have cd := dec_any v (atoi_fits hv) w1 (HR.out.below hb1)
    have HV := hid hv
    clear hv
    go_wp2_with (go_at_call 9; refine cd.mono ?_; rintro e w2 ⟨rfl, hb2⟩)
    · have hne : itoa v ≠ l := by
        have : (!itoa v == l) = true := by assumption
        simpa using this
      go_ret2
      exact ⟨_, _, rfl, NumOf.other fun m hm => by
        by_cases e : v = m
        · subst e; exact .inr hne
        · exact .inl fun h => e (by rw [HV.out] at h; injection h), hb1.trans (hb2.mono hb1.size)⟩
    · have hne : itoa v = l := by
        have : (!itoa v == l) = false := by assumption
        simpa using this
      go_ret2
      exact ⟨_, _, rfl, NumOf.ok HV.out (atoi_fits HV.out) hne, hb1.trans (hb2.mono hb1.size)⟩
  · have HV := hid hv
    clear hv
    go_wp2
    go_ret2
    exact ⟨_, _, rfl, NumOf.other fun m hm => .inl (HV.out m), hb1⟩
end Go.Proofs.YtdlebjogbhgheaaDoor.texts
