/- Contract of split: the words of a line, or nil. No condition beyond a line's length. -/
import Derived.Test.YtdlebjogbhgheaaDoorTextsHas
import Derived.Test.YtdlebjogbhgheaaDoorTextsDec
import Derived.Lib.SplitLaws
namespace Go.Proofs.YtdlebjogbhgheaaDoor.texts
open Go.RowKit Go.Lib Go.Shelf
set_option linter.unusedVariables false

theorem count_none : ∀ (l : List UInt8), l.count 32 = 0 → indexByte l 32 = -1
  | [], _ => rfl
  | b :: l, h => by
    by_cases hb : b = 32
    · subst hb; simp at h
    · rw [List.count_cons_of_ne (by simpa using hb)] at h
      rw [index_cons_ne l hb, if_pos (count_none l h)]
theorem count_some : ∀ (l : List UInt8) (i : Nat), indexByte l 32 = i → l.count 32 = (l.drop (i + 1)).count 32 + 1
  | [], i, h => by simp [indexByte] at h
  | b :: l, i, h => by
    by_cases hb : b = 32
    · subst hb; rw [index_cons_eq] at h
      obtain rfl : i = 0 := by omega
      simp
    · rw [index_cons_ne l hb] at h
      have h1 := indexByte_ge l 32
      split at h
      · omega
      · obtain ⟨j, rfl⟩ : ∃ j, i = j + 1 := ⟨i - 1, by omega⟩
        rw [List.count_cons_of_ne (by simpa using hb), count_some l j (by omega)]; simp
theorem splitK_segs : ∀ (k : Nat) (l : List UInt8), l.count 32 = k → splitK [32] 0 k l = segs 32 [] l
  | 0, l, h => by rw [segs_none 32 l [] (count_none l h)]; simp [splitK]
  | k + 1, l, h => by
    have hne : indexByte l 32 ≠ -1 := fun e => by
      have : ∀ (l : List UInt8), indexByte l 32 = -1 → l.count 32 = 0 := by
        intro l
        induction l with
        | nil => intro _; rfl
        | cons b l ih =>
          intro e
          by_cases hb : b = 32
          · subst hb; rw [index_cons_eq] at e; omega
          · rw [index_cons_ne l hb] at e
            rw [List.count_cons_of_ne (by simpa using hb)]
            exact ih (by have := indexByte_ge l 32; split at e <;> omega)
      have := this l e
      omega
    obtain ⟨i, hi⟩ : ∃ i : Nat, indexByte l 32 = i := ⟨(indexByte l 32).toNat, by have := indexByte_ge l 32; omega⟩
    have hc := count_some l i hi
    unfold splitK
    rw [index_one, hi, if_neg (by simp), segs_some 32 l [] i hi, Int.toNat_natCast]
    simp only [List.length_cons, List.length_nil, Nat.zero_add, Nat.add_zero, List.nil_append]
    rw [splitK_segs k (l.drop (i + 1)) (by omega)]
/-- the cells of a row of strings -/
def cellsOfStrs (ws : List (List UInt8)) : List Value := ws.map fun x => Value.string (strL x)
theorem split_cells (l : List UInt8) : (Lib.splitB ⟨#[32]⟩ 0 (Lib.countB (strL l) ⟨#[32]⟩) (strL l)).map Value.string = cellsOfStrs (segs 32 [] l) ∧ Lib.countB (strL l) ⟨#[32]⟩ + 1 = (segs 32 [] l).length := by
  have hcount : Lib.countB (strL l) ⟨#[32]⟩ = l.count 32 := by
    show Lib.count l [32] = _
    exact Lib.count_one 32 l
  have hd := Lib.splitB_data ⟨#[32]⟩ 0 (Lib.countB (strL l) ⟨#[32]⟩) (strL l)
  have hs : splitK (ByteArray.mk #[32]).data.toList 0 (Lib.countB (strL l) ⟨#[32]⟩) (strL l).data.toList = segs 32 [] l := splitK_segs _ l hcount.symm
  rw [hs] at hd
  have hl := Lib.splitB_all ⟨#[32]⟩ (by decide) 0 _ (strL l) rfl
  refine ⟨?_, ?_⟩
  · rw [← hd]
    unfold cellsOfStrs
    rw [List.map_map]
    apply List.map_congr_left
    intro x _
    show Value.string x = Value.string (strL x.data.toList)
    rw [strL_of]
  · rw [← hl, ← hd, List.length_map]

/-- the words of a line that has its end -/
def wordsOf (line : List UInt8) : List (List UInt8) := segs 32 [] (trimSuffix line [10])
/-- a line -/
def goodLine (line : List UInt8) : Bool := hasSuffix line [10] && !((wordsOf line).any noWord)

theorem seq_any (l : List UInt8) (w : World) :
    Calls Tryd.prog 61 #[.string (strL l), .string ⟨#[32]⟩] w fun e w' =>
      e = .returned (.func (.func 82) #[] #[.pointer (some ⟨w.heap.size + 1, 0, none⟩), .pointer (some ⟨w.heap.size, 0, none⟩), .pointer (some ⟨w.heap.size + 2, 0, none⟩)]) ∧
      Below w.heap.size w w' ∧ Boxed w' w.heap.size 9 (.string (strL l)) ∧ Boxed w' (w.heap.size + 1) 9 (.string ⟨#[32]⟩) ∧ Boxed w' (w.heap.size + 2) 3 (.int .i64 0) := by
  obtain ⟨S, hS⟩ : ∃ S, Hid (strL l = S) := ⟨_, rfl⟩
  rw [hS.out]
  have c : Calls Tryd.prog 71 #[.string S, .string ⟨#[32]⟩, .int .i64 0] w fun e w' =>
      e = .returned (.func (.func 82) #[] #[.pointer (some ⟨w.heap.size + 1, 0, none⟩), .pointer (some ⟨w.heap.size, 0, none⟩), .pointer (some ⟨w.heap.size + 2, 0, none⟩)]) ∧
      w' = ((w.alloc (.cells #[.string S] 9)).alloc (.cells #[.string ⟨#[32]⟩] 9)).alloc (.cells #[.int .i64 0] 3) := by
    have hmf : ∀ (fn : Fn) (first cap : Array Value) (w : World), (Instr.makeFunc fn first cap).run Tryd.prog w = .ok (.func fn first cap) w := fun _ _ _ _ => rfl
    go_enter Tryd.func71, Tryd.ntmps71
    go_wp2
    go_ret
    exact ⟨rfl, rfl⟩
  go_enter Tryd.func61, Tryd.ntmps61
  go_wp2_with (go_at_call 71; refine c.mono ?_; rintro e w' ⟨rfl, rfl⟩)
  go_ret
  refine ⟨rfl, (((Below.refl _ w).alloc (Nat.le_refl _) _).alloc (by simp) _).alloc (by simp; omega) _, ((Boxed.new w _ _).alloc _).alloc _, ?_, ?_⟩
  · have := Boxed.new (w.alloc (.cells #[.string S] 9)) 9 (.string ⟨#[32]⟩)
    rw [World.size_alloc] at this
    exact this.alloc _
  · have := Boxed.new ((w.alloc (.cells #[.string S] 9)).alloc (.cells #[.string ⟨#[32]⟩] 9)) 3 (.int .i64 0)
    rwa [World.size_alloc, World.size_alloc] at this

/-- what split hands back -/
def SplitEnd (line : List UInt8) (w : World) (e : Ending) (w' : World) : Prop :=
  (goodLine line = false ∧ e = .returned (.slice none 0 0)) ∨
  (goodLine line = true ∧ ∃ b, w.heap.size ≤ b ∧ e = .returned (.slice (some ⟨b, 0, none⟩) (wordsOf line).length (wordsOf line).length) ∧ w'.heap[b]? = some (.cells (cellsOfStrs (wordsOf line)).toArray 9 (0, 0)))

theorem split_any (line : List UInt8) (hl : line.length < 4294967281) (w : World) (m : Int) (hm : w.cell? ⟨2, 0, none⟩ = some (.int .i64 m)) :
    Calls Tryd.prog 45 #[.string (strL line)] w fun e w' => SplitEnd line w e w' ∧ Below w.heap.size w w' := by
  have c1 := Tryd.strings_CutSuffix (strL line) ⟨#[10]⟩ w (by rw [strL_size]; omega)
  rw [strL_data] at c1
  have hbl : (trimSuffix line [10]).length < 4294967281 := Nat.lt_of_le_of_lt (trimSuffix_le line [10]) hl
  obtain ⟨body, hbody⟩ : ∃ body, Hid (trimSuffix line [10] = body) := ⟨_, rfl⟩
  have hW : Hid (wordsOf line = segs 32 [] body) := by show wordsOf line = _; rw [wordsOf, hbody.out]
  rw [show (⟨(trimSuffix line (ByteArray.mk #[10]).data.toList).toArray⟩ : ByteArray) = strL body from by rw [← hbody.out]; rfl] at c1
  rw [show (ByteArray.mk #[10]).data.toList = [10] from rfl] at c1
  rw [hbody.out] at hbl
  have cs := seq_any body w
  obtain ⟨ended, he⟩ : ∃ ended, Hid (hasSuffix line [10] = ended) := ⟨_, rfl⟩
  rw [he.out] at c1
  obtain ⟨bad, hbad⟩ : ∃ bad, Hid ((segs 32 [] body).any noWord = bad) := ⟨_, rfl⟩
  have HG : Hid (goodLine line = (ended && !bad)) := by show goodLine line = _; rw [goodLine, he.out, hW.out, hbad.out]
  have HM := hid hm
  clear hm
  cases ended
  · go_enter Tryd.func45, Tryd.ntmps45
    go_wp2_with (go_at_call 60; refine c1.mono ?_; rintro e w1 ⟨rfl, hw⟩; rw [hw]; clear hw w1)
    go_ret
    exact ⟨.inl ⟨HG.out, rfl⟩, Below.refl _ _⟩
  · have hhas : ∀ w1, Below w.heap.size w w1 → Boxed w1 w.heap.size 9 (.string (strL body)) → Boxed w1 (w.heap.size + 1) 9 (.string ⟨#[32]⟩) → Boxed w1 (w.heap.size + 2) 3 (.int .i64 0) →
        Calls Tryd.prog 32 #[.func (.func 82) #[] #[.pointer (some ⟨w.heap.size + 1, 0, none⟩), .pointer (some ⟨w.heap.size, 0, none⟩), .pointer (some ⟨w.heap.size + 2, 0, none⟩)], .func (.func 34) #[] #[]] w1 fun e w2 => e = .returned (.bool bad) ∧ Below w.heap.size w w2 := by
      intro w1 hb b0 b1 b2
      have h0 := b0.lt
      have h1 := b1.lt
      have h2 := b2.lt
      refine (has_any 82 _ (fun k => k = w.heap.size) (fun k => k = w.heap.size ∨ k = w.heap.size + 1 ∨ k = w.heap.size + 2) (segs 32 [] body) w1 (enters_of Tryd.func82 (by kernel_rfl) rfl)
        (fun W hW => pieces_iter 2 w.heap.size (w.heap.size + 1) (w.heap.size + 2) body (by omega) W ((hW.block _ h0).trans b0) ((hW.block _ h1).trans b1) ((hW.block _ h2).trans b2) (by omega) (by omega)) (fun k hk => by omega) (fun k hk => by omega)).mono ?_
      rintro e w2 ⟨rfl, ht⟩
      refine ⟨by rw [hbad.out], hb.trans (ht.below hb.size (fun k hk => by omega))⟩
    have HH := hid hhas
    have hm := HM.out
    have hsp : ∀ w1, Below w.heap.size w w1 → Calls Tryd.prog 62 #[.string (strL body), .string ⟨#[32]⟩] w1 fun e w2 =>
        (∃ b, w.heap.size ≤ b ∧ e = .returned (.slice (some ⟨b, 0, none⟩) (wordsOf line).length (wordsOf line).length) ∧ w2.heap[b]? = some (.cells (cellsOfStrs (wordsOf line)).toArray 9 (0, 0))) ∧ Below w.heap.size w w2 := by
      intro w1 hb
      have hm1 := (hb.cell (p := ⟨2, 0, none⟩) (World.block_lt_of_cell? w _ hm)).trans hm
      refine (Tryd.strings_Split (strL body) ⟨#[32]⟩ m w1 (by rw [strL_size]; exact hbl) hm1 (by decide)).mono ?_
      obtain ⟨h1, h2⟩ := split_cells body
      rw [h1]
      have h3 : ((Lib.countB (strL body) ⟨#[32]⟩ : Nat) + 1) = (wordsOf line).length := by rw [hW.out]; exact h2
      rw [← hW.out]
      rintro e w2 ⟨rfl, rfl⟩
      refine ⟨⟨w1.heap.size, hb.size, ?_, World.alloc_heap_new _ _⟩, hb.trans (((Below.refl _ w1).alloc (Nat.le_refl _) _).mono hb.size)⟩
      rw [← h3]
    have HS := hid hsp
    clear hhas hsp hm
    obtain ⟨SB, hSB⟩ : ∃ SB, Hid (strL body = SB) := ⟨_, rfl⟩
    rw [hSB.out] at c1 cs HH HS
    obtain ⟨n, hn⟩ : ∃ n, Hid ((wordsOf line).length = n) := ⟨_, rfl⟩
    cases bad
    · go_enter Tryd.func45, Tryd.ntmps45
      go_wp2_with (first
        | (go_at_call 60; refine c1.mono ?_; clear c1; rintro e w1 ⟨rfl, hw⟩; rw [hw]; clear hw w1)
        | (go_at_call 61; refine cs.mono ?_; clear cs; rintro e w1 ⟨rfl, hb1, b0, b1, b2⟩)
        | (go_at_call 32; refine (HH.out w1 hb1 b0 b1 b2).mono ?_; clear HH; rintro e w2 ⟨rfl, hb2⟩)
        | (go_at_call 62; refine (HS.out w2 hb2).mono ?_; clear HS; rintro e w3 ⟨⟨b, hbb, rfl, hrow⟩, hb3⟩))
      go_ret
      exact ⟨.inr ⟨HG.out, b, hbb, rfl, hrow⟩, hb3⟩
    · go_enter Tryd.func45, Tryd.ntmps45
      go_wp2_with (first
        | (go_at_call 60; refine c1.mono ?_; clear c1; rintro e w1 ⟨rfl, hw⟩; rw [hw]; clear hw w1)
        | (go_at_call 61; refine cs.mono ?_; clear cs; rintro e w1 ⟨rfl, hb1, b0, b1, b2⟩)
        | (go_at_call 32; refine (HH.out w1 hb1 b0 b1 b2).mono ?_; clear HH; rintro e w2 ⟨rfl, hb2⟩))
      go_ret
      exact ⟨.inl ⟨HG.out, rfl⟩, hb2⟩
end Go.Proofs.YtdlebjogbhgheaaDoor.texts
