/- Contract of Lines. No condition beyond the text's length. -/
import Derived.Test.YtdlebjogbhgheaaDoorTextsLinesIter
import Derived.Maps.AppendAt
import Derived.Laws.Cover3
import Derived.Test.YtdlebjogbhgheaaDoorOpen
namespace Go.Proofs.YtdlebjogbhgheaaDoor.texts
open Go.RowKit Go.Lib Go.Shelf
set_option linter.unusedVariables false
attribute [local go_sem] Oper.semAt_some

theorem lines_fn (S : ByteArray) (w : World) : Calls Tryd.prog 29 #[.string S] w fun e w' => e = .returned (.func (.func 43) #[] #[.pointer (some ⟨w.heap.size, 0, none⟩)]) ∧ w' = w.alloc (.cells #[.string S] 9) := by
  have hmf : ∀ (fn : Fn) (first cap : Array Value) (w : World), (Instr.makeFunc fn first cap).run Tryd.prog w = .ok (.func fn first cap) w := fun _ _ _ _ => rfl
  go_enter Tryd.func29, Tryd.ntmps29
  go_wp2
  go_ret
  exact ⟨rfl, rfl⟩
theorem clone_any (l : List UInt8) (hl : l.length ≤ 281474976710656) (w : World) : Calls Tryd.prog 30 #[.string (strL l)] w fun e w' => e = .returned (.string (strL l)) ∧ Below w.heap.size w w' := by
  have c := Tryd.stringslite_Clone (strL l) w (by rw [strL_size]; exact hl)
  obtain ⟨S, hS⟩ : ∃ S, Hid (strL l = S) := ⟨_, rfl⟩
  rw [hS.out] at c ⊢
  go_enter Tryd.func30, Tryd.ntmps30
  go_wp2_with (go_at_call 46; refine c.mono ?_; rintro e w' ⟨rfl, hb⟩)
  go_ret
  exact ⟨rfl, hb⟩

/-- 's == nil' of a slice of strings -/
theorem eq_nil (W : World) (a : Option Addr) (n c : Nat) : (binOp .eql 51 (.slice a n c) (.slice none 0 0)).run Tryd.prog W = .ok (.bool a.isNone) W := by
  have h := run_equal_slice_nil (P := Tryd.prog) W 51 9 a n c Tryd.underlying51
  simp [binOp, h, Result.andThen]

/-- the slice at a reads as the rows of strings wss -/
def StrRows (w : World) (a : Option Addr) (wss : List (List (List UInt8))) : Prop :=
  wss = [] ∨ ∃ b off, a = some ⟨b, off, none⟩ ∧ b < w.heap.size ∧ ∀ i, i < wss.length → ∃ ai ci, w.cell? ⟨b, off + i, none⟩ = some (.slice ai (wss.getD i []).length ci) ∧ (wss.getD i []).length ≤ ci ∧ Strs w ai (wss.getD i [])

/-- the j-th of the values vs is the slice of the words of the line -/
def RowAt (B : Nat) (w : World) (v : Value) (line : List UInt8) : Prop :=
  ∃ b, B ≤ b ∧ v = .slice (some ⟨b, 0, none⟩) (wordsOf line).length (wordsOf line).length ∧ w.heap[b]? = some (.cells (cellsOfStrs (wordsOf line)).toArray 9 (0, 0))
/-- what the lines read so far lie in -/
def Gathered (B : Nat) (w : World) (v : Value) (L : List (List UInt8)) (i : Nat) : Prop :=
  ∃ vs, w.ownsRow B 51 1 v i vs ∧ ∀ j, j < i → goodLine (L.getD j []) = true ∧ ∃ u, vs[j]? = some u ∧ RowAt B w u (L.getD j [])
theorem RowAt.kept {B : Nat} {w w' : World} {v : Value} {line : List UInt8} (h : RowAt B w v line) (hk : ∀ b o, B ≤ b → w.heap[b]? = some (.cells o 9 (0, 0)) → w'.heap[b]? = w.heap[b]?) : RowAt B w' v line := by
  obtain ⟨b, hb, hv, ho⟩ := h
  exact ⟨b, hb, hv, (hk b _ hb ho).trans ho⟩

theorem Gathered.turned {B : Nat} {Z : Nat → Prop} {w w' : World} {v : Value} {L : List (List UInt8)} {i : Nat} (h : Gathered B w v L i) (ht : Turned Z w w') (hz : ∀ k, Z k → k < B) : Gathered B w' v L i := by
  obtain ⟨vs, h2, h3⟩ := h
  refine ⟨vs, ⟨h2.1, ?_⟩, ?_⟩
  · rcases h2.2 with h | ⟨g, cap, cur, e1, e2, e3, e4⟩
    · exact .inl h
    · exact .inr ⟨g, cap, cur, e1, e2, ht.at e3 (fun z => by have := hz g z; omega), e4⟩
  · intro j hj
    obtain ⟨e1, u, e2, e3⟩ := h3 j hj
    exact ⟨e1, u, e2, e3.kept fun b o hb ho => ht.block b (Array.getElem?_eq_some_iff.1 ho).1 (fun z => by have := hz b z; omega)⟩
theorem lines_count : ∀ (s acc : List UInt8), (linesAux acc s).length ≤ s.length + (if acc = [] then 0 else 1)
  | [], acc => by unfold linesAux; split <;> simp
  | b :: l, acc => by
    unfold linesAux
    split
    · have := lines_count l []
      simp at this ⊢; omega
    · have := lines_count l (acc ++ [b])
      simp at this ⊢; omega
theorem info_strs : (Tryd.prog.info? 51).map (fun i => (i.zero, i.size, i.bytes)) = some (some (.slice none 0 0), 1, 24) := by kernel_rfl
/-- the row of the gathered lines lies in a block from B on, of its own kind -/
theorem own_not {W : World} {B : Nat} {v : Value} {i : Nat} {vs : List Value} (h : W.ownsRow B 51 1 v i vs) {k : Nat} {o : Array Value} {t : TypeId} (hk : W.heap[k]? = some (.cells o t (0, 0))) (ht : t ≠ 51) : some k ≠ v.ownBlock := by
  rcases h.2 with ⟨rfl, _⟩ | ⟨g, cap, cur, rfl, _, hg, _⟩
  · simp [Value.ownBlock]
  · intro e
    obtain rfl : k = g := by simpa [Value.ownBlock] using e
    rw [hk] at hg
    injection hg with hg
    injection hg with _ h2 _
    exact ht h2

/-- how Lines ends -/
def LinesEnd (s : List UInt8) (e : Ending) (w' : World) : Prop :=
  ((∀ j, j < (linesAux [] s).length → goodLine ((linesAux [] s).getD j []) = true) ∧ ∃ v B, e = .returned (.tuple #[v, .int .i64 0, .int .i64 0]) ∧ Gathered B w' v (linesAux [] s) (linesAux [] s).length) ∨
  (∃ k, k < (linesAux [] s).length ∧ (∀ j, j < k → goodLine ((linesAux [] s).getD j []) = true) ∧ goodLine ((linesAux [] s).getD k []) = false ∧ e = .returned (.tuple #[.slice none 0 0, .int .i64 ((k : Int) + 1), .int .i64 4]))

set_option maxRecDepth 100000 in
set_option maxHeartbeats 4000000 in
theorem lines_any (s : List UInt8) (hlen : s.length ≤ 4294967280) (w : World) (hr : Ready w) :
    Calls Tryd.prog 16 #[.string (strL s)] w fun e w' => LinesEnd s e w' ∧ Below w.heap.size w w' := by
  obtain ⟨m, hm⟩ := hr.ml
  have hML : 2 < w.heap.size := World.block_lt_of_cell? w _ hm
  refine (callsIn_wide (n := 5)).1 ?_
  refine callsIn_of_wp_marks Tryd.func16 rfl trivial ?_ rfl
  simp only [Tryd.ntmps16, List.size_toArray, List.length_cons, List.length_nil, Nat.reduceAdd, Nat.reduceSub, Array.replicate_succ, Array.replicate_zero, List.push_toArray, List.append_toArray, List.nil_append, List.cons_append]
  have HCL : Hid (∀ w1, Calls Tryd.prog 30 #[.string (strL s)] w1 fun e w' => e = .returned (.string (strL s)) ∧ Below w1.heap.size w1 w') := fun w1 => clone_any s (by omega) w1
  have HM := hid hm
  have HLEN := hid hlen
  obtain ⟨S, hS⟩ : ∃ S, Hid (strL s = S) := ⟨_, rfl⟩
  rw [hS.out] at HCL ⊢
  clear hm hr hlen
  gi_wp2_with (first
    | (refine ⟨trivial, ?_⟩; gi_at_call 30; refine (callsIn_wide.2 (HCL.out _)).mono ?_; rintro e w1 ⟨rfl, hb1⟩)
    | (refine ⟨trivial, ?_⟩; gi_at_call 29; refine (callsIn_wide.2 (lines_fn S _)).mono ?_; rintro e w2 ⟨rfl, hw⟩; rw [hw]; clear hw w2))
  -- the four boxes
  have hbA : Below w.heap.size w ((((w.alloc (.cells #[.slice none 0 0] 36)).alloc (.cells #[.int .i64 0] 3)).alloc (.cells #[.int .i64 0] 22)).alloc (.cells #[.slice none 0 0] 36)) := ((((Below.refl _ w).alloc (Nat.le_refl _) _).alloc (by simp) _).alloc (by simp; omega) _).alloc (by simp; omega) _
  have hsA : ((((w.alloc (.cells #[.slice none 0 0] 36)).alloc (.cells #[.int .i64 0] 3)).alloc (.cells #[.int .i64 0] 22)).alloc (.cells #[.slice none 0 0] 36)).heap.size = w.heap.size + 4 := by simp
  have A0 : Boxed ((((w.alloc (.cells #[.slice none 0 0] 36)).alloc (.cells #[.int .i64 0] 3)).alloc (.cells #[.int .i64 0] 22)).alloc (.cells #[.slice none 0 0] 36)) w.heap.size 36 (.slice none 0 0) := (((Boxed.new w _ _).alloc _).alloc _).alloc _
  have A1 : Boxed ((((w.alloc (.cells #[.slice none 0 0] 36)).alloc (.cells #[.int .i64 0] 3)).alloc (.cells #[.int .i64 0] 22)).alloc (.cells #[.slice none 0 0] 36)) (w.heap.size + 1) 3 (.int .i64 0) := by
    have := Boxed.new (w.alloc (.cells #[.slice none 0 0] 36)) 3 (.int .i64 0)
    rw [World.size_alloc] at this
    exact (this.alloc _).alloc _
  have A2 : Boxed ((((w.alloc (.cells #[.slice none 0 0] 36)).alloc (.cells #[.int .i64 0] 3)).alloc (.cells #[.int .i64 0] 22)).alloc (.cells #[.slice none 0 0] 36)) (w.heap.size + 2) 22 (.int .i64 0) := by
    have := Boxed.new ((w.alloc (.cells #[.slice none 0 0] 36)).alloc (.cells #[.int .i64 0] 3)) 22 (.int .i64 0)
    rw [World.size_alloc, World.size_alloc] at this
    exact this.alloc _
  have A3 : Boxed ((((w.alloc (.cells #[.slice none 0 0] 36)).alloc (.cells #[.int .i64 0] 3)).alloc (.cells #[.int .i64 0] 22)).alloc (.cells #[.slice none 0 0] 36)) (w.heap.size + 3) 36 (.slice none 0 0) := by
    have := Boxed.new (((w.alloc (.cells #[.slice none 0 0] 36)).alloc (.cells #[.int .i64 0] 3)).alloc (.cells #[.int .i64 0] 22)) 36 (.slice none 0 0)
    rwa [World.size_alloc, World.size_alloc, World.size_alloc] at this
  obtain ⟨WA, hWA⟩ : ∃ x, Hid (((((w.alloc (.cells #[.slice none 0 0] 36)).alloc (.cells #[.int .i64 0] 3)).alloc (.cells #[.int .i64 0] 22)).alloc (.cells #[.slice none 0 0] 36)) = x) := ⟨_, rfl⟩
  rw [hWA.out] at hbA hsA A0 A1 A2 A3 hb1
  clear hWA
  have hbW : Below w.heap.size w (w1.alloc (.cells #[.string S] 9)) := (hbA.trans (hb1.mono hbA.size)).alloc (Nat.le_trans hbA.size hb1.size) _
  have hbB : Below WA.heap.size WA (w1.alloc (.cells #[.string S] 9)) := hb1.alloc hb1.size _
  have BS : Boxed (w1.alloc (.cells #[.string S] 9)) w1.heap.size 9 (.string S) := Boxed.new w1 _ _
  obtain ⟨W0, hW0⟩ : ∃ x, Hid (w1.alloc (.cells #[.string S] 9) = x) := ⟨_, rfl⟩
  rw [hW0.out] at hbW hbB BS ⊢
  have hs1 := hb1.size
  have hs0 := BS.lt
  have M0 : W0.cell? ⟨2, 0, none⟩ = some (.int .i64 m) := (hbW.cell (p := ⟨2, 0, none⟩) hML).trans HM.out
  replace A0 : Boxed W0 w.heap.size 36 (.slice none 0 0) := (hbB.block _ A0.lt).trans A0
  replace A1 : Boxed W0 (w.heap.size + 1) 3 (.int .i64 0) := (hbB.block _ A1.lt).trans A1
  replace A2 : Boxed W0 (w.heap.size + 2) 22 (.int .i64 0) := (hbB.block _ A2.lt).trans A2
  replace A3 : Boxed W0 (w.heap.size + 3) 36 (.slice none 0 0) := (hbB.block _ A3.lt).trans A3
  obtain ⟨L, hL⟩ : ∃ L, Hid (linesAux [] s = L) := ⟨_, rfl⟩
  have hLN : L.length ≤ 4294967280 := by have h1 := lines_count s []; have h2 := HLEN.out; rw [hL.out] at h1; simp at h1; omega
  rw [← hS.out] at BS
  refine wpIn_range (gf := 43) (lb := #[.pointer (some ⟨w1.heap.size, 0, none⟩)]) rfl (enters_of Tryd.func43 (by kernel_rfl) rfl)
    (Z := fun k => W0.heap.size + 2 ≤ k ∧ k < W0.heap.size + 6) (R := fun k => (W0.heap.size + 2 ≤ k ∧ k < W0.heap.size + 6) ∨ k = 2) (G := fun i => GaveLine (W0.heap.size + 6) (L.getD i [])) (N := L.length)
    (fun X hs hb => by
      have := words_iter w1.heap.size s (by have := HLEN.out; omega) m X ((hb.block _ hs0).trans BS) ((hb.cell (p := ⟨2, 0, none⟩) (by have := hbW.size; show (2 : Nat) < _; omega)).trans M0)
      rw [hs, hL.out] at this
      exact this)
    (by omega) (by omega) (by have := hbW.size; omega)
    ?hG
    (fun i X => (∃ v, Boxed X (w.heap.size + 3) 36 v ∧ Gathered (W0.heap.size + 6) X v L i) ∧ Boxed X w.heap.size 36 (.slice none 0 0) ∧ Boxed X (w.heap.size + 1) 3 (.int .i64 0) ∧ Boxed X (w.heap.size + 2) 22 (.int .i64 0) ∧ Below w.heap.size w X)
    (fun c i X => c = .ret ∧ (∀ j, j < i → goodLine (L.getD j []) = true) ∧ goodLine (L.getD i []) = false ∧ Boxed X w.heap.size 36 (.slice none 0 0) ∧ Boxed X (w.heap.size + 1) 3 (.int .i64 ((i : Int) + 1)) ∧ Boxed X (w.heap.size + 2) 22 (.int .i64 4) ∧ Below w.heap.size w X)
    ?hI ?hIx ?h0
    (fun v => { tmps := #[.string S, undef, .pointer (some ⟨w.heap.size, 0, none⟩), .pointer (some ⟨w.heap.size + 1, 0, none⟩), .pointer (some ⟨w.heap.size + 1 + 1, 0, none⟩), .pointer (some ⟨w.heap.size + 1 + 1 + 1, 0, none⟩), v, .string S, .string S, .func (.func 43) #[] #[.pointer (some ⟨w1.heap.size, 0, none⟩)], v, undef, undef, undef, undef, undef, undef, undef, undef, undef, undef], defers := [] })
    ?assign ?body ?done ?stop
  case hG =>
    rintro i v A B (h | ⟨h1, b', h2, h3, h4⟩) ht
    · exact .inl h
    · exact .inr ⟨h1, b', h2, h3, ht.at h4 (by omega)⟩
  case hI =>
    rintro i A B ⟨⟨v, h1, h2⟩, h4, h5, h6, h7⟩ ht
    have hbs := hbW.size
    have hbz := hbB.size
    exact ⟨⟨v, ht.at h1 (by omega), h2.turned ht (fun k z => by omega)⟩, ht.at h4 (by omega), ht.at h5 (by omega), ht.at h6 (by omega), h7.trans (ht.below h7.size (fun k hk h => by omega))⟩
  case hIx =>
    rintro c i A B ⟨h1, h2, h3, h4, h5, h6, h7⟩ ht
    have hbs := hbW.size
    have hbz := hbB.size
    exact ⟨h1, h2, h3, ht.at h4 (by omega), ht.at h5 (by omega), ht.at h6 (by omega), h7.trans (ht.below h7.size (fun k hk h => by omega))⟩
  case h0 => exact ⟨⟨_, A3, [], World.ownsRow_nil _ _ _ _, fun j h => by omega⟩, A0, A1, A2, hbW⟩
  case assign =>
    intro l v X K hK
    gi_wp2
    exact hK
  case body =>
    rintro l i v X hlt hsz ⟨⟨v0, hb3, vs, hown, hrows⟩, hb0, hb1', hb2, hbl⟩ hv
    obtain ⟨a0, c0, rfl, hc0⟩ := ownsRow_slice hown
    have hbs := hbW.size
    have hbz := hbB.size
    have x3 := hb3.cell
    have y3 := hb3.frozen
    have hmx : Tryd.prog.follows .mixedOrders = true := by kernel_rfl
    rcases hv with ⟨hbad, rfl⟩ | ⟨hgood, b', hb', rfl, hrow⟩
    · have x0 := hb0.cell
      have y0 := hb0.frozen
      have x1 := hb1'.cell
      have y1 := hb1'.frozen
      have x2 := hb2.cell
      have y2 := hb2.frozen
      have i1 : (i : Int) ≤ 4294967280 := by omega
      have HROWS := hid hrows
      have HB0 := hid hb0
      have HB1 := hid hb1'
      have HB2 := hid hb2
      have HBL := hid hbl
      have HBAD := hid hbad
      have iw : IntKind.i64.wrap ((i : Int) + 1) = (i : Int) + 1 := by simp [IntKind.wrap, IntKind.bits, IntKind.signed]; omega
      clear hrows hown hb0 hb1' hb2 hbl hb3 hbad
      have en := eq_nil X none 0 0
      simp only [Option.isNone_none] at en
      gi_wp2
      gi_region_with_o fail
      all_goals
        gi_wp2
        have hne1 : ¬ (w.heap.size = w.heap.size + 1) := by omega
        have d0 : Boxed (((X.setCell ⟨w.heap.size, 0, none⟩ (.slice none 0 0)).setCell ⟨w.heap.size + 1, 0, none⟩ (.int .i64 ((i : Int) + 1))).setCell ⟨w.heap.size + 2, 0, none⟩ (.int .i64 4)).drew w.heap.size 36 (.slice none 0 0) :=
          ((HB0.out.set _).other (by omega) _).other (by omega) _
        have d1 : Boxed (((X.setCell ⟨w.heap.size, 0, none⟩ (.slice none 0 0)).setCell ⟨w.heap.size + 1, 0, none⟩ (.int .i64 ((i : Int) + 1))).setCell ⟨w.heap.size + 2, 0, none⟩ (.int .i64 4)).drew (w.heap.size + 1) 3 (.int .i64 ((i : Int) + 1)) :=
          ((HB1.out.other (by omega) _).set _).other (by omega) _
        have d2 : Boxed (((X.setCell ⟨w.heap.size, 0, none⟩ (.slice none 0 0)).setCell ⟨w.heap.size + 1, 0, none⟩ (.int .i64 ((i : Int) + 1))).setCell ⟨w.heap.size + 2, 0, none⟩ (.int .i64 4)).drew (w.heap.size + 2) 22 (.int .i64 4) :=
          ((HB2.out.other (by omega) _).other (by omega) _).set _
        have ht : Turned (fun k => k = w.heap.size ∨ k = w.heap.size + 1 ∨ k = w.heap.size + 2) X (((X.setCell ⟨w.heap.size, 0, none⟩ (.slice none 0 0)).setCell ⟨w.heap.size + 1, 0, none⟩ (.int .i64 ((i : Int) + 1))).setCell ⟨w.heap.size + 2, 0, none⟩ (.int .i64 4)).drew :=
          (((Turned.setCell X _ _ (.inl rfl)).trans (Turned.setCell _ ⟨w.heap.size + 1, 0, none⟩ _ (.inr (.inl rfl)))).trans (Turned.setCell _ ⟨w.heap.size + 2, 0, none⟩ _ (.inr (.inr rfl)))).trans (Turned.drew _)
        exact ⟨ht.mono (fun k _ h => ⟨by omega, by omega, by omega⟩), rfl, fun j hj => (HROWS.out j hj).1, HBAD.out, d0, d1, d2, HBL.out.trans (ht.below HBL.out.size (fun k hk h => by omega))⟩
    · obtain ⟨i0, hi, hz0, hz1, hz2⟩ := info_parts info_strs
      have en := eq_nil X (some ⟨b', 0, none⟩) (wordsOf (L.getD i [])).length (wordsOf (L.getD i [])).length
      simp only [Option.isNone_some] at en
      have HROWS := hid hrows
      have HB0 := hid hb0
      have HB1 := hid hb1'
      have HB2 := hid hb2
      have HB3 := hid hb3
      have HBL := hid hbl
      have HOWN := hid hown
      have HROW := hid hrow
      obtain ⟨nw, hnw⟩ : ∃ nw, Hid ((wordsOf (L.getD i [])).length = nw) := ⟨_, rfl⟩
      rw [hnw.out] at en ⊢
      have hbX : W0.heap.size + 6 ≤ X.heap.size := by have := (Array.getElem?_eq_some_iff.1 hrow).1; omega
      clear hrows hown hb0 hb1' hb2 hbl hb3 hrow
      gi_wp2_with (gi_at_builtin; refine wpListIn_append_own _ rfl _ _ 36 rfl (W0.heap.size + 6) 51 i0 (.slice none 0 0) 1 24 Tryd.underlying36 hi hz0 hz1 hz2 rfl (by decide) _ i vs rfl (HOWN.out.alloc _) ⟨X.heap.size, 0, none⟩ 1 1 [_] rfl rfl (cell_one_new _ _ _) (by simp [Value.oneCell']) (by unfold maxLen; omega) (by omega) (by simp; omega) ?_; intro v' w3 hown' hgrow _; obtain ⟨g', cap', rfl⟩ := ownsRow_succ hown'; have B3 : Boxed w3 (w.heap.size + 3) 36 (.slice a0 i c0) := (HB3.out.alloc _).kept hgrow (own_not HOWN.out HB3.out (by decide)); have x4 := B3.cell; have y4 := B3.frozen)
      have hlt3 : ∀ k, (Value.slice a0 i c0).ownBlock = some k → W0.heap.size + 6 ≤ k := fun k e => (HOWN.out.lt k e).1
      have ht : Turned (fun k => W0.heap.size + 6 ≤ k ∨ k = w.heap.size + 3) X (w3.setCell ⟨w.heap.size + 3, 0, none⟩ (.slice (some ⟨g', 0, none⟩) (i + 1) cap')) :=
        ((Turned.alloc X _).trans (Turned.grown hgrow (fun k e _ => .inl (hlt3 k e)))).trans (Turned.setCell _ ⟨w.heap.size + 3, 0, none⟩ _ (.inr rfl))
      have hrk : ∀ (b : Nat) (o : Array Value), W0.heap.size + 6 ≤ b → X.heap[b]? = some (.cells o 9 (0, 0)) → (w3.setCell ⟨w.heap.size + 3, 0, none⟩ (.slice (some ⟨g', 0, none⟩) (i + 1) cap')).heap[b]? = X.heap[b]? := fun b o hb ho => by
        have hl := (Array.getElem?_eq_some_iff.1 ho).1
        rw [Below.heap_setCell _ _ _ b (by show b ≠ w.heap.size + 3; omega), hgrow.block b (by simp; omega) (own_not HOWN.out ho (by decide)), Below.heap_alloc _ _ b hl]
      have hvl : vs.length = i := by simpa using HOWN.out.1
      refine ⟨ht.mono (fun k _ h => ⟨by omega, by omega, by omega⟩), ⟨_, B3.set _, vs ++ [_], hown'.kept (grownBy_setCell' w3 _ _) (.inr (own_not hown' B3 (by decide)).symm), ?_⟩, ht.at HB0.out (by omega), ht.at HB1.out (by omega), ht.at HB2.out (by omega), HBL.out.trans (ht.below HBL.out.size (fun k hk h => by omega))⟩
      intro j hj
      by_cases e : j < i
      · obtain ⟨e1, u, e2, e3⟩ := HROWS.out j e
        exact ⟨e1, u, by rw [List.getElem?_append_left (by omega)]; exact e2, e3.kept hrk⟩
      · obtain rfl : j = i := by omega
        exact ⟨hgood, _, by rw [List.getElem?_append_right (by omega), hvl, Nat.sub_self]; rfl, RowAt.kept ⟨b', hb', by rw [hnw.out], HROW.out⟩ hrk⟩
  case done =>
    rintro X ⟨⟨v, h3, hg⟩, h0, h1, h2, hbl⟩ hK
    have hbs := hbW.size
    have hbz := hbB.size
    obtain ⟨vs, hown, hrows⟩ := hg
    obtain ⟨a0, c0, rfl, hc0⟩ := ownsRow_slice hown
    have HG : Hid (Gathered (W0.heap.size + 6) X (.slice a0 L.length c0) L L.length) := ⟨vs, hown, hrows⟩
    have x3 := h3.cell
    have x0 := h0.cell
    have y0 := h0.frozen
    have x1 := h1.cell
    have y1 := h1.frozen
    have x2 := h2.cell
    have y2 := h2.frozen
    have H0 := hid h0
    have H1 := hid h1
    have H2 := hid h2
    have HBL := hid hbl
    clear hown hrows h0 h1 h2 h3 hbl
    gi_wp2
    have d0 : Boxed (((X.setCell ⟨w.heap.size, 0, none⟩ (.slice a0 L.length c0)).setCell ⟨w.heap.size + 1, 0, none⟩ (.int .i64 0)).setCell ⟨w.heap.size + 2, 0, none⟩ (.int .i64 0)) w.heap.size 36 (.slice a0 L.length c0) := ((H0.out.set _).other (by omega) _).other (by omega) _
    have d1 : Boxed (((X.setCell ⟨w.heap.size, 0, none⟩ (.slice a0 L.length c0)).setCell ⟨w.heap.size + 1, 0, none⟩ (.int .i64 0)).setCell ⟨w.heap.size + 2, 0, none⟩ (.int .i64 0)) (w.heap.size + 1) 3 (.int .i64 0) := ((H1.out.other (by omega) _).set _).other (by omega) _
    have d2 : Boxed (((X.setCell ⟨w.heap.size, 0, none⟩ (.slice a0 L.length c0)).setCell ⟨w.heap.size + 1, 0, none⟩ (.int .i64 0)).setCell ⟨w.heap.size + 2, 0, none⟩ (.int .i64 0)) (w.heap.size + 2) 22 (.int .i64 0) := ((H2.out.other (by omega) _).other (by omega) _).set _
    have ht : Turned (fun k => k = w.heap.size ∨ k = w.heap.size + 1 ∨ k = w.heap.size + 2) X (((X.setCell ⟨w.heap.size, 0, none⟩ (.slice a0 L.length c0)).setCell ⟨w.heap.size + 1, 0, none⟩ (.int .i64 0)).setCell ⟨w.heap.size + 2, 0, none⟩ (.int .i64 0)) :=
      ((Turned.setCell X _ _ (.inl rfl)).trans (Turned.setCell _ ⟨w.heap.size + 1, 0, none⟩ _ (.inr (.inl rfl)))).trans (Turned.setCell _ ⟨w.heap.size + 2, 0, none⟩ _ (.inr (.inr rfl)))
    have hK3 := ht.at hK (by omega)
    have hg3 := HG.out.turned ht (fun k z => by omega)
    have hbl3 := HBL.out.trans (ht.below HBL.out.size (fun k hk h => by omega))
    obtain ⟨X3, hX3⟩ : ∃ x, Hid ((((X.setCell ⟨w.heap.size, 0, none⟩ (.slice a0 L.length c0)).setCell ⟨w.heap.size + 1, 0, none⟩ (.int .i64 0)).setCell ⟨w.heap.size + 2, 0, none⟩ (.int .i64 0)) = x) := ⟨_, rfl⟩
    rw [show w.heap.size + 1 + 1 = w.heap.size + 2 from rfl]
    rw [hX3.out] at d0 d1 d2 hK3 hg3 hbl3 ⊢
    have hp : Turned (fun k => k = W0.heap.size) X3 (X3.putObj W0.heap.size (.deferred none)) := Turned.putObj _ _ _ rfl
    have c0' := hp.cell d0.cell (by show ¬ (w.heap.size = W0.heap.size); omega)
    have c1' := hp.cell d1.cell (by show ¬ (w.heap.size + 1 = W0.heap.size); omega)
    have c2' := hp.cell d2.cell (by show ¬ (w.heap.size + 2 = W0.heap.size); omega)
    refine ⟨by simp, .inl ⟨_, _, rfl, run_takeDeferred hK3, ?_⟩⟩
    refine ⟨.tuple #[.slice a0 L.length c0, .int .i64 0, .int .i64 0], ?_, ?_, ?_⟩
    · simp [results, Tryd.f16, go_sem, c0', c1', c2']
    · refine .inl ⟨?_, _, W0.heap.size + 6, rfl, ?_⟩
      · rw [hL.out]; obtain ⟨_, _, hr⟩ := hg3; exact fun j hj => (hr j hj).1
      · rw [hL.out]; exact hg3.turned hp (fun k z => by omega)
    · exact hbl3.trans (hp.below hbl3.size (fun k hk h => by omega))
  case stop =>
    rintro c i X hlt ⟨rfl, hgood, hbad, h0, h1, h2, hbl⟩ hK
    have hbs := hbW.size
    have hbz := hbB.size
    have H0 := hid h0
    have H1 := hid h1
    have H2 := hid h2
    have HBL := hid hbl
    clear h0 h1 h2 hbl
    gi_wp2
    have hp : Turned (fun k => k = W0.heap.size) X (X.putObj W0.heap.size (.deferred none)) := Turned.putObj _ _ _ rfl
    have c0' := hp.cell H0.out.cell (by show ¬ (w.heap.size = W0.heap.size); omega)
    have c1' := hp.cell H1.out.cell (by show ¬ (w.heap.size + 1 = W0.heap.size); omega)
    have c2' := hp.cell H2.out.cell (by show ¬ (w.heap.size + 2 = W0.heap.size); omega)
    refine ⟨by simp, .inl ⟨_, _, rfl, run_takeDeferred hK, ?_⟩⟩
    refine ⟨.tuple #[.slice none 0 0, .int .i64 ((i : Int) + 1), .int .i64 4], ?_, ?_, ?_⟩
    · simp [results, Tryd.f16, go_sem, c0', c1', c2']
    · refine .inr ⟨i, by rw [hL.out]; exact hlt, by rw [hL.out]; exact hgood, by rw [hL.out]; exact hbad, rfl⟩
    · exact HBL.out.trans (hp.below HBL.out.size (fun k hk h => by omega))
end Go.Proofs.YtdlebjogbhgheaaDoor.texts
