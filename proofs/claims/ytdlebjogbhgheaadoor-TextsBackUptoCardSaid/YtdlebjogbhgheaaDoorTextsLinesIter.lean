/- The program's iterator over the lines of a text, split into words: contract. No condition beyond the text's length. -/
import Derived.Test.YtdlebjogbhgheaaDoorTextsSplit
namespace Go.Proofs.YtdlebjogbhgheaaDoor.texts
open Go.RowKit Go.Lib Go.Shelf
set_option linter.unusedVariables false
attribute [local go_sem] Oper.semAt_some

theorem roundIn_wide {P : Program} {m m' l l' : Nat} {f : FuncId} {tmps : Array Value} {assign body : Code} {w : World} {R : Ending → World → Prop} (h : RoundIn Fence.wide m P l f tmps assign body w R) :
    RoundIn (Fence.wide.inRound l') m' P l f tmps assign body w R := ⟨trivial, fun c cs _ => h.2 c cs (room_wide _)⟩

theorem slines_any (S : ByteArray) (w : World) : Calls Tryd.prog 44 #[.string S] w fun e w' => e = .returned (.func (.func 59) #[] #[.pointer (some ⟨w.heap.size, 0, none⟩)]) ∧ w' = w.alloc (.cells #[.string S] 9) := by
  have hmf : ∀ (fn : Fn) (first cap : Array Value) (w : World), (Instr.makeFunc fn first cap).run Tryd.prog w = .ok (.func fn first cap) w := fun _ _ _ _ => rfl
  go_enter Tryd.func44, Tryd.ntmps44
  go_wp2
  go_ret
  exact ⟨rfl, rfl⟩

/-- what the iterator hands over for a line: its words in a row from block B on, or nil -/
def GaveLine (B : Nat) (line : List UInt8) (v : Value) (w : World) : Prop :=
  (goodLine line = false ∧ v = .slice none 0 0) ∨
  (goodLine line = true ∧ ∃ b, B ≤ b ∧ v = .slice (some ⟨b, 0, none⟩) (wordsOf line).length (wordsOf line).length ∧ w.heap[b]? = some (.cells (cellsOfStrs (wordsOf line)).toArray 9 (0, 0)))

theorem line_len {s : List UInt8} : ∀ (acc : List UInt8), ∀ x ∈ linesAux acc s, x.length ≤ acc.length + s.length := by
  induction s with
  | nil => intro acc x hx; unfold linesAux at hx; split at hx <;> simp at hx; subst hx; simp
  | cons b l ih =>
    intro acc x hx
    unfold linesAux at hx
    split at hx
    · rcases List.mem_cons.1 hx with rfl | hx
      · simp
      · have := ih [] x hx; simp at this ⊢; omega
    · have := ih _ x hx; simp at this ⊢; omega
theorem getD_len {s : List UInt8} {i : Nat} : ((linesAux [] s).getD i []).length ≤ s.length := by
  rw [List.getD_eq_getElem?_getD]
  cases h : (linesAux [] s)[i]? with
  | none => simp
  | some x => have := line_len [] x (List.mem_of_getElem? h); simpa using this

set_option maxRecDepth 100000 in
set_option maxHeartbeats 2000000 in
theorem words_iter (b : Nat) (s : List UInt8) (hlen : s.length < 4294967281) (m : Int) (W : World) (hb : Boxed W b 9 (.string (strL s)))
    (hm : W.cell? ⟨2, 0, none⟩ = some (.int .i64 m)) :
    Iter Tryd.prog 4 43 #[.pointer (some ⟨b, 0, none⟩)] (fun k => W.heap.size ≤ k ∧ k < W.heap.size + 4) (fun k => (W.heap.size ≤ k ∧ k < W.heap.size + 4) ∨ k = 2)
      (fun i => GaveLine (W.heap.size + 4) ((linesAux [] s).getD i [])) (linesAux [] s).length W := by
  intro lo J Jx hJ hJx hY h0
  have hML : 2 < W.heap.size := World.block_lt_of_cell? W _ hm
  refine callsIn_of_wp_marks Tryd.func43 rfl trivial ?_ rfl
  simp only [Tryd.ntmps43, List.size_toArray, List.length_cons, List.length_nil, Nat.reduceAdd, Nat.reduceSub, Array.replicate_succ, Array.replicate_zero, List.push_toArray, List.append_toArray, List.nil_append, List.cons_append]
  have HY := hid hY
  have HJ := hid hJ
  have HJX := hid hJx
  have HM := hid hm
  obtain ⟨L, hL⟩ : ∃ L, Hid (linesAux [] s = L) := ⟨_, rfl⟩
  have HLN : Hid (∀ i, (L.getD i []).length ≤ s.length) := fun i => by rw [← hL.out]; exact getD_len
  have hb1 : Boxed (W.alloc (.cells #[.func (.yield lo) #[] #[]] 74)) b 9 (.string (strL s)) := hb.alloc _
  have hc1 := hb1.cell
  have HIT : Hid (∀ X, Boxed X (W.heap.size + 1) 9 (.string (strL s)) → Iter Tryd.prog 3 59 #[.pointer (some ⟨W.heap.size + 1, 0, none⟩)] (fun k => k = W.heap.size + 1) (fun k => k = W.heap.size + 1) (isStr L) L.length X) := fun X hX => by
    rw [← hL.out]; exact lines_iter 3 (W.heap.size + 1) s (by omega) X hX
  rw [hL.out] at HY ⊢
  obtain ⟨S, hS⟩ : ∃ S, Hid (strL s = S) := ⟨_, rfl⟩
  rw [hS.out] at hc1 hb1 HIT
  clear hY hJ hJx hm hb hb1
  gi_wp2_with (refine ⟨trivial, ?_⟩; gi_at_call 44; refine (callsIn_wide.2 (slines_any S _)).mono ?_; rintro e w1 ⟨rfl, hw⟩; rw [hw]; clear hw w1)
  have B0 : Boxed ((W.alloc (.cells #[.func (.yield lo) #[] #[]] 74)).alloc (.cells #[.string S] 9)) W.heap.size 74 (.func (.yield lo) #[] #[]) := (Boxed.new W _ _).alloc _
  have B1 : Boxed ((W.alloc (.cells #[.func (.yield lo) #[] #[]] 74)).alloc (.cells #[.string S] 9)) (W.heap.size + 1) 9 (.string S) := by
    have := Boxed.new (W.alloc (.cells #[.func (.yield lo) #[] #[]] 74)) 9 (.string S)
    rwa [World.size_alloc] at this
  have hb0 : Below W.heap.size W ((W.alloc (.cells #[.func (.yield lo) #[] #[]] 74)).alloc (.cells #[.string S] 9)) := ((Below.refl _ W).alloc (Nat.le_refl _) _).alloc (by simp) _
  have hs0 : ((W.alloc (.cells #[.func (.yield lo) #[] #[]] 74)).alloc (.cells #[.string S] 9)).heap.size = W.heap.size + 2 := by simp
  have hmf : Tryd.prog.follows .mixedOrders = true := by kernel_rfl
  obtain ⟨W0, hW0⟩ : ∃ x, Hid (((W.alloc (.cells #[.func (.yield lo) #[] #[]] 74)).alloc (.cells #[.string S] 9)) = x) := ⟨_, rfl⟩
  rw [hW0.out] at B0 B1 hb0 hs0 ⊢
  have hm0 : W0.cell? ⟨2, 0, none⟩ = some (.int .i64 m) := (hb0.cell (p := ⟨2, 0, none⟩) hML).trans HM.out
  refine wpIn_range (gf := 59) (lb := #[.pointer (some ⟨W.heap.size + 1, 0, none⟩)]) rfl (enters_of Tryd.func59 (by kernel_rfl) rfl) (Z := fun k => k = W.heap.size + 1) (R := fun k => k = W.heap.size + 1) (G := isStr L) (N := L.length)
    (fun X hs hb => HIT.out X ((hb.block _ B1.lt).trans B1)) (by rw [hs0]; omega) (by rw [hs0]; omega) (by rw [hs0]; omega)
    (fun i v A B h _ => h)
    (fun i X => J i X ∧ Boxed X W.heap.size 74 (.func (.yield lo) #[] #[]) ∧ X.cell? ⟨2, 0, none⟩ = some (.int .i64 m))
    (fun c i X => c = .ret ∧ Jx i X)
    ?hI ?hIx ?h0
    (fun v => { tmps := #[.func (.yield lo) #[] #[], .pointer (some ⟨b, 0, none⟩), .pointer (some ⟨W.heap.size, 0, none⟩), v, .string S, .func (.func 59) #[] #[.pointer (some ⟨W.heap.size + 1, 0, none⟩)], v, undef, undef, undef, undef, undef], defers := [] })
    ?assign ?body ?done ?stop
  case hI =>
    rintro i A B ⟨h1, h2, h3⟩ ht
    rw [hs0] at ht
    refine ⟨HJ.out i A B h1 (ht.mono fun k _ h => by omega), ht.at h2 (by omega), ht.cell h3 (fun h => by change (2 : Nat) = W.heap.size + 1 ∨ 2 = W.heap.size + 2 ∨ 2 = W.heap.size + 2 + 1 at h; omega)⟩
  case hIx =>
    rintro c i A B ⟨h1, h2⟩ ht
    rw [hs0] at ht
    exact ⟨h1, HJX.out i A B h2 (ht.mono fun k _ h => by omega)⟩
  case h0 => exact ⟨HJ.out 0 _ _ h0 (Turned.new hb0), B0, hm0⟩
  case assign =>
    intro l v X K hK
    gi_wp2
    exact hK
  case body =>
    rintro l i v X hlt hsz ⟨hj, hb, hmx⟩ hv
    obtain rfl : v = .string (strL (L.getD i [])) := hv
    rw [hs0] at hsz
    have hc := hb.cell
    have HB := hid hb
    have HJ2 := hid hj
    -- the words of the line, and the round that yield asks for
    have hcall : ∀ w1, Turned (fun _ => False) X w1 → Calls Tryd.prog 45 #[.string (strL (L.getD i []))] w1 fun e w2 =>
        ∃ val fn tmps assign body, e = .returned val ∧ (Instr.yield lo #[val]).run Tryd.prog w2 = .ok (.round lo fn tmps assign body) w2 ∧ w2.cell? ⟨W.heap.size, 0, none⟩ = some (.func (.yield lo) #[] #[]) ∧
          RoundIn (Fence.wide.inRound l) 1 Tryd.prog lo fn tmps assign body w2 fun e' W3 => ∃ v : Bool, e' = .returned (.bool v) ∧ Hid ((v = true ∧ J (i + 1) W3 ∧ Turned (fun k => k ≠ W0.heap.size ∧ k ≠ W0.heap.size + 1 ∧ k ≠ W.heap.size + 1) X W3 ∧ Boxed W3 W.heap.size 74 (.func (.yield lo) #[] #[]) ∧ W3.cell? ⟨2, 0, none⟩ = some (.int .i64 m)) ∨
            (v = false ∧ Jx i W3 ∧ Turned (fun k => k ≠ W0.heap.size ∧ k ≠ W0.heap.size + 1 ∧ k ≠ W.heap.size + 1) X W3)) := by
      intro w1 ht
      have hm1 := ht.cell hmx (by simp)
      have hb1 : Boxed w1 W.heap.size 74 (.func (.yield lo) #[] #[]) := ht.at HB.out (by simp)
      refine (split_any (L.getD i []) (Nat.lt_of_le_of_lt (HLN.out i) hlen) w1 m hm1).mono ?_
      rintro e w2 ⟨hs, hbl⟩
      have ht2 : Turned (fun _ => False) X w2 := ht.trans (Turned.new hbl)
      have hj2 : J i w2 := HJ.out i _ _ HJ2.out (ht2.mono fun _ _ h => h.elim)
      have hg : ∃ val, e = .returned val ∧ GaveLine (W.heap.size + 4) (L.getD i []) val w2 := by
        rcases hs with ⟨h1, h2⟩ | ⟨h1, b', hb', h2, h3⟩
        · exact ⟨_, h2, .inl ⟨h1, rfl⟩⟩
        · exact ⟨_, h2, .inr ⟨h1, b', by have := ht.size; omega, rfl, h3⟩⟩
      obtain ⟨val, rfl, hg⟩ := hg
      obtain ⟨fn, tmps, assign, body, hy, hR⟩ := HY.out i val w2 hlt hj2 hg
      refine ⟨val, fn, tmps, assign, body, rfl, hy, Boxed.cell (ht2.at HB.out (by simp)), (roundIn_wide hR).mono ?_⟩
      have hmX : w2.cell? ⟨2, 0, none⟩ = some (.int .i64 m) := ht2.cell hmx (by simp)
      have hbX : Boxed w2 W.heap.size 74 (.func (.yield lo) #[] #[]) := ht2.at HB.out (by simp)
      rintro e W3 (⟨rfl, hJ3, hk3⟩ | ⟨rfl, hJ3, hk3⟩)
      · refine ⟨true, rfl, .inl ⟨rfl, hJ3, (ht2.mono fun _ _ h => h.elim).trans (hk3.mono fun k _ h => by omega), hk3.at hbX (fun h => h (.inl ⟨by omega, by omega⟩)), hk3.cell hmX (fun h => h (.inr rfl))⟩⟩
      · exact ⟨false, rfl, .inr ⟨rfl, hJ3, (ht2.mono fun _ _ h => h.elim).trans (hk3.mono fun k _ h => by omega)⟩⟩
    have HC := hid hcall
    clear hcall hb hj hmx
    obtain ⟨T, hT⟩ : ∃ T, Hid (strL (L.getD i []) = T) := ⟨_, rfl⟩
    rw [hT.out] at HC ⊢
    gi_wp2
    gi_region_with_o (first
      | (refine ⟨trivial, ?_⟩; gi_at_call 45; refine (CallsIn.inRound l (callsIn_wide.2 (HC.out _ (Turned.drew _)))).mono ?_; rintro e w2 ⟨val, fn, tmps, assign, body, rfl, hy, hcy, hR⟩)
      | (refine ⟨fun h => (by cases h), hR.mono ?_⟩; rintro e W3 ⟨v, rfl, hend⟩)
      | (refine hR.mono ?_; rintro e W3 ⟨v, rfl, hend⟩))
    all_goals
      rcases hend.out with ⟨rfl, hj3, ht3, hb3, hm3⟩ | ⟨rfl, hj3, ht3⟩
      · gi_wp2
        exact ⟨ht3.mono fun k _ h => by have h1 := h.1; have h2 := h.2.1; have h3 := h.2.2; exact ⟨by omega, by omega, by omega⟩, hj3, hb3, hm3⟩
      · gi_wp2
        exact ⟨ht3.mono fun k _ h => by have h1 := h.1; have h2 := h.2.1; have h3 := h.2.2; exact ⟨by omega, by omega, by omega⟩, rfl, hj3⟩
  case done =>
    rintro X ⟨hj, hb, hmx⟩ hK
    have HJ3 := hid hj
    clear hj hb hmx
    gi_wp2
    refine ⟨by simp, .inl ⟨_, _, rfl, run_takeDeferred hK, ?_⟩⟩
    exact ⟨_, results_none rfl _ _ _, ⟨_, rfl⟩, .inl (HJ.out _ _ _ HJ3.out (Turned.putObj _ _ _ ⟨by omega, by omega⟩))⟩
  case stop =>
    rintro c i X hlt ⟨rfl, hj⟩ hK
    have HJ3 := hid hj
    clear hj
    gi_wp2
    refine ⟨by simp, .inl ⟨_, _, rfl, run_takeDeferred hK, ?_⟩⟩
    exact ⟨_, results_none rfl _ _ _, ⟨_, rfl⟩, .inr ⟨i, hlt, HJX.out _ _ _ HJ3.out (Turned.putObj _ _ _ ⟨by omega, by omega⟩)⟩⟩
end Go.Proofs.YtdlebjogbhgheaaDoor.texts
