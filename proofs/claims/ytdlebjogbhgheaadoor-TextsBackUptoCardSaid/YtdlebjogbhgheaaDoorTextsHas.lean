/- Contract of has: over an iterator that hands over strings, whether one of them is no word. No condition. -/
import Derived.Test.YtdlebjogbhgheaaDoorTextsSeqs
namespace Go.Proofs.YtdlebjogbhgheaaDoor
theorem Turned.then {Z Z' : Nat → Prop} {a b c : World} (h : Turned Z a b) (k : Turned Z' b c) (hz : ∀ q, q < a.heap.size → Z' q → Z q) : Turned Z a c :=
  ⟨k.os.trans h.os, k.tape.trans h.tape, k.output.trans h.output, Nat.le_trans h.size k.size, fun i hi hn => (k.block i (Nat.lt_of_lt_of_le hi h.size) fun z => hn (hz i hi z)).trans (h.block i hi hn)⟩
end Go.Proofs.YtdlebjogbhgheaaDoor
namespace Go.Proofs.YtdlebjogbhgheaaDoor.texts
open Go.RowKit Go.Lib Go.Shelf
set_option linter.unusedVariables false
attribute [local go_sem] Oper.semAt_some

theorem any_upto {ws : List (List UInt8)} {p : List UInt8 → Bool} {i : Nat} (hi : i < ws.length) (hp : p (ws.getD i []) = true) : ws.any p = true := by
  rw [List.any_eq_true]
  refine ⟨ws[i], List.getElem_mem hi, ?_⟩
  rw [List.getD_eq_getElem?_getD, List.getElem?_eq_getElem hi] at hp
  exact hp
theorem any_none {ws : List (List UInt8)} {p : List UInt8 → Bool} (h : ∀ j, j < ws.length → p (ws.getD j []) = false) : ws.any p = false := by
  rw [List.any_eq_false]
  intro x hx
  obtain ⟨j, hj, rfl⟩ := List.getElem_of_mem hx
  have := h j hj
  rw [List.getD_eq_getElem?_getD, List.getElem?_eq_getElem hj] at this
  simpa using this

set_option maxRecDepth 100000 in
set_option maxHeartbeats 2000000 in
theorem has_any (g : Nat) (lb : Array Value) (Z R : Nat → Prop) (ws : List (List UInt8)) (w : World) (eg : ∀ args w, (callFunc g args).run Tryd.prog w = .ok (.enter g args) w)
    (hseq : ∀ W, Below w.heap.size w W → Iter Tryd.prog 2 g lb Z R (isStr ws) ws.length W) (hZ : ∀ k, Z k → k < w.heap.size) (hR : ∀ k, R k → k < w.heap.size) :
    Calls Tryd.prog 32 #[.func (.func g) #[] lb, .func (.func 34) #[] #[]] w fun e w' => e = .returned (.bool (ws.any noWord)) ∧ Turned Z w w' := by
  refine (callsIn_wide (n := 3)).1 ?_
  refine callsIn_of_wp_marks Tryd.func32 rfl trivial ?_ rfl
  simp only [Tryd.ntmps32, List.size_toArray, List.length_cons, List.length_nil, Nat.reduceAdd, Nat.reduceSub, Array.replicate_succ, Array.replicate_zero, List.push_toArray, List.append_toArray, List.nil_append, List.cons_append]
  have HSEQ := hid hseq
  have HZ := hid hZ
  have HR := hid hR
  clear hseq hZ hR
  gi_wp2
  have B0 : Boxed ((w.alloc (.cells #[.func (.func 34) #[] #[]] 71)).alloc (.cells #[.bool false] 4)) w.heap.size 71 (.func (.func 34) #[] #[]) := (Boxed.new w _ _).alloc _
  have B1 : Boxed ((w.alloc (.cells #[.func (.func 34) #[] #[]] 71)).alloc (.cells #[.bool false] 4)) (w.heap.size + 1) 4 (.bool false) := by
    have := Boxed.new (w.alloc (.cells #[.func (.func 34) #[] #[]] 71)) 4 (.bool false)
    rwa [World.size_alloc] at this
  have hb0 : Below w.heap.size w ((w.alloc (.cells #[.func (.func 34) #[] #[]] 71)).alloc (.cells #[.bool false] 4)) := ((Below.refl _ w).alloc (Nat.le_refl _) _).alloc (by simp) _
  have hs0 : ((w.alloc (.cells #[.func (.func 34) #[] #[]] 71)).alloc (.cells #[.bool false] 4)).heap.size = w.heap.size + 2 := by simp
  obtain ⟨W0, hW0⟩ : ∃ x, Hid ((w.alloc (.cells #[.func (.func 34) #[] #[]] 71)).alloc (.cells #[.bool false] 4) = x) := ⟨_, rfl⟩
  rw [hW0.out] at B0 B1 hb0 hs0 ⊢
  have hz2 : ∀ q, q < w.heap.size → (Z q ∨ q = W0.heap.size ∨ q = W0.heap.size + 1) → Z q := by
    rintro q hq (h | h | h)
    · exact h
    · omega
    · omega
  have hnz : ∀ q, w.heap.size ≤ q → q < W0.heap.size → ¬ (Z q ∨ q = W0.heap.size ∨ q = W0.heap.size + 1) := by
    rintro q h1 h2 (h | h | h)
    · have := HZ.out q h; omega
    · omega
    · omega
  refine wpIn_range (gf := g) (lb := lb) rfl eg (Z := Z) (R := R) (G := isStr ws) (N := ws.length)
    (fun W hs hb => HSEQ.out W (hb0.trans (hb.mono hb0.size))) (fun h => by have := HZ.out _ h; omega) (fun h => by have := HZ.out _ h; omega) (fun h => by have := HR.out _ h; omega)
    (fun i v A B h _ => h)
    (fun i W => (∀ j, j < i → noWord (ws.getD j []) = false) ∧ Boxed W w.heap.size 71 (.func (.func 34) #[] #[]) ∧ Boxed W (w.heap.size + 1) 4 (.bool false) ∧ Turned Z w W)
    (fun c i W => c = .ret ∧ noWord (ws.getD i []) = true ∧ Boxed W (w.heap.size + 1) 4 (.bool true) ∧ Turned Z w W)
    (fun i A B h ht => ⟨h.1, ht.at h.2.1 (hnz _ (Nat.le_refl _) (by omega)), ht.at h.2.2.1 (hnz _ (by omega) (by omega)), h.2.2.2.then ht hz2⟩)
    (fun c i A B h ht => ⟨h.1, h.2.1, ht.at h.2.2.1 (hnz _ (by omega) (by omega)), h.2.2.2.then ht hz2⟩)
    ⟨fun j h => by omega, B0, B1, Turned.new hb0⟩
    (fun v => { tmps := #[.func (.func g) #[] lb, .func (.func 34) #[] #[], undef, .pointer (some ⟨w.heap.size, 0, none⟩), .pointer (some ⟨w.heap.size + 1, 0, none⟩), v, .func (.func g) #[] lb, v, undef, undef, undef], defers := [] })
    ?assign ?body ?done ?stop
  case assign =>
    intro l v W K hK
    gi_wp2
    exact hK
  case body =>
    rintro l i v W hlt _ ⟨hpre, hb, hb1, ht⟩ hv
    obtain rfl : v = .string (strL (ws.getD i [])) := hv
    have hc := hb.cell
    have ci := invalid_any (ws.getD i []) W
    obtain ⟨V, hV⟩ : ∃ V, Hid (noWord (ws.getD i []) = V) := ⟨_, rfl⟩
    rw [hV.out] at ci
    obtain ⟨S, hS⟩ : ∃ S, Hid (strL (ws.getD i []) = S) := ⟨_, rfl⟩
    rw [hS.out] at ci ⊢
    have HPRE := hid hpre
    have HT := hid ht
    have HB := hid hb
    have HB1 := hid hb1
    clear hpre ht hb hb1
    gi_wp2_with (refine ⟨trivial, ?_⟩; gi_at_call 34; refine (CallsIn.inRound l (callsIn_wide.2 ci)).mono ?_; clear ci; rintro e w2 ⟨rfl, hb2⟩; have b2 : Boxed w2 (w.heap.size + 1) 4 (.bool false) := (hb2.block _ HB1.out.lt).trans HB1.out; have c2 := b2.cell; have f2 := b2.frozen; have B2 := hid b2; clear b2)
    · have hs2 : W0.heap.size + 2 ≤ W.heap.size ∨ True := .inr trivial
      have hlt1 := HB1.out.lt
      have ht2 : Turned (fun k => ¬ R k ∧ k ≠ W0.heap.size ∧ k ≠ W0.heap.size + 1) W (w2.setCell ⟨w.heap.size + 1, 0, none⟩ (.bool true)) :=
        (Turned.new hb2).trans (Turned.setCell _ _ _ ⟨fun h => by have := HR.out _ h; change w.heap.size + 1 < _ at this; omega, by show w.heap.size + 1 ≠ _; omega, by show w.heap.size + 1 ≠ _; omega⟩)
      refine ⟨ht2, rfl, hV.out.trans (by assumption), B2.out.set _, ?_⟩
      exact (HT.out.trans (Turned.new hb2)).then (Turned.setCell (Z := fun q => q = w.heap.size + 1) w2 ⟨w.heap.size + 1, 0, none⟩ _ rfl) (fun q hq e => by omega)
    · have hVf : V = false := by assumption
      refine ⟨Turned.new hb2, ?_, (hb2.block _ HB.out.lt).trans HB.out, B2.out, HT.out.trans (Turned.new hb2)⟩
      intro j hj
      by_cases e : j = i
      · rw [e, hV.out, hVf]
      · exact HPRE.out j (by omega)
  case done =>
    rintro W ⟨hpre, hb, hb1, ht⟩ hK
    have hc := hb1.cell
    have hf := hb1.frozen
    have HA := hid (any_none hpre)
    have HT := hid ht
    have HB1 := hid hb1
    clear ht hb1 hb hpre
    gi_wp2
    have b2 : Boxed (W.setCell ⟨w.heap.size + 1, 0, none⟩ (.bool false)) (w.heap.size + 1) 4 (.bool false) := HB1.out.set _
    have hK2 : (W.setCell ⟨w.heap.size + 1, 0, none⟩ (.bool false)).heap[W0.heap.size]? = some (.deferred (some [])) := (Below.heap_setCell _ _ _ _ (by show W0.heap.size ≠ w.heap.size + 1; omega)).trans hK
    refine ⟨by simp, .inl ⟨_, _, rfl, run_takeDeferred hK2, ?_⟩⟩
    have hc5 : ((W.setCell ⟨w.heap.size + 1, 0, none⟩ (.bool false)).putObj W0.heap.size (.deferred none)).cell? ⟨w.heap.size + 1, 0, none⟩ = some (.bool false) :=
      (Turned.putObj (Z := fun q => q = W0.heap.size) _ W0.heap.size _ rfl).cell b2.cell (by show ¬ (w.heap.size + 1 = W0.heap.size); omega)
    refine ⟨.bool false, ?_, by rw [HA.out], ?_⟩
    · simp [results, Tryd.f32, go_sem, hc5]
    · refine (HT.out.then (Turned.setCell (Z := fun q => q = w.heap.size + 1) W ⟨w.heap.size + 1, 0, none⟩ _ rfl) (fun q hq e => by omega)).then (Turned.putObj (Z := fun q => q = W0.heap.size) _ W0.heap.size _ rfl) (fun q hq e => by omega)
  case stop =>
    rintro c i W hlt ⟨rfl, hno, hb1, ht⟩ hK
    have HA := hid (any_upto hlt hno)
    have HT := hid ht
    have HB1 := hid hb1
    clear ht hb1
    gi_wp2
    refine ⟨by simp, .inl ⟨_, _, rfl, run_takeDeferred hK, ?_⟩⟩
    have hc5 : (W.putObj W0.heap.size (.deferred none)).cell? ⟨w.heap.size + 1, 0, none⟩ = some (.bool true) :=
      (Turned.putObj (Z := fun q => q = W0.heap.size) _ W0.heap.size _ rfl).cell HB1.out.cell (by show ¬ (w.heap.size + 1 = W0.heap.size); omega)
    refine ⟨.bool true, ?_, by rw [HA.out], ?_⟩
    · simp [results, Tryd.f32, go_sem, hc5]
    · exact HT.out.then (Turned.putObj (Z := fun q => q = W0.heap.size) _ W0.heap.size _ rfl) (fun q hq e => by omega)
end Go.Proofs.YtdlebjogbhgheaaDoor.texts
