/- Contracts and lemmas that the claims of this seat share: SchemaPush, SchemaFS, SchemaTakeM, SchemaSS, SchemaAt, SchemaForm, SchemaParse, PenGroups, PenRefEnd. Each says its own conditions. -/
import Derived.Test.YtacigmnnekphmaaCmF
import Derived.Conc.WalkWords
import Derived.Test.YtacigmnnekphmaaCmC
import Derived.Test.YtacigmnnekphmaaCmE
import Derived.Deep.RegionHeld3
import Derived.Handy
/- One more element onto a list that a call gathers in a variable: fields, forms. No condition. -/
namespace Go.Proofs.Ytacigmnnekphmaa.plan
open Go Go.RowKit
theorem toL {P : Program} {md : Region.Mode} {Q : Exit → Act → World → Prop} {l : List Oper} {n : Nat} {listed : Array Bool} {a : Act} {w : World} (f : Nat) (L : Bool → Bool → Bool → Array Bool) (hf : n = f + 3) (hl : listed = L false false false)
    (h : wpAnyH P md l.toArray (NoPanic Q) (fun _ => True) (f + 3) (L false false false) a w) : wpAnyH P md l.toArray (NoPanic Q) (fun _ => True) n listed a w := by
  subst hf hl
  exact h
end Go.Proofs.Ytacigmnnekphmaa.plan
namespace Go.Proofs.Ytacigmnnekphmaa.schema
open Go.RowKit Go.Proofs.Ytacigmnnekphmaa.pen
set_option linter.unusedVariables false

/-- the cells of forms -/
def fmC (p : Fm) : List Value := [.int .i64 p.id, .slice p.f p.fL.length p.fCap]
def fmV : List Fm → List Value
  | [] => []
  | p :: L => fmC p ++ fmV L
theorem fmV_append : ∀ a b, fmV (a ++ b) = fmV a ++ fmV b
  | [], _ => rfl
  | p :: a, b => by rw [List.cons_append, fmV, fmV, fmV_append a b, List.append_assoc]
theorem fmV_length : ∀ L, (fmV L).length = L.length * 2
  | [] => rfl
  | p :: L => by rw [fmV]; simp only [fmC, List.length_append, List.length_cons, List.length_nil, fmV_length L]; omega
theorem fmV_at : ∀ (L : List Fm) (i : Nat) (p : Fm) (c : Nat), L[i]? = some p → c < 2 → (fmV L)[i * 2 + c]? = (fmC p)[c]?
  | [], i, p, c, h, _ => by simp at h
  | q :: L, 0, p, c, h, hc => by
    simp at h; subst h
    rw [fmV, List.getElem?_append_left (by simp [fmC]; omega)]
    simp
  | q :: L, i + 1, p, c, h, hc => by
    rw [fmV, List.getElem?_append_right (by simp [fmC]; omega)]
    rw [← fmV_at L i p c (by simpa using h) hc]
    congr 1
    simp only [fmC, List.length_cons, List.length_nil]; omega
/-- a row of the call's own reads as forms -/
theorem own_fms {w : World} {base n : Nat} {a : Option Addr} {cap : Nat} {L : List Fm} {e : TypeId} (h : w.ownsRow base e 2 (.slice a n cap) n (fmV L)) : Fms w a L ∧ n = L.length ∧ n ≤ cap := by
  obtain ⟨hl, hr⟩ := h
  have hn : n = L.length := by have := fmV_length L; rw [hl] at this; omega
  rcases hr with ⟨hv, h0⟩ | ⟨b, cap', cur, hv, _, hg, hcp, _, _, htake⟩
  · cases hv
    exact ⟨.inl (List.eq_nil_of_length_eq_zero (by omega)), hn, by omega⟩
  · cases hv
    refine ⟨.inr ⟨b, 0, rfl, (Array.getElem?_eq_some_iff.1 hg).1, fun i p hp => ?_⟩, hn, hcp⟩
    have hi : i < L.length := (List.getElem?_eq_some_iff.1 hp).1
    have key : ∀ c x, c < 2 → (fmC p)[c]? = some x → w.cell? ⟨b, 0 + (i * 2 + c), none⟩ = some x := by
      intro c x hc hx
      have h1 := fmV_at L i p c hp hc
      rw [hx, ← htake, List.getElem?_take, if_pos (by omega)] at h1
      rw [cell_of_row w b _ cur _ _ hg, Nat.zero_add, ← h1, Array.getElem?_toList]
    exact ⟨key 0 _ (by omega) rfl, key 1 _ (by omega) rfl⟩
theorem own_cap {w : World} {base n sz : Nat} {a : Option Addr} {cap : Nat} {xs : List Value} {e : TypeId} (h : w.ownsRow base e sz (.slice a n cap) n xs) : n ≤ cap ∧ cap ≤ maxLen := by
  rcases h.2 with ⟨hv, h0⟩ | ⟨b, cap', cur, hv, _, hg, h1, h2, _⟩
  · cases hv; exact ⟨by omega, by unfold maxLen; omega⟩
  · cases hv; exact ⟨h1, h2⟩
theorem fm_info_all : (Try.prog.info? 29).map (fun i => (i.zero, i.size, i.bytes)) = some (some (.agg #[.int .i64 0, .slice none 0 0]), 2, 32) := by kernel_rfl
theorem fm_info_parts : ∃ i, Try.prog.info? 29 = some i ∧ i.zero = some (.agg #[.int .i64 0, .slice none 0 0]) ∧ i.size = 2 ∧ i.bytes = 32 := by
  obtain ⟨i, hi, he⟩ := Option.map_eq_some_iff.1 fm_info_all
  simp only [Prod.mk.injEq] at he
  exact ⟨i, hi, he.1, he.2.1, he.2.2⟩
theorem exec_push_fd {o : Oper} {a : Act} {w : World} {x y : Operand} {u : Value} {B n g : Nat} {L : List field.Fd} {p : field.Fd}
    (ho : o.op = .call { callee := .builtin .append, args := #[x, y], argTypes := #[27, 27] }) (hx : a.eval x = u) (hy : a.eval y = .slice (some ⟨g, 0, none⟩) 1 1)
    (hown : w.ownsRow B 50 5 u n (fdV L)) (hb : Block w g 50 (fdC p)) (hn : n ≤ 1000) (hB : B ≤ w.heap.size) :
    ∃ q w', (execOp a.eval o).run Try.prog w = .ok (.value q) w' ∧ w'.ownsRow B 50 5 q (n + 1) (fdV (L ++ [p])) ∧ w.grownBy w' u.ownBlock := by
  obtain ⟨i0, hi, hz0, hz1, hz2⟩ := fd_info_parts
  obtain ⟨q, w', h1, h2, h3⟩ := exec_push (sz := 5) (bytes := 40) Try.underlying27 hi hz0 hz1 hz2 (by simp [Value.cells]) (by omega) ho hx hy hown (news := fdC p) rfl (fun j v hj => (hb.cell j).trans hj) (by have := fdV_one [p]; simpa [fdV] using this) (by omega) (by omega) hB
  exact ⟨q, w', h1, by rw [fdV_append]; simpa [fdV] using h2, h3⟩
theorem exec_push_fm {o : Oper} {a : Act} {w : World} {x y : Operand} {u : Value} {B n g : Nat} {L : List Fm} {p : Fm}
    (ho : o.op = .call { callee := .builtin .append, args := #[x, y], argTypes := #[22, 22] }) (hx : a.eval x = u) (hy : a.eval y = .slice (some ⟨g, 0, none⟩) 1 1)
    (hown : w.ownsRow B 29 2 u n (fmV L)) (hb : Block w g 29 (fmC p)) (hn : n ≤ 1000) (hB : B ≤ w.heap.size) :
    ∃ q w', (execOp a.eval o).run Try.prog w = .ok (.value q) w' ∧ w'.ownsRow B 29 2 q (n + 1) (fmV (L ++ [p])) ∧ w.grownBy w' u.ownBlock := by
  obtain ⟨i0, hi, hz0, hz1, hz2⟩ := fm_info_parts
  obtain ⟨q, w', h1, h2, h3⟩ := exec_push (sz := 2) (bytes := 32) Try.underlying22 hi hz0 hz1 hz2 (by simp [Value.cells]) (by omega) ho hx hy hown (news := fmC p) rfl (fun j v hj => (hb.cell j).trans hj) (by intro v hv; simp [fmC] at hv; rcases hv with rfl | rfl <;> rfl) (by omega) (by omega) hB
  exact ⟨q, w', h1, by rw [fmV_append]; simpa [fmV] using h2, h3⟩
theorem exec_put_fd {o : Oper} {a : Act} {w : World} {x y : Operand} {ad : Addr} {v : Value} {p : Option Addr} {n c : Nat} (ho : o.op = .store 27 x y) (hx : a.eval x = .pointer (some ad)) (hy : a.eval y = .slice p n c) (hc : w.cell? ad = some v) (hf : w.frozen? ad = false) : (execOp a.eval o).run Try.prog w = .ok .skip (w.setCell ad (.slice p n c)) := by
  unfold execOp
  rw [ho]
  simp only [hx, hy]
  go_simp
theorem exec_put_fm {o : Oper} {a : Act} {w : World} {x y : Operand} {ad : Addr} {v : Value} {p : Option Addr} {n c : Nat} (ho : o.op = .store 22 x y) (hx : a.eval x = .pointer (some ad)) (hy : a.eval y = .slice p n c) (hc : w.cell? ad = some v) (hf : w.frozen? ad = false) : (execOp a.eval o).run Try.prog w = .ok .skip (w.setCell ad (.slice p n c)) := by
  unfold execOp
  rw [ho]
  simp only [hx, hy]
  go_simp
theorem exec_cell_slice' {o : Oper} {a : Act} {w : World} {ty : TypeId} {x : Operand} {ad : Addr} {q : Option Addr} {n c : Nat} (ho : o.op = .load ty x) (hx : a.eval x = .pointer (some ad)) (hc : w.cell? ad = some (.slice q n c)) (hu : ∀ w', (isAgg ty).run Try.prog w' = .ok false w') :
    (execOp a.eval o).run Try.prog w = .ok (.value (.slice q n c)) w := by
  unfold execOp
  rw [ho]
  simp only [hx]
  go_simp
end Go.Proofs.Ytacigmnnekphmaa.schema
/- The variable of a form that is read, its fields gathered in a row behind it. No condition. -/
namespace Go.Proofs.Ytacigmnnekphmaa.schema
open Go.RowKit Go.Proofs.Ytacigmnnekphmaa.pen
set_option linter.unusedVariables false

/-- the form's variable at F holds A and the row u of the fields L, which lies behind F; the eye at b stands at s; what lay before F is as in w0 but for the eye -/
structure FS (T : TypeId) (A : Int) (b F : Nat) (w0 : World) (L : List field.Fd) (s : Sight) (n : Nat) (u : Value) (wr : World) : Prop where
  f : Block wr F 29 [.int .i64 A, u]
  row : wr.ownsRow (F + 1) 50 5 u n (fdV L)
  eye : EyeAt T b s wr
  but : But F b w0 wr
  low : b < F
variable {T : TypeId} {A : Int} {b F n : Nat} {w0 : World} {L : List field.Fd} {s : Sight} {u : Value}
theorem FS.later {w w' : World} (h : FS T A b F w0 L s n u w) (hb : Below w.heap.size w w') : FS T A b F w0 L s n u w' :=
  ⟨h.f.later hb, ownsRow_later h.row hb, h.eye.later hb, h.but.trans ((Below.but hb).mono (Nat.le_of_lt h.f.lt)), h.low⟩
theorem FS.call {w w' : World} {s' : Sight} (h : FS T A b F w0 L s n u w) (hE : EyeAt T b s' w') (hu : But w.heap.size b w w') : FS T A b F w0 L s' n u w' :=
  ⟨blk_but h.f hu (Nat.ne_of_gt h.low), ownsRow_heap h.row (fun g hg => by have := World.ownsRow.lt h.row g hg; have := h.low; exact hu.2.2.2.2 g (by omega) (by omega)), hE, h.but.trans (hu.mono (Nat.le_of_lt h.f.lt)), h.low⟩
/-- behind an append: the variable still holds the old row -/
theorem FS.held {w w' : World} (h : FS T A b F w0 L s n u w) (hg : w.grownBy w' u.ownBlock) : Block w' F 29 [.int .i64 A, u] :=
  (hg.block F h.f.lt (by intro he; have := World.ownsRow.lt h.row F he.symm; omega)).trans h.f
theorem FS.push {w w' : World} {p : field.Fd} {z : Value} (h : FS T A b F w0 L s n u w) (hg : w.grownBy w' u.ownBlock) (ho : w'.ownsRow (F + 1) 50 5 z (n + 1) (fdV (L ++ [p]))) :
    FS T A b F w0 (L ++ [p]) s (n + 1) z (w'.setCell ⟨F, 1, none⟩ z) := by
  have hF := h.held hg
  refine ⟨hF.setCell 1 z, ownsRow_heap ho (fun g hg => ?_), ?_, ?_, h.low⟩
  · have := World.ownsRow.lt ho g hg
    exact Below.heap_setCell w' ⟨F, 1, none⟩ z g (by show g ≠ F; omega)
  · exact eye_past (eye_grown h.eye h.row hg (by have := h.low; omega)) h.low ((But.refl _ F w').setCell 1 z)
  · exact but_store (but_grown h.but (own_low h.row (by omega)) hg (Nat.le_of_lt h.f.lt)) (Nat.le_refl _) 1 z
/-- at the start -/
theorem FS.start {w1 : World} (hE : EyeAt T b s w1) (A : Int) : FS T A b w1.heap.size w1 [] s 0 (.slice none 0 0) (w1.alloc (.cells #[.int .i64 A, .slice none 0 0] 29)) :=
  ⟨Block.new w1 29 [.int .i64 A, .slice none 0 0], World.ownsRow_nil _ _ _ _, hE.later (field.newB _ _), Below.but (field.newB _ _), hE.lt⟩
end Go.Proofs.Ytacigmnnekphmaa.schema
/- Contract of layer 13 (schema): parseForm. No condition. -/
namespace Go.Proofs.Ytacigmnnekphmaa.schema
open Go.RowKit Go.Proofs.Ytacigmnnekphmaa.pen
set_option linter.unusedVariables false

set_option maxRecDepth 20000 in
set_option maxHeartbeats 1600000 in
theorem parseForm_any (b : Nat) (s : Sight) (w : World) (h : EyeAt 89 b s w) : Calls Try.prog 45 #[.pointer (some ⟨b, 0, none⟩)] w fun e w' =>
    ∃ p : Fm, e = .returned p.val ∧ p.p = (takeFm s).1 ∧ w'.ownsRow w.heap.size 50 5 (.slice p.f p.fL.length p.fCap) p.fL.length (fdV p.fL) ∧ EyeAt 89 b (takeFm s).2 w' ∧ But w.heap.size b w w' := by
  obtain ⟨A, s1, hA⟩ : ∃ A s1, eCount 200 s = (A, s1) := ⟨_, _, rfl⟩
  obtain ⟨N, s2, hN⟩ : ∃ N s2, eCount 8 s1 = (N, s2) := ⟨_, _, rfl⟩
  have hN8 : N ≤ 8 := by have := eCount_le 8 s1; rw [show ((8 : Nat) : Int) = 8 from rfl, hN] at this; exact this
  have hT : takeFm s = (((A : Int), (takeFs N s2).1), (takeFs N s2).2) := by
    unfold takeFm
    rw [hA]; simp only; rw [hN]
  rw [hT]
  have hlt := h.lt
  have hb0 := field.newB w (.cells #[.int .i64 0, .slice none 0 0] 29)
  have c1 := eyeCount_any b s _ (h.later hb0) 200 (by omega) (by omega)
  have c2 := fun w' hE => eyeCount_any b s1 w' hE 8 (by omega) (by omega)
  rw [hA] at c1
  rw [hN] at c2
  have HR0 := hid (Block.new w 29 [.int .i64 0, .slice none 0 0])
  have HB0 := hid hb0
  have hne : w.heap.size ≠ b := by omega
  clear hT hA hN h hb0
  simp only at c1 c2
  unfold Saw at c1 c2
  go_enter Try.func45, Try.ntmps45
  go_wp2_with (first
    | (go_at_call 44; ((with_reducible refine c1.mono ?_); rintro e w1 ⟨rfl, hE1, hu1⟩; have HR1 := hid (blk_but HR0.out hu1 hne)))
    | (go_at_call 44; ((with_reducible refine (c2 _ (hE1.later (field.newB _ _))).mono ?_); rintro e w2 ⟨rfl, hE2, hu2⟩; have HS2 := hid ((FS.start hE1 A).call hE2 hu2))))
  have hsz1 : w.heap.size < w1.heap.size := HR1.out.lt
  have hb1 : But w.heap.size b w w1 := (Below.but HB0.out).trans (hu1.mono HB0.out.size)
  have HB1 := hid hb1
  have HSZ := hid hsz1
  obtain ⟨F, hF⟩ : ∃ F, Hid (w1.heap.size = F) := ⟨_, hid rfl⟩
  rw [hF.out] at HS2 HSZ ⊢
  clear hu1 hu2 hE1 hE2 c1 c2 hb1 hsz1
  go_loopw [9] (fun m wr => ∃ k : Nat, k ≤ N ∧ m = .int .i64 (k : Int) ∧ Hid (∃ u, FS 89 A b F w1 (takeFs k s2).1 (takeFs k s2).2 k u wr)) (fun m _ => N - (intOf m).toNat)
  case atStart => exact ⟨0, Nat.zero_le _, rfl, hid ⟨_, HS2.out⟩⟩
  case round =>
    obtain ⟨k, hk, rfl, HS⟩ := hrel
    obtain ⟨u, hS⟩ := HS.out
    obtain ⟨ua, uc, rfl, _⟩ := ownsRow_slice hS.row
    by_cases hlt2 : k < N
    · have i1 : (k : Int) < N := by omega
      obtain ⟨p, s3, hp⟩ : ∃ p s3, takeF (takeFs k s2).2 = (p, s3) := ⟨_, _, rfl⟩
      have HT1 : Hid ((takeFs (k + 1) s2).1 = (takeFs k s2).1 ++ [p]) := hid (by rw [takeFs, hp])
      have HT2 : Hid ((takeFs (k + 1) s2).2 = s3) := hid (by rw [takeFs, hp])
      have cP := fun w' hE => parseField_any b (takeFs k s2).2 w' hE
      rw [hp] at cP
      clear hp HS HS2
      generalize (takeFs k s2).1 = L at *
      generalize (takeFs k s2).2 = sk at *
      have HS := hid (hS.later (w' := wr.drew) (below_drewN (Below.refl _ _) 1))
      clear hS
      go_wp2
      refine plan.regionT (by kernel_rfl) ?_
      have hS := HS.out
      refine plan.free 0 _ (.pointer (some ⟨F, 1, none⟩)) rfl (by kernel_rfl) (by kernel_rfl) (by kernel_rfl) (by kernel_rfl) (fun w' => (by kernel_rfl)) ?_
      refine plan.free 2 _ (.pointer (some ⟨b, 0, none⟩)) rfl (by kernel_rfl) (by kernel_rfl) (by kernel_rfl) (by kernel_rfl) (fun w' => (by kernel_rfl)) ?_
      refine plan.toL 3 (fun x y z => #[true, x, true, y, z, false, false, false]) rfl (by kernel_rfl) ?_
      refine plan.late 1 3 4 12 14 15 (by decide) (by decide) _ _ _ (fun x y z => #[true, x, true, y, z, false, false, false]) rfl rfl rfl rfl rfl rfl rfl rfl rfl (by intro y z; cases y <;> cases z <;> rfl) (by intro x; cases x <;> rfl) (by intro x; cases x <;> rfl)
        (by kernel_rfl) (by kernel_rfl) (by kernel_rfl) (by kernel_rfl) (by kernel_rfl) (.slice ua k uc) 61 #[.pointer (some ⟨b, 0, none⟩)]
        (fun v w' => v = p.val ∧ FS 89 A b F w1 L s3 k (.slice ua k uc) w') (fun v w' => .slice (some ⟨w'.heap.size, 0, none⟩) 1 1) (fun v w' => w'.alloc (.cells #[.int .i64 p.id, .int .i64 p.kind, .int .i64 p.lo, .int .i64 p.hi, .int .i64 p.most] 50))
        (exec_cell_slice' (ad := ⟨F, 1, none⟩) rfl (by kernel_rfl) (hS.f.cell 1) Try.isAgg27)
        (fun v w' hM => exec_cell_slice' (ad := ⟨F, 1, none⟩) rfl (by kernel_rfl) (hM.2.f.cell 1) Try.isAgg27)
        (fun v w' hM => exec_cell_slice' (ad := ⟨F, 1, none⟩) rfl (by kernel_rfl) ((hM.2.f.alloc _).cell 1) Try.isAgg27)
        (by kernel_rfl) (by kernel_rfl) ((cP _ hS.eye).mono ?_) (fun v w' hM => by obtain ⟨rfl, _⟩ := hM; kernel_rfl) (fun v w' hM => by obtain ⟨rfl, _⟩ := hM; kernel_rfl) ?_
      · rintro e w3 ⟨rfl, hE3, hu3⟩
        exact ⟨_, rfl, rfl, hS.call hE3 hu3⟩
      · rintro v w3 ⟨rfl, hS3⟩
        have hS4 := hS3.later (field.newB w3 (.cells #[.int .i64 p.id, .int .i64 p.kind, .int .i64 p.lo, .int .i64 p.hi, .int .i64 p.most] 50))
        refine plan.oneE 5 _ (fun q w5 => w5.ownsRow (F + 1) 50 5 q (k + 1) (fdV (L ++ [p])) ∧ (w3.alloc (.cells #[.int .i64 p.id, .int .i64 p.kind, .int .i64 p.lo, .int .i64 p.hi, .int .i64 p.most] 50)).grownBy w5 (Value.slice ua k uc).ownBlock) rfl rfl (by kernel_rfl)
          (exec_push_fd (g := w3.heap.size) rfl (by kernel_rfl) (by kernel_rfl) hS4.row (Block.new w3 50 (fdC p)) (by omega) hS4.f.lt) ?_
        rintro q w5 ⟨ho5, hg5⟩
        have hF5 := hS4.held hg5
        have hS6 := hS4.push hg5 ho5
        obtain ⟨qa, qc, rfl, _⟩ := ownsRow_slice ho5
        refine plan.oneT (w1 := w5) 6 _ (.pointer (some ⟨F, 1, none⟩)) rfl rfl (by kernel_rfl) (by kernel_rfl) ?_
        refine plan.lastT (w1 := w5.setCell ⟨F, 1, none⟩ (.slice qa (k + 1) qc)) 7 _ rfl rfl rfl (by kernel_rfl) (by kernel_rfl) (exec_put_fd (ad := ⟨F, 1, none⟩) rfl (by kernel_rfl) (by kernel_rfl) (hF5.cell 1) (hF5.frozen 1)) ?_
        have HS6 := hid hS6
        clear hS6 hF5 ho5 hg5 hS4 hS3 hS
        walk_nrm
        go_wp2
        exact ⟨⟨k + 1, by omega, by go_num, hid ⟨_, by rw [HT1.out, HT2.out]; exact HS6.out⟩⟩, by simp [intOf]; omega⟩
    · obtain rfl : k = N := by omega
      have hR := HR1.out.but hS.but HSZ.out hne
      have x0 := hR.cell 0
      have x1 := hR.cell 1
      have p0 := hR.frozen 0
      have p1 := hR.frozen 1
      have y0 := hS.f.cell 0
      have y1 := hS.f.cell 1
      have HS3 := hid hS
      have HR3 := hid hR
      clear HS hS HS2 hR
      go_wp2
      have hS := HS3.out
      have hB := (HR3.out.setCell 0 (.int .i64 (A : Int))).setCell 1 (.slice ua k uc)
      have hbR := ((But.refl wr.heap.size w.heap.size wr).setCell 0 (.int .i64 (A : Int))).setCell 1 (.slice ua k uc)
      have hE := eye_past hS.eye hlt hbR
      have hrow := own_low (ownsRow_heap (w' := (wr.setCell ⟨w.heap.size, 0, none⟩ (.int .i64 (A : Int))).setCell ⟨w.heap.size, 1, none⟩ (.slice ua k uc)) hS.row (fun g hg => by
        have h1 := World.ownsRow.lt hS.row g hg
        have h2 := HSZ.out
        exact hbR.2.2.2.2 g h1.2 (by omega))) (show w.heap.size ≤ F + 1 by have := HSZ.out; omega)
      have hbut := but_store (but_store (HB1.out.trans (hS.but.mono (Nat.le_of_lt HSZ.out))) (Nat.le_refl _) 0 (.int .i64 (A : Int))) (Nat.le_refl _) 1 (.slice ua k uc)
      have hlen := takeFs_len k s2
      refine bodyPost_ret (results_cell (b := w.heap.size) (o := 0) rfl rfl hB.whole Try.underlying29 rfl (fm_info2 _ _)) rfl ⟨⟨A, ua, uc, (takeFs k s2).1⟩, ?_, rfl, ?_, hE, hbut⟩
      · show _ = Ending.returned (.agg #[.int .i64 (A : Int), .slice ua (takeFs k s2).1.length uc])
        rw [hlen]
        rfl
      · show World.ownsRow _ _ _ _ (.slice ua (takeFs k s2).1.length uc) (takeFs k s2).1.length _
        rw [hlen]; exact hrow
end Go.Proofs.Ytacigmnnekphmaa.schema
/- The variable of a schema that is read, its forms gathered in a row behind it. No condition. -/
namespace Go.Proofs.Ytacigmnnekphmaa.schema
open Go.RowKit Go.Proofs.Ytacigmnnekphmaa.pen
set_option linter.unusedVariables false

/-- a form's fields lie in a row of the call's own -/
def OwnM (B : Nat) (w : World) (p : Fm) : Prop := w.ownsRow B 50 5 (.slice p.f p.fL.length p.fCap) p.fL.length (fdV p.fL)
theorem OwnM.ok {B : Nat} {w : World} {p : Fm} (h : OwnM B w p) : p.Ok w := ⟨(own_fds h).1, (own_cap h).1, (own_cap h).2⟩
/-- the schema's variable at S holds V and the row u of the forms P, which lies behind S; the eye at b stands at s; what lay before S is as in w0 but for the eye -/
structure SS (T : TypeId) (V : Int) (b S : Nat) (w0 : World) (P : List Fm) (s : Sight) (n : Nat) (u : Value) (wr : World) : Prop where
  f : Block wr S 24 [.int .i64 V, u]
  row : wr.ownsRow (S + 1) 29 2 u n (fmV P)
  each : ∀ p ∈ P, OwnM (S + 1) wr p
  eye : EyeAt T b s wr
  but : But S b w0 wr
  low : b < S
variable {T : TypeId} {V : Int} {b S n : Nat} {w0 : World} {P : List Fm} {s : Sight} {u : Value}
theorem SS.later {w w' : World} (h : SS T V b S w0 P s n u w) (hb : Below w.heap.size w w') : SS T V b S w0 P s n u w' :=
  ⟨h.f.later hb, ownsRow_later h.row hb, fun p hp => ownsRow_later (h.each p hp) hb, h.eye.later hb, h.but.trans ((Below.but hb).mono (Nat.le_of_lt h.f.lt)), h.low⟩
theorem own_but {w w' : World} {B e sz n : Nat} {u : Value} {xs : List Value} (h : w.ownsRow B e sz u n xs) (hu : But w.heap.size b w w') (hb : b < B) : w'.ownsRow B e sz u n xs :=
  ownsRow_heap h (fun g hg => by have := World.ownsRow.lt h g hg; exact hu.2.2.2.2 g (by omega) (by omega))
theorem SS.call {w w' : World} {s' : Sight} (h : SS T V b S w0 P s n u w) (hE : EyeAt T b s' w') (hu : But w.heap.size b w w') : SS T V b S w0 P s' n u w' :=
  ⟨blk_but h.f hu (Nat.ne_of_gt h.low), own_but h.row hu (by have := h.low; omega), fun p hp => own_but (h.each p hp) hu (by have := h.low; omega), hE, h.but.trans (hu.mono (Nat.le_of_lt h.f.lt)), h.low⟩
theorem SS.held {w w' : World} (h : SS T V b S w0 P s n u w) (hg : w.grownBy w' u.ownBlock) : Block w' S 24 [.int .i64 V, u] :=
  (hg.block S h.f.lt (by intro he; have := World.ownsRow.lt h.row S he.symm; omega)).trans h.f
theorem fd_fm : (29 : TypeId) ≠ 50 := by decide
theorem own_past {w : World} {B e sz n S o : Nat} {u v : Value} {xs : List Value} (h : w.ownsRow B e sz u n xs) (hS : S < B) : (w.setCell ⟨S, o, none⟩ v).ownsRow B e sz u n xs :=
  ownsRow_heap h (fun g hg => by have := World.ownsRow.lt h g hg; exact Below.heap_setCell w ⟨S, o, none⟩ v g (by show g ≠ S; omega))
theorem SS.push {w w' : World} {p : Fm} {z : Value} (h : SS T V b S w0 P s n u w) (hp : OwnM (S + 1) w p) (hg : w.grownBy w' u.ownBlock) (ho : w'.ownsRow (S + 1) 29 2 z (n + 1) (fmV (P ++ [p]))) :
    SS T V b S w0 (P ++ [p]) s (n + 1) z (w'.setCell ⟨S, 1, none⟩ z) := by
  have hF := h.held hg
  have hst := stay_grown 50 h.row hg fd_fm
  refine ⟨hF.setCell 1 z, own_past ho (by omega), fun q hq => ?_, ?_, ?_, h.low⟩
  · refine own_past (hst.row ?_) (by omega)
    rcases List.mem_append.1 hq with h1 | h1
    · exact h.each q h1
    · rw [List.mem_singleton.1 h1]; exact hp
  · exact eye_past (eye_grown h.eye h.row hg (by have := h.low; omega)) h.low ((But.refl _ S w').setCell 1 z)
  · exact but_store (but_grown h.but (own_low h.row (by omega)) hg (Nat.le_of_lt h.f.lt)) (Nat.le_refl _) 1 z
theorem SS.start {w1 : World} (hE : EyeAt T b s w1) (V : Int) : SS T V b w1.heap.size w1 [] s 0 (.slice none 0 0) (w1.alloc (.cells #[.int .i64 V, .slice none 0 0] 24)) :=
  ⟨Block.new w1 24 [.int .i64 V, .slice none 0 0], World.ownsRow_nil _ _ _ _, by simp, hE.later (field.newB _ _), Below.but (field.newB _ _), hE.lt⟩
/-- what has been gathered reads as a list of forms -/
theorem SS.list {w : World} {a : Option Addr} {c : Nat} (h : SS T V b S w0 P s n (.slice a n c) w) : FmL w a P ∧ n = P.length :=
  ⟨⟨(own_fms h.row).1, fun p hp => (h.each p hp).ok⟩, (own_fms h.row).2.1⟩
theorem sc_info2 (x y : Value) : (Try.prog.info? 24).map (·.size) = some [x, y].length := by kernel_rfl
/-- a result: the schema, and the error's number -/
def ParsedAs (xs : List Nat) (w : World) (e : Ending) (w' : World) : Prop :=
  ∃ (a : Option Addr) (c : Nat) (F : List Fm), e = .returned (.tuple #[.agg #[.int .i64 (parsed xs).1, .slice a F.length c], .int .i64 ((parsed xs).2.2 : Int)]) ∧ forms F = (parsed xs).2.1 ∧ FmL w' a F ∧ Below w.heap.size w w'
/-- no schema -/
theorem parse_none {xs : List Nat} {w w5 : World} {E : Nat} (h : parsed xs = (0, [], E)) (hb : Below w.heap.size w w5) :
    ParsedAs xs w (.returned (.tuple #[.agg #[.int .i64 0, .slice none 0 0], .int .i64 (E : Int)])) ((w5.setCell ⟨w.heap.size, 0, none⟩ (.int .i64 0)).setCell ⟨w.heap.size, 1, none⟩ (.slice none 0 0)) := by
  unfold ParsedAs
  rw [h]
  exact ⟨none, 0, [], rfl, rfl, ⟨.inl rfl, by simp⟩, below_setCells (below_setCells hb (Nat.le_refl _) 0 [.int .i64 0]) (Nat.le_refl _) 1 [.slice none 0 0]⟩
/-- a schema -/
theorem parse_some {xs : List Nat} {w w6 : World} {ua : Option Addr} {uc : Nat} {L : List Form} (h : parsed xs = (V, L, 0)) (hL : forms P = L) (hS : SS T V b S w0 P s n (.slice ua n uc) w6) (hR : w.heap.size < S) (hb : Below w.heap.size w w6) :
    ParsedAs xs w (.returned (.tuple #[.agg #[.int .i64 V, .slice ua n uc], .int .i64 0])) ((w6.setCell ⟨w.heap.size, 0, none⟩ (.int .i64 V)).setCell ⟨w.heap.size, 1, none⟩ (.slice ua n uc)) := by
  unfold ParsedAs
  rw [h]
  have hrow := own_past (S := w.heap.size) (o := 1) (v := .slice ua n uc) (own_past (S := w.heap.size) (o := 0) (v := .int .i64 V) hS.row (by omega)) (by omega)
  have hn := hS.list.2
  refine ⟨ua, uc, P, by rw [hn]; rfl, hL, ⟨(own_fms hrow).1, fun p hp => OwnM.ok (B := S + 1) ?_⟩, below_setCells (below_setCells hb (Nat.le_refl _) 0 [.int .i64 V]) (Nat.le_refl _) 1 [.slice ua n uc]⟩
  exact own_past (own_past (hS.each p hp) (by omega)) (by omega)
end Go.Proofs.Ytacigmnnekphmaa.schema
/- Contracts of layer 13 (schema): At, and slices.IndexFunc with its function. No condition. -/
namespace Go.Proofs.Ytacigmnnekphmaa.schema
open Go.RowKit
open Go.Proofs.Ytacigmnnekphmaa.field (Gives newB gives_from)
set_option linter.unusedVariables false

/-- the place of the first x, or -1 -/
def firstAt (l : List Int) (x : Int) : Int := if x ∈ l then (l.idxOf x : Int) else -1
theorem idxOf_hit : ∀ (l : List Int) (k : Nat) (x : Int), x ∉ l.take k → l[k]? = some x → l.idxOf x = k := by
  intro l
  induction l with
  | nil => intro k x _ h; simp at h
  | cons y l ih =>
    intro k x hn h
    cases k with
    | zero => simp at h; subst h; simp
    | succ k =>
      simp only [List.take_succ_cons, List.mem_cons, not_or] at hn
      have hb : (y == x) = false := beq_eq_false_iff_ne.2 (Ne.symm hn.1)
      rw [List.idxOf_cons, hb, ih k x hn.2 (by simpa using h)]
      rfl
theorem first_hit {l : List Int} {k : Nat} {x : Int} (hn : x ∉ l.take k) (h : l[k]? = some x) : firstAt l x = k := by
  unfold firstAt
  rw [if_pos (List.mem_of_getElem? h), idxOf_hit l k x hn h]
theorem first_none {l : List Int} {x : Int} (hn : x ∉ l) : firstAt l x = -1 := if_neg hn
theorem not_take_succ {l : List Int} {k : Nat} {x y : Int} (hn : x ∉ l.take k) (h : l[k]? = some y) (hy : y ≠ x) : x ∉ l.take (k + 1) := by
  rw [take_succ_at h]; simp [hn]; omega
theorem ids_at {L : List field.Fd} {k : Nat} {p : field.Fd} (h : L[k]? = some p) : (ids L)[k]? = some p.id := by simp [ids, h]
theorem ids_length (L : List field.Fd) : (ids L).length = L.length := List.length_map _
theorem hmf (fn : Fn) (first cap : Array Value) (w : World) : (Instr.makeFunc fn first cap).run Try.prog w = .ok (.func fn first cap) w := rfl

theorem isField_any (p : field.Fd) (x : Int) (b : Nat) (w : World) (hc : w.cell? ⟨b, 0, none⟩ = some (.int .i64 x)) (hb : b < w.heap.size) :
    Calls Try.prog 34 #[.agg #[.int .i64 p.id, .int .i64 p.kind, .int .i64 p.lo, .int .i64 p.hi, .int .i64 p.most], .pointer (some ⟨b, 0, none⟩)] w (Gives (.bool (p.id == x)) w) := by
  have HN := hid (newB w (.cells #[.int .i64 p.id, .int .i64 p.kind, .int .i64 p.lo, .int .i64 p.hi, .int .i64 p.most] 50))
  obtain ⟨i, k, lo, hi, m⟩ := p
  simp only at HN ⊢
  obtain ⟨r, hr⟩ : ∃ r : Bool, Hid ((i == x) = r) := ⟨_, rfl⟩
  rw [hr.out]
  unfold Gives
  have hne : w.heap.size ≠ b := by omega
  go_enter Try.func34, Try.ntmps34
  go_wp2
  go_ret
  exact ⟨ret_bool hr.out, HN.out⟩
theorem indexField_any (a : Option Addr) (cap : Nat) (L : List field.Fd) (x : Int) (g : Nat) (w : World) (h : field.Fds w a L) (hL : L.length ≤ maxLen) (hc : w.cell? ⟨g, 0, none⟩ = some (.int .i64 x)) (hg : g < w.heap.size) :
    Calls Try.prog 33 #[.slice a L.length cap, .func (.func 34) #[] #[.pointer (some ⟨g, 0, none⟩)]] w (Gives (.int .i64 (firstAt (ids L) x)) w) := by
  have hml : (L.length : Int) ≤ 9223372036854775807 := by unfold maxLen at hL; omega
  have HF := hid h
  have HC := hid hc
  obtain ⟨r, hr⟩ : ∃ r : Int, Hid (firstAt (ids L) x = r) := ⟨_, rfl⟩
  rw [hr.out]
  unfold Gives
  clear h hL hc
  go_enter Try.func33, Try.ntmps33
  go_wp2
  go_loopw [8] (fun n wr => ∃ k : Nat, k ≤ L.length ∧ n = .int .i64 (k : Int) ∧ Hid (x ∉ (ids L).take k) ∧ Hid (Below w.heap.size w wr)) (fun n _ => L.length - (intOf n).toNat)
  case atStart => exact ⟨0, Nat.zero_le _, rfl, hid (by simp), hid (Below.refl _ _)⟩
  case round =>
    obtain ⟨k, hk, rfl, HNO, HB⟩ := hrel
    by_cases hlt : k < L.length
    · obtain ⟨b, off, p, rfl, hbl, hp, c0, c1, c2, c3, c4⟩ := field_at HF.out HB.out hlt
      have i1 : (k : Int) < L.length := by omega
      have HHIT := hid (fun e => first_hit HNO.out ((ids_at hp).trans (congrArg some e)))
      have HNX := hid (fun e => not_take_succ HNO.out (ids_at hp) e)
      have cs := isField_any p x g wr (by rw [HB.out.cell (p := ⟨g, 0, none⟩) hg]; exact HC.out) (Nat.lt_of_lt_of_le hg HB.out.size)
      clear hp
      by_cases hx : p.id = x
      · rw [show (p.id == x) = true from beq_iff_eq.2 hx] at cs
        obtain rfl : (k : Int) = r := by rw [← hr.out]; exact (HHIT.out hx).symm
        clear hx
        go_wp2_with (go_at_call 34; ((with_reducible refine cs.mono ?_); rintro e w2 ⟨rfl, hb2⟩))
        go_ret
        exact ⟨rfl, HB.out.trans (hb2.mono HB.out.size)⟩
      · rw [show (p.id == x) = false from beq_eq_false_iff_ne.2 hx] at cs
        have HX := hid hx
        clear hx
        go_wp2_with (go_at_call 34; ((with_reducible refine cs.mono ?_); rintro e w2 ⟨rfl, hb2⟩))
        exact ⟨⟨k + 1, by omega, by go_num, hid (HNX.out HX.out), hid (HB.out.trans (hb2.mono HB.out.size))⟩, by simp [intOf]; omega⟩
    · obtain rfl : k = L.length := by omega
      obtain rfl : -1 = r := by rw [← hr.out]; have := HNO.out; rw [List.take_of_length_le (by rw [ids_length]; exact Nat.le_refl _)] at this; exact (first_none this).symm
      go_wp2
      go_ret
      exact ⟨rfl, HB.out⟩
theorem at_any (i : Int) (a : Option Addr) (cap : Nat) (L : List field.Fd) (x : Int) (w : World) (h : field.Fds w a L) (hL : L.length ≤ maxLen) :
    Calls Try.prog 15 #[.agg #[.int .i64 i, .slice a L.length cap], .int .i64 x] w (Gives (.int .i64 (firstAt (ids L) x)) w) := by
  have h1 := newB w (.cells #[.int .i64 i, .slice a L.length cap] 29)
  have h2 := newB (w.alloc (.cells #[.int .i64 i, .slice a L.length cap] 29)) (.cells #[.int .i64 x] 3)
  have cI := indexField_any a cap L x (w.heap.size + 1) ((w.alloc (.cells #[.int .i64 i, .slice a L.length cap] 29)).alloc (.cells #[.int .i64 x] 3)) ((h.below h1).below h2) hL (by simp) (by simp)
  have HB := hid (h1.trans (h2.mono h1.size))
  clear h h1 h2
  generalize firstAt (ids L) x = r at *
  unfold Gives
  go_enter Try.func15, Try.ntmps15
  go_wp2_with (go_at_call 33; ((with_reducible refine cI.mono ?_); rintro e w2 ⟨rfl, hb2⟩))
  go_ret
  exact ⟨rfl, HB.out.trans (hb2.mono HB.out.size)⟩
end Go.Proofs.Ytacigmnnekphmaa.schema
/- Contracts of layer 13 (schema): Form, with slices.IndexFunc, its function and slices.Clone. No condition. -/
namespace Go.Proofs.Ytacigmnnekphmaa.schema
open Go.RowKit
open Go.Proofs.Ytacigmnnekphmaa.field (Gives newB gives_from)
set_option linter.unusedVariables false

theorem below_drew {B : Nat} {a w : World} (h : Below B a w) : Below B a w.drew := below_drewN h 1
def fids (F : List Fm) : List Int := F.map Fm.id
theorem fids_at {F : List Fm} {k : Nat} {p : Fm} (h : F[k]? = some p) : (fids F)[k]? = some p.id := by simp [fids, h]
theorem fids_length (F : List Fm) : (fids F).length = F.length := List.length_map _
theorem fids_forms (F : List Fm) : fids F = (forms F).map (·.1) := by simp [fids, forms, Fm.p, Function.comp_def]
theorem isForm_any (i : Int) (q : Option Addr) (L : List field.Fd) (qc : Nat) (x : Int) (b : Nat) (w : World) (hc : w.cell? ⟨b, 0, none⟩ = some (.int .i64 x)) (hb : b < w.heap.size) :
    Calls Try.prog 26 #[.agg #[.int .i64 i, .slice q L.length qc], .pointer (some ⟨b, 0, none⟩)] w (Gives (.bool (i == x)) w) := by
  have HN := hid (newB w (.cells #[.int .i64 i, .slice q L.length qc] 29))
  obtain ⟨r, hr⟩ : ∃ r : Bool, Hid ((i == x) = r) := ⟨_, rfl⟩
  rw [hr.out]
  unfold Gives
  have hne : w.heap.size ≠ b := by omega
  go_enter Try.func26, Try.ntmps26
  go_wp2
  go_ret
  exact ⟨ret_bool hr.out, HN.out⟩
theorem indexForm_any (a : Option Addr) (cap : Nat) (L : List Fm) (x : Int) (g : Nat) (w : World) (h : FmL w a L) (hL : L.length ≤ maxLen) (hc : w.cell? ⟨g, 0, none⟩ = some (.int .i64 x)) (hg : g < w.heap.size) :
    Calls Try.prog 25 #[.slice a L.length cap, .func (.func 26) #[] #[.pointer (some ⟨g, 0, none⟩)]] w (Gives (.int .i64 (firstAt (fids L) x)) w) := by
  have hml : (L.length : Int) ≤ 9223372036854775807 := by unfold maxLen at hL; omega
  have HF := hid h
  have HC := hid hc
  obtain ⟨r, hr⟩ : ∃ r : Int, Hid (firstAt (fids L) x = r) := ⟨_, rfl⟩
  rw [hr.out]
  unfold Gives
  clear h hL hc
  go_enter Try.func25, Try.ntmps25
  go_wp2
  go_loopw [8] (fun n wr => ∃ k : Nat, k ≤ L.length ∧ n = .int .i64 (k : Int) ∧ Hid (x ∉ (fids L).take k) ∧ Hid (Below w.heap.size w wr)) (fun n _ => L.length - (intOf n).toNat)
  case atStart => exact ⟨0, Nat.zero_le _, rfl, hid (by simp), hid (Below.refl _ _)⟩
  case round =>
    obtain ⟨k, hk, rfl, HNO, HB⟩ := hrel
    by_cases hlt : k < L.length
    · obtain ⟨b, off, p, rfl, hbl, hp, c0, c1, _, _⟩ := form_at HF.out HB.out hlt
      have i1 : (k : Int) < L.length := by omega
      have HHIT := hid (fun e => first_hit HNO.out ((fids_at hp).trans (congrArg some e)))
      have HNX := hid (fun e => not_take_succ HNO.out (fids_at hp) e)
      have cs := isForm_any p.id p.f p.fL p.fCap x g wr (by rw [HB.out.cell (p := ⟨g, 0, none⟩) hg]; exact HC.out) (Nat.lt_of_lt_of_le hg HB.out.size)
      clear hp
      by_cases hx : p.id = x
      · rw [show (p.id == x) = true from beq_iff_eq.2 hx] at cs
        obtain rfl : (k : Int) = r := by rw [← hr.out]; exact (HHIT.out hx).symm
        clear hx
        go_wp2_with (go_at_call 26; ((with_reducible refine cs.mono ?_); rintro e w2 ⟨rfl, hb2⟩))
        go_ret
        exact ⟨rfl, HB.out.trans (hb2.mono HB.out.size)⟩
      · rw [show (p.id == x) = false from beq_eq_false_iff_ne.2 hx] at cs
        have HX := hid hx
        clear hx
        go_wp2_with (go_at_call 26; ((with_reducible refine cs.mono ?_); rintro e w2 ⟨rfl, hb2⟩))
        exact ⟨⟨k + 1, by omega, by go_num, hid (HNX.out HX.out), hid (HB.out.trans (hb2.mono HB.out.size))⟩, by simp [intOf]; omega⟩
    · obtain rfl : k = L.length := by omega
      obtain rfl : -1 = r := by rw [← hr.out]; have := HNO.out; rw [List.take_of_length_le (by rw [fids_length]; exact Nat.le_refl _)] at this; exact (first_none this).symm
      go_wp2
      go_ret
      exact ⟨rfl, HB.out⟩
/-- the call returns a row of its own that reads as the fields L -/
def CopiesF (L : List field.Fd) (w : World) (e : Ending) (w' : World) : Prop := ∃ x c, e = .returned (.slice x L.length c) ∧ field.Fds w' x L ∧ Below w.heap.size w w'
theorem fds_nil (W : World) (a : Option Addr) (n c : Nat) : (binOp .eql 27 (.slice a n c) (.slice none 0 0)).run Try.prog W = .ok (.bool a.isNone) W := by
  have h := run_equal_slice_nil (P := Try.prog) W 27 50 a n c Try.underlying27
  simp [binOp, h, Result.andThen]
theorem clone_any (a : Option Addr) (cap : Nat) (L : List field.Fd) (w : World) (h : field.Fds w a L) (hL : L.length ≤ 1000000) :
    Calls Try.prog 27 #[.slice a L.length cap] w (CopiesF L w) := by
  obtain ⟨i0, hi, hz0, hz1, hz2⟩ := fd_info_parts
  cases a with
  | none =>
    have en := fds_nil w none L.length cap
    simp only [Option.isNone_none] at en
    have hl : L = [] := by
      rcases h with h | ⟨b, off, h, _⟩
      · exact h
      · cases h
    have HR : Hid (CopiesF L w (.returned (.slice none 0 0)) w) := hid ⟨none, 0, by rw [hl]; rfl, .inl hl, Below.refl _ _⟩
    clear h hl hL
    generalize CopiesF L w = R at *
    generalize L.length = n at *
    go_enter Try.func27, Try.ntmps27
    go_wp2
    exact HR.out
  | some ad =>
    have en := fds_nil w (some ad) L.length cap
    simp only [Option.isNone_some] at en
    have hb : Below w.heap.size w (w.alloc (.cells #[] 50)) := (Below.refl _ _).alloc (Nat.le_refl _) _
    have HB := hid hb
    have HN := hid (fds_news (h.below hb))
    have HU := hid (fdV_length L)
    have HN2 : Hid (0 + L.length ≤ maxLen) := by show _ ≤ _; unfold maxLen; omega
    have HN3 : Hid ((0 + L.length) * 40 ≤ 140737488355328) := by show _ ≤ _; omega
    have HO := hid (World.ownsRow_made (base := w.heap.size) (e := 50) (size := 5) w #[] 0 (Nat.le_refl _) (Nat.zero_le _) rfl)
    have H1 := hid (fdV_one L)
    clear h hb hL
    generalize hX : fdV L = X at *
    have HX := hid hX
    clear hX
    generalize hn : L.length = n at *
    have HNN := hid hn
    clear hn
    go_enter Try.func27, Try.ntmps27
    go_wp2_with (at_builtin; refine wpList_append_fromN rfl _ _ 27 rfl w.heap.size 50 i0 _ 5 40 Try.underlying27 hi hz0 hz1 hz2 (by simp [Value.cells]) (by omega) (.slice (some ⟨w.heap.size, 0, none⟩) 0 0) 0 [] rfl HO.out (some ad) n cap X rfl HU.out HN.out H1.out HN2.out HN3.out HB.out.size ?_)
    intro v' w1 ho hg
    have hbl : Below w.heap.size w w1 := HB.out.grown hg HB.out.size (fun k hk => by cases hk; exact Nat.le_refl _)
    have ho' : w1.ownsRow w.heap.size 50 5 v' n (fdV L) := by rw [HX.out]; simpa using ho
    obtain ⟨x, c, rfl, _⟩ := ownsRow_slice ho'
    have HF := hid (own_fds ho').1
    have HB2 := hid hbl
    clear ho ho' hbl hg
    go_wp2
    go_ret
    exact ⟨x, c, by rw [HNN.out]; rfl, HF.out, HB2.out⟩
/-- a store into a struct of two cells leaves fields alone -/
theorem fds_store {w : World} {g : Nat} {t : TypeId} {x y : Value} {a : Option Addr} {L : List field.Fd} (h : field.Fds w a L) (hB : Block w g t [x, y]) (o : Nat) (u : Value) : field.Fds (w.setCell ⟨g, o, none⟩ u) a L := by
  by_cases h0 : L = []
  · exact .inl h0
  · rcases h with h | ⟨b, off, ha, hlt, hc⟩
    · exact absurd h h0
    · have hne : b ≠ g := by
        rintro rfl
        obtain ⟨p, hp⟩ : ∃ p, L[0]? = some p := by
          cases L with
          | nil => exact absurd rfl h0
          | cons p L => exact ⟨p, rfl⟩
        have h4 := (hc 0 p hp).2.2.2.2
        rw [hB.cell] at h4
        have := (List.getElem?_eq_some_iff.1 h4).1
        simp at this
        omega
      refine .inr ⟨b, off, ha, Nat.lt_of_lt_of_le hlt (by simp), fun i p hp => ?_⟩
      have hs : ∀ j, (w.setCell ⟨g, o, none⟩ u).cell? ⟨b, j, none⟩ = w.cell? ⟨b, j, none⟩ := fun j => World.cell?_setCell_other _ _ _ _ (by intro h; cases h; exact hne rfl)
      rw [hs, hs, hs, hs, hs]
      exact hc i p hp
/-- two results of which the first lives in a variable -/
theorem results_cell2 {fn : Func} {p u : Tmp} {ty : TypeId} {tmps : Array Value} {P : Program} {w : World} {b o : Nat} {cs : List Value} {d : TypeDesc} (h : fn.results = #[.cell p ty, .tmp u])
    (hp : tmps.getD p undef = .pointer (some ⟨b, o, none⟩)) (hc : w.rangeAt b o cs) (hu : P.underlying ty = some d) (hd : d.isRow = true) (hi : (P.info? ty).map (·.size) = some cs.length) :
    (results fn tmps).run P w = .ok (.tuple #[.agg cs.toArray, tmps.getD u undef]) w := by
  simp only [results, h]
  simp at hp
  simp [hp, asAddr, run_loadVar_mid w b o ty cs d hc hu hd hi]
/-- the world in which a schema and a number have been boxed and the result's variable made -/
def W3 (v : Int) (a : Option Addr) (F : List Fm) (c : Nat) (x : Int) (w : World) : World := ((w.alloc (.cells #[.int .i64 v, .slice a F.length c] 24)).alloc (.cells #[.int .i64 x] 3)).alloc (.cells #[.int .i64 0, .slice none 0 0] 29)
theorem W3.all (v : Int) (a : Option Addr) (F : List Fm) (c : Nat) (x : Int) (w w' : World) (hb : Below (W3 v a F c x w).heap.size (W3 v a F c x w) w') : w'.cell? ⟨w.heap.size, 0, none⟩ = some (.int .i64 v) ∧ w'.cell? ⟨w.heap.size, 1, none⟩ = some (.slice a F.length c) ∧ w'.cell? ⟨w.heap.size + 1, 0, none⟩ = some (.int .i64 x) ∧ Block w' (w.heap.size + 2) 29 [.int .i64 0, .slice none 0 0] ∧ Below w.heap.size w w' := by
  have h1 : Below ((w.alloc (.cells #[.int .i64 v, .slice a F.length c] 24)).alloc (.cells #[.int .i64 x] 3)).heap.size ((w.alloc (.cells #[.int .i64 v, .slice a F.length c] 24)).alloc (.cells #[.int .i64 x] 3)) w' := below_out hb
  obtain ⟨c0, c1, h2⟩ := boxS v a F c w w' (below_out h1)
  refine ⟨c0, c1, ?_, ?_, h2⟩
  · have hB := ((Block.new (w.alloc (.cells #[.int .i64 v, .slice a F.length c] 24)) 3 [.int .i64 x])).later h1
    have := hB.cell 0
    simpa using this
  · have hB := (Block.new ((w.alloc (.cells #[.int .i64 v, .slice a F.length c] 24)).alloc (.cells #[.int .i64 x] 3)) 29 [.int .i64 0, .slice none 0 0]).later hb
    simpa using hB
theorem W3.forms (v : Int) (a : Option Addr) (F : List Fm) (c : Nat) (x : Int) (w : World) : Below w.heap.size w (W3 v a F c x w) := (W3.all v a F c x w _ (Below.refl _ _)).2.2.2.2
theorem form_no (v : Int) (a : Option Addr) (c : Nat) (F : List Fm) (x : Int) (w : World) (h : FmL w a F) (hF : F.length ≤ maxLen) (hx : x ∉ fids F) :
    Calls Try.prog 8 #[.agg #[.int .i64 v, .slice a F.length c], .int .i64 x] w (Gives (.tuple #[.agg #[.int .i64 0, .slice none 0 0], .bool false]) w) := by
  have HX := hid (W3.all v a F c x w)
  have h0 := W3.all v a F c x w _ (Below.refl _ _)
  have hsz : (W3 v a F c x w).heap.size = w.heap.size + 3 := by simp [W3]
  have cI := indexForm_any a c F x (w.heap.size + 1) (W3 v a F c x w) (h.below (W3.forms v a F c x w)) hF h0.2.2.1 (by omega)
  rw [first_none hx] at cI
  clear h hx h0 hsz
  unfold W3 at HX cI
  unfold Gives
  go_enter Try.func8, Try.ntmps8
  go_wp2_with (go_at_call 25; ((with_reducible refine cI.mono ?_); rintro e w2 ⟨rfl, hb2⟩; obtain ⟨z0, z1, z2, hblk, hbo⟩ := HX.out _ hb2; have r0 := hblk.cell 0; have r1 := hblk.cell 1; have f0 := hblk.frozen 0; have f1 := hblk.frozen 1))
  have hB := (hblk.setCell 0 (.int .i64 0)).setCell 1 (.slice none 0 0)
  refine bodyPost_ret (results_cell2 (b := w.heap.size + 2) (o := 0) rfl rfl hB.whole Try.underlying29 rfl (fm_info2 _ _)) rfl ?_
  exact ⟨rfl, below_setCells (below_setCells hbo (by omega) 0 [.int .i64 0]) (by omega) 1 [.slice none 0 0]⟩
theorem form_yes (v : Int) (a : Option Addr) (c : Nat) (F : List Fm) (x : Int) (k : Nat) (p : Fm) (w : World) (h : FmL w a F) (hF : F.length ≤ maxLen) (hp : F[k]? = some p) (hx : p.id = x) (hn : x ∉ (fids F).take k) (hL : p.fL.length ≤ 1000000) :
    Calls Try.prog 8 #[.agg #[.int .i64 v, .slice a F.length c], .int .i64 x] w fun e w' => ∃ y cap, e = .returned (.tuple #[.agg #[.int .i64 x, .slice y p.fL.length cap], .bool true]) ∧ field.Fds w' y p.fL ∧ Below w.heap.size w w' := by
  have HX := hid (W3.all v a F c x w)
  have h0 := W3.all v a F c x w _ (Below.refl _ _)
  have hsz : (W3 v a F c x w).heap.size = w.heap.size + 3 := by simp [W3]
  have h3 := h.below (W3.forms v a F c x w)
  have cI := indexForm_any a c F x (w.heap.size + 1) (W3 v a F c x w) h3 hF h0.2.2.1 (by omega)
  rw [first_hit hn (by rw [← hx]; exact fids_at hp)] at cI
  have hk : k < F.length := (List.getElem?_eq_some_iff.1 hp).1
  obtain ⟨b, off, rfl, hbl0⟩ : ∃ b off, a = some ⟨b, off, none⟩ ∧ b < w.heap.size := by obtain ⟨b, off, q0, h1, h2, _⟩ := form_at h (Below.refl _ _) hk; exact ⟨b, off, h1, h2⟩
  obtain ⟨b', off', q, hab, hbl, hq, c0, c1, hfd, hfl⟩ := form_at h3 (Below.refl _ _) hk
  obtain ⟨rfl, rfl⟩ : b = b' ∧ off = off' := by cases hab; exact ⟨rfl, rfl⟩
  clear hab
  have hn1 : b ≠ w.heap.size + 1 + 1 := by omega
  have hn2 : w.heap.size + 1 + 1 ≠ b := by omega
  have hn3 : w.heap.size ≠ w.heap.size + 1 + 1 := by omega
  have hn4 : w.heap.size + 1 + 1 ≠ w.heap.size := by omega
  obtain rfl : p = q := by rw [hp] at hq; exact Option.some.inj hq
  have HFD := hid hfd
  have cC := fun w' (hb : Below (W3 v (some ⟨b, off, none⟩) F c x w).heap.size (W3 v (some ⟨b, off, none⟩) F c x w) w') => clone_any p.f p.fCap p.fL w' (hfd.below hb) hL
  have HC1 := hid (fun w' (hb : Below (W3 v (some ⟨b, off, none⟩) F c x w).heap.size (W3 v (some ⟨b, off, none⟩) F c x w) w') => (hb.cell (p := ⟨b, off + k * 2 + 1, none⟩) hbl).trans c1)
  have i1 : (k : Int) < F.length := by omega
  clear h hx hn h0 hsz hp h3 hq c0 c1 hfd hfl hbl hL hF hbl0
  obtain ⟨i, f, fc, L⟩ := p
  simp only at cC HC1 HFD ⊢
  unfold W3 at HX cI cC HC1
  go_enter Try.func8, Try.ntmps8
  go_wp2_with (go_at_call 25; ((with_reducible refine cI.mono ?_); rintro e w2 ⟨rfl, hb2⟩; obtain ⟨z0, z1, z2, hblk, hbo⟩ := HX.out _ hb2; have r0 := hblk.cell 0; have r1 := hblk.cell 1; have f0 := hblk.frozen 0; have f1 := hblk.frozen 1))
  have hb2d := below_drew hb2
  have y0 := HC1.out _ hb2d
  obtain ⟨z0, z1, z2, hblk, hbo⟩ := HX.out w2.drew hb2d
  go_region_held3 (fun w' => w'.cell? ⟨w.heap.size, 1, none⟩ = some (.slice (some ⟨b, off, none⟩) F.length c) ∧ w'.cell? ⟨w.heap.size + 1, 0, none⟩ = some (.int .i64 x) ∧ w'.cell? ⟨b, off + k * 2 + 1, none⟩ = some (.slice f L.length fc)) (first | assumption | go_keep | (rw [World.cell?_setCell_other _ _ _ _ (by simp), World.cell?_setCell_other _ _ _ _ (by simp)]; assumption)) (first
    | (go_at_call 27; (with_reducible refine (cC _ hb2d).mono ?_); rintro e w3 ⟨y, yc, rfl, hf3, hb3⟩; have hb23 := hb2d.trans (hb3.mono hb2d.size); have y0 := HC1.out _ hb23; obtain ⟨z0, z1, z2, hblk3, hbo3⟩ := HX.out w3 hb23; have r0 := hblk3.cell 0; have r1 := hblk3.cell 1; have f0 := hblk3.frozen 0; have f1 := hblk3.frozen 1))
  go_wp2
  have hB := (hblk3.setCell 0 (.int .i64 x)).setCell 1 (.slice y L.length yc)
  have hF3 := fds_store (fds_store hf3 hblk3 0 (.int .i64 x)) (hblk3.setCell 0 (.int .i64 x)) 1 (.slice y L.length yc)
  refine bodyPost_ret (results_cell2 (b := w.heap.size + 2) (o := 0) rfl rfl hB.whole Try.underlying29 rfl (fm_info2 _ _)) rfl ?_
  exact ⟨y, yc, rfl, hF3, below_setCells (below_setCells hbo3 (by omega) 0 [.int .i64 x]) (by omega) 1 [.slice y L.length yc]⟩
end Go.Proofs.Ytacigmnnekphmaa.schema
/- Contract of layer 13 (schema): Parse. No condition but bytes that are fewer than 2^47. -/
namespace Go.Proofs.Ytacigmnnekphmaa.schema
open Go.RowKit Go.Proofs.Ytacigmnnekphmaa.pen
set_option linter.unusedVariables false

set_option maxRecDepth 20000 in
set_option maxHeartbeats 1600000 in
theorem parse_any (a : Option Addr) (c : Nat) (xs : List Nat) (w : World) (hr : Reads .u8 w a xs.length xs) (hx : ∀ c ∈ xs, c < 256) (hl : xs.length ≤ 140737488355328) :
    Calls Try.prog 23 #[.slice a xs.length c] w (ParsedAs xs w) := by
  obtain ⟨V, s1, hV⟩ : ∃ V s1, eCount 65535 (xs, 0) = (V, s1) := ⟨_, _, rfl⟩
  obtain ⟨N, s2, hN⟩ : ∃ N s2, eCount 8 s1 = (N, s2) := ⟨_, _, rfl⟩
  have hN8 : N ≤ 8 := by have := eCount_le 8 s1; rw [show ((8 : Nat) : Int) = 8 from rfl, hN] at this; exact this
  have hP : parsed xs = (if eEnd (takeFms N s2).2 ≠ 0 then (0, [], eEnd (takeFms N s2).2) else if Right V (takeFms N s2).1 then ((V : Int), (takeFms N s2).1, 0) else (0, [], 2)) := by
    have h1 : readV xs = (V, s1) := hV
    have h2 : readN xs = (N, s2) := by unfold readN; rw [h1]; exact hN
    have h3 : readF xs = takeFms N s2 := by unfold readF; rw [h2]
    unfold parsed
    rw [h3, h1]
  have HP := hid hP
  clear hP
  have hb0 := field.newB w (.cells #[.int .i64 0, .slice none 0 0] 24)
  have c0 := of_any a c xs (w.alloc (.cells #[.int .i64 0, .slice none 0 0] 24)) (hr.below hb0) hx hl
  have HR0 := hid (Block.new w 24 [.int .i64 0, .slice none 0 0])
  have HB0 := hid hb0
  have c1 := fun b w' hE => eyeCount_any b (xs, 0) w' hE 65535 (by omega) (by omega)
  have c2 := fun b w' hE => eyeCount_any b s1 w' hE 8 (by omega) (by omega)
  rw [hV] at c1
  rw [hN] at c2
  clear hV hN hr hx hl hb0
  simp only at c1 c2
  unfold Saw at c1 c2
  go_enter Try.func23, Try.ntmps23
  go_wp2_with (first
    | (go_at_call 43; ((with_reducible refine c0.mono ?_); rintro e w1 ⟨b, rfl, hbb, hE1, hu1⟩; have hR1 := HR0.out.later hu1; have hne : w.heap.size ≠ b := (by simp at hbb; omega)))
    | (go_at_call 44; ((with_reducible refine (c1 b w1 hE1).mono ?_); rintro e w2 ⟨rfl, hE2, hu2⟩; have hR2 := blk_but hR1 hu2 hne))
    | (go_at_call 44; ((with_reducible refine (c2 b _ (hE2.later (field.newB _ _))).mono ?_); rintro e w3 ⟨rfl, hE3, hu3⟩; have HS3 := hid ((SS.start hE2 V).call hE3 hu3))))
  have hsz2 : w.heap.size < w2.heap.size := hR2.lt
  have hsz1 : w.heap.size ≤ w1.heap.size := Nat.le_of_lt hR1.lt
  have hbw : w.heap.size ≤ b := by simp at hbb; omega
  have hb2 : Below w.heap.size w w2 := (HB0.out.trans (hu1.mono HB0.out.size)).trans ((hu2.mono hsz1).below (Nat.le_refl _) hbw)
  have HB2 := hid hb2
  have HR2 := hid hR2
  have HSZ := hid hsz2
  obtain ⟨S, hS⟩ : ∃ S, Hid (w2.heap.size = S) := ⟨_, hid rfl⟩
  rw [hS.out] at HS3 HSZ ⊢
  clear hu1 hu2 hu3 hE1 hE2 hE3 c0 c1 c2 hb2 hsz2 hsz1 hR1 hR2 hbb
  go_loopw [14] (fun m wr => ∃ k : Nat, k ≤ N ∧ m = .int .i64 (k : Int) ∧ Hid (∃ P u, forms P = (takeFms k s2).1 ∧ SS 89 V b S w2 P (takeFms k s2).2 k u wr)) (fun m _ => N - (intOf m).toNat)
  case atStart => exact ⟨0, Nat.zero_le _, rfl, hid ⟨[], _, rfl, HS3.out⟩⟩
  case round =>
    obtain ⟨k, hk, rfl, HS⟩ := hrel
    obtain ⟨P, u, hPk, hS⟩ := HS.out
    obtain ⟨ua, uc, rfl, _⟩ := ownsRow_slice hS.row
    by_cases hlt2 : k < N
    · have i1 : (k : Int) < N := by omega
      obtain ⟨p, s4, hp⟩ : ∃ p s4, takeFm (takeFms k s2).2 = (p, s4) := ⟨_, _, rfl⟩
      have HT1 : Hid ((takeFms (k + 1) s2).1 = (takeFms k s2).1 ++ [p]) := hid (by rw [takeFms, hp])
      have HT2 : Hid ((takeFms (k + 1) s2).2 = s4) := hid (by rw [takeFms, hp])
      have cP := fun w' hE => parseForm_any b (takeFms k s2).2 w' hE
      rw [hp] at cP
      clear hp HS HS3
      have HPK := hid hPk
      clear hPk
      generalize (takeFms k s2).1 = L at *
      generalize (takeFms k s2).2 = sk at *
      have HS := hid (hS.later (w' := wr.drew) (below_drewN (Below.refl _ _) 1))
      clear hS
      go_wp2
      refine plan.regionT (by kernel_rfl) ?_
      have hS := HS.out
      refine plan.free 0 _ (.pointer (some ⟨S, 1, none⟩)) rfl (by kernel_rfl) (by kernel_rfl) (by kernel_rfl) (by kernel_rfl) (fun w' => (by kernel_rfl)) ?_
      refine plan.free 2 _ (.pointer (some ⟨b, 0, none⟩)) rfl (by kernel_rfl) (by kernel_rfl) (by kernel_rfl) (by kernel_rfl) (fun w' => (by kernel_rfl)) ?_
      refine plan.toL 3 (fun x y z => #[true, x, true, y, z, false, false, false]) rfl (by kernel_rfl) ?_
      refine plan.late 1 3 4 17 19 20 (by decide) (by decide) _ _ _ (fun x y z => #[true, x, true, y, z, false, false, false]) rfl rfl rfl rfl rfl rfl rfl rfl rfl (by intro y z; cases y <;> cases z <;> rfl) (by intro x; cases x <;> rfl) (by intro x; cases x <;> rfl)
        (by kernel_rfl) (by kernel_rfl) (by kernel_rfl) (by kernel_rfl) (by kernel_rfl) (.slice ua k uc) 45 #[.pointer (some ⟨b, 0, none⟩)]
        (fun v w' => ∃ q : Fm, v = q.val ∧ q.p = p ∧ OwnM (S + 1) w' q ∧ SS 89 V b S w2 P s4 k (.slice ua k uc) w') (fun v w' => .slice (some ⟨w'.heap.size, 0, none⟩) 1 1) (fun v w' => w'.alloc (.cells v.cells 29))
        (exec_cell_slice' (ad := ⟨S, 1, none⟩) rfl (by kernel_rfl) (hS.f.cell 1) Try.isAgg22)
        (fun v w' hM => by obtain ⟨q, _, _, _, h4⟩ := hM; exact exec_cell_slice' (ad := ⟨S, 1, none⟩) rfl (by kernel_rfl) (h4.f.cell 1) Try.isAgg22)
        (fun v w' hM => by obtain ⟨q, _, _, _, h4⟩ := hM; exact exec_cell_slice' (ad := ⟨S, 1, none⟩) rfl (by kernel_rfl) ((h4.f.alloc _).cell 1) Try.isAgg22)
        (by kernel_rfl) (by kernel_rfl) ((cP _ hS.eye).mono ?_) (fun v w' hM => by obtain ⟨q, rfl, _⟩ := hM; kernel_rfl) (fun v w' hM => by obtain ⟨q, rfl, _⟩ := hM; kernel_rfl) ?_
      · rintro e w3 ⟨q, rfl, hq, ho, hE3, hu3⟩
        exact ⟨_, rfl, q, rfl, hq, own_low ho (by have := hS.f.lt; omega), hS.call hE3 hu3⟩
      · rintro v w3 ⟨q, rfl, hq, hO3, hS3⟩
        have hN3 := field.newB w3 (.cells #[.int .i64 q.id, .slice q.f q.fL.length q.fCap] 29)
        have hS4 := hS3.later hN3
        have hO4 : OwnM (S + 1) (w3.alloc (.cells #[.int .i64 q.id, .slice q.f q.fL.length q.fCap] 29)) q := ownsRow_later hO3 hN3
        refine plan.oneE 5 _ (fun z w5 => w5.ownsRow (S + 1) 29 2 z (k + 1) (fmV (P ++ [q])) ∧ (w3.alloc (.cells #[.int .i64 q.id, .slice q.f q.fL.length q.fCap] 29)).grownBy w5 (Value.slice ua k uc).ownBlock) rfl rfl (by kernel_rfl)
          (exec_push_fm (g := w3.heap.size) rfl (by kernel_rfl) (by kernel_rfl) hS4.row (Block.new w3 29 (fmC q)) (by omega) hS4.f.lt) ?_
        rintro z w5 ⟨ho5, hg5⟩
        have hF5 := hS4.held hg5
        have hS6 := hS4.push hO4 hg5 ho5
        obtain ⟨qa, qc, rfl, _⟩ := ownsRow_slice ho5
        refine plan.oneT (w1 := w5) 6 _ (.pointer (some ⟨S, 1, none⟩)) rfl rfl (by kernel_rfl) (by kernel_rfl) ?_
        refine plan.lastT (w1 := w5.setCell ⟨S, 1, none⟩ (.slice qa (k + 1) qc)) 7 _ rfl rfl rfl (by kernel_rfl) (by kernel_rfl) (exec_put_fm (ad := ⟨S, 1, none⟩) rfl (by kernel_rfl) (by kernel_rfl) (hF5.cell 1) (hF5.frozen 1)) ?_
        have HS6 := hid hS6
        have HQ := hid hq
        clear hS6 hF5 ho5 hg5 hS4 hS3 hS hO3 hO4 hN3 hq
        walk_nrm
        go_wp2
        exact ⟨⟨k + 1, by omega, by go_num, hid ⟨P ++ [q], _, by rw [HT1.out, ← HPK.out, ← HQ.out]; simp [forms], by rw [HT2.out]; exact HS6.out⟩⟩, by simp [intOf]; omega⟩
    · obtain rfl : k = N := by omega
      have hR := HR2.out.but hS.but HSZ.out (show w.heap.size ≠ b by omega)
      have hbw2 : Below w.heap.size w wr := HB2.out.trans (hS.but.below (Nat.le_of_lt HSZ.out) hbw)
      have hkl := hS.list.2
      have HRW := hid hR
      have HBW := hid hbw2
      have HSS := hid hS
      have HKL := hid hkl
      have HPK := hid hPk
      have HRS : Hid (w.heap.size ≠ S) := hid (Nat.ne_of_lt HSZ.out)
      have cE : Calls Try.prog 46 #[.pointer (some ⟨b, 0, none⟩)] wr (field.Gives (.int .i64 (eEnd (takeFms k s2).2 : Int)) wr) := (end_any b _ wr hS.eye).mono (by rintro e w' ⟨rfl, m, rfl⟩; exact ⟨rfl, below_drewN (Below.refl _ _) m⟩)
      clear HS hS hR hbw2 hPk HS3 HR2 HB2 hkl
      by_cases hE : eEnd (takeFms k s2).2 = 0
      · rw [hE] at cE
        have HP2 := HP.out
        rw [if_neg (by rw [hE]; simp)] at HP2
        have HP2 := hid HP2
        have cR := fun w' (hb : Below wr.heap.size wr w') => right_any V ua uc P w' ((HSS.out.later hb).list.1) (by have := HKL.out; unfold maxLen; omega)
        rw [HPK.out] at cR
        rw [← HKL.out] at cR
        have hN0 : (((0 : Nat) : Int) == 0) = true := rfl
        clear HP hE
        by_cases hri : Right V (takeFms k s2).1
        · have HP3 : Hid (parsed xs = ((V : Int), (takeFms k s2).1, 0)) := hid (by rw [HP2.out, if_pos hri])
          simp only [decide_eq_true hri] at cR
          clear HP2 hri
          go_wp2_with (first
            | (go_at_call 46; ((with_reducible refine cE.mono ?_); rintro e w5 ⟨rfl, hb5⟩; have hR5 := HRW.out.later hb5; have hS5 := HSS.out.later hb5; have x0 := hR5.cell 0; have x1 := hR5.cell 1; have p0 := hR5.frozen 0; have p1 := hR5.frozen 1; have y0 := hS5.f.cell 0; have y1 := hS5.f.cell 1))
            | (go_at_call 17; ((with_reducible refine (cR _ hb5).mono ?_); rintro e w6 ⟨rfl, hb6⟩; have hR6 := hR5.later hb6; have hS6 := hS5.later hb6; have x0 := hR6.cell 0; have x1 := hR6.cell 1; have p0 := hR6.frozen 0; have p1 := hR6.frozen 1; have y0 := hS6.f.cell 0; have y1 := hS6.f.cell 1)))
          have hB := (hR6.setCell 0 (.int .i64 (V : Int))).setCell 1 (.slice ua k uc)
          exact bodyPost_ret (results_cell2 (b := w.heap.size) (o := 0) rfl rfl hB.whole Try.underlying24 rfl (sc_info2 _ _)) rfl (parse_some HP3.out HPK.out hS6 HSZ.out ((HBW.out.trans (hb5.mono HBW.out.size)).trans (hb6.mono (Nat.le_trans HBW.out.size hb5.size))))
        · have HP3 : Hid (parsed xs = (0, [], 2)) := hid (by rw [HP2.out, if_neg hri])
          simp only [decide_eq_false hri] at cR
          clear HP2 hri
          go_wp2_with (first
            | (go_at_call 46; ((with_reducible refine cE.mono ?_); rintro e w5 ⟨rfl, hb5⟩; have hR5 := HRW.out.later hb5; have hS5 := HSS.out.later hb5; have x0 := hR5.cell 0; have x1 := hR5.cell 1; have p0 := hR5.frozen 0; have p1 := hR5.frozen 1; have y0 := hS5.f.cell 0; have y1 := hS5.f.cell 1))
            | (go_at_call 17; ((with_reducible refine (cR _ hb5).mono ?_); rintro e w6 ⟨rfl, hb6⟩; have hR6 := hR5.later hb6; have hS6 := hS5.later hb6; have x0 := hR6.cell 0; have x1 := hR6.cell 1; have p0 := hR6.frozen 0; have p1 := hR6.frozen 1; have y0 := hS6.f.cell 0; have y1 := hS6.f.cell 1)))
          have hB := (hR6.setCell 0 (.int .i64 0)).setCell 1 (.slice none 0 0)
          exact bodyPost_ret (results_cell2 (b := w.heap.size) (o := 0) rfl rfl hB.whole Try.underlying24 rfl (sc_info2 _ _)) rfl (parse_none HP3.out ((HBW.out.trans (hb5.mono HBW.out.size)).trans (hb6.mono (Nat.le_trans HBW.out.size hb5.size))))
      · have HP2 : Hid (parsed xs = (0, [], eEnd (takeFms k s2).2)) := hid (by rw [HP.out, if_pos hE])
        have hne : ((eEnd (takeFms k s2).2 : Int) == 0) = false := by rw [beq_eq_false_iff_ne]; omega
        have hne2 : ((eEnd (takeFms k s2).2 : Int) != 0) = true := by simp [hE]
        generalize eEnd (takeFms k s2).2 = E at *
        clear HP hE
        go_wp2_with (first
          | (go_at_call 46; ((with_reducible refine cE.mono ?_); rintro e w5 ⟨rfl, hb5⟩; have hR5 := HRW.out.later hb5; have hS5 := HSS.out.later hb5; have x0 := hR5.cell 0; have x1 := hR5.cell 1; have p0 := hR5.frozen 0; have p1 := hR5.frozen 1; have y0 := hS5.f.cell 0; have y1 := hS5.f.cell 1))
          | (go_at_call 17; ((with_reducible refine (cR _ hb5).mono ?_); rintro e w6 ⟨rfl, hb6⟩; have hR6 := hR5.later hb6; have hS6 := hS5.later hb6; have x0 := hR6.cell 0; have x1 := hR6.cell 1; have p0 := hR6.frozen 0; have p1 := hR6.frozen 1; have y0 := hS6.f.cell 0; have y1 := hS6.f.cell 1)))
        have hB := (hR5.setCell 0 (.int .i64 0)).setCell 1 (.slice none 0 0)
        exact bodyPost_ret (results_cell2 (b := w.heap.size) (o := 0) rfl rfl hB.whole Try.underlying24 rfl (sc_info2 _ _)) rfl (parse_none HP2.out (HBW.out.trans (hb5.mono HBW.out.size)))
end Go.Proofs.Ytacigmnnekphmaa.schema
/- Contract of the reference's groups: the number of the varint at the start of a row of bytes. No condition. -/
namespace Go.Proofs.Ytacigmnnekphmaa.pen
open Go.RowKit Go.Proofs.Ytacigmnnekphmaa.texts
set_option linter.unusedVariables false

set_option maxRecDepth 8000 in
theorem groups_any (a : Option Addr) (c : Nat) (xs : List Nat) (w : World) (hr : Reads .u8 w a xs.length xs) (hc : xs.length ≤ c) (hx : ∀ c ∈ xs, c < 256) (hl : xs.length ≤ 140737488355328) :
    Calls Try.prog 64 #[.slice a xs.length c] w (Quiet (grpV (grp 0 0 xs)) w) := by
  have HR := hid hr
  clear hr
  obtain ⟨G, hG⟩ : ∃ G, Hid (grp 0 0 xs = G) := ⟨_, rfl⟩
  rw [hG.out]
  have HD : Hid (grp 0 0 (xs.drop 0) = G) := hG.out
  go_enter Try.func64, Try.ntmps64
  go_wp2
  go_loopw [5, 6, 7] (fun x p i wr => ∃ k U P : Nat, k ≤ xs.length ∧ k ≤ 9 ∧ i = .int .i64 (k : Int) ∧ x = .int .u64 (U : Int) ∧ p = .int .u64 (P : Int) ∧ Hid (P = 2 ^ (7 * k)) ∧ U < P ∧ wr = w ∧ Hid (grp k U (xs.drop k) = G))
    (fun x p i _ => xs.length - (intOf i).toNat)
  case atStart => exact ⟨0, 0, 1, Nat.zero_le _, by omega, rfl, rfl, rfl, rfl, by omega, rfl, HD⟩
  case round =>
    obtain ⟨k, U, P, hkN, hk9, rfl, rfl, rfl, hP, hU, rfl, hg⟩ := hrel
    have hi10 : (k : Int) < 10 := by omega
    by_cases hlt : k < xs.length
    · have hi : (k : Int) < xs.length := by omega
      obtain ⟨g, off, rfl, hgb, hcell⟩ := HR.out.at hlt
      have hcl := hcell k hlt
      have h256 := getD_lt hx k
      have hg2 := hg.out
      rw [drop_next xs k hlt, grp_form] at hg2
      have HG := hid hg2
      obtain ⟨C, hC⟩ : ∃ C, Hid (xs.getD k 0 = C) := ⟨_, rfl⟩
      rw [hC.out] at hcl h256 HG
      clear hcell hg hg2 HR hC
      have p9 : (128 : Nat) ^ k = P := by rw [hP.out, show (128 : Nat) = 2 ^ 7 from rfl, ← Nat.pow_mul]
      rw [p9] at HG
      have hp63 : 2 ^ (7 * k) ≤ 2 ^ 63 := Nat.pow_le_pow_right (by omega) (by omega)
      rw [← hP.out] at hp63
      by_cases h9 : k = 9
      · have q1 : ((k : Int) == 9) = true := by rw [beq_iff_eq]; omega
        have q3 : (0 : Int) < k := by omega
        by_cases h1 : 1 < C
        · have q2 : (1 : Int) < C := by omega
          have HV : Hid (G = (0, 0, 4)) := by show _ = _; rw [← HG.out, if_pos ⟨h9, h1⟩]
          clear h9 h1 p9 hp63 HG hlt hU
          go_wp2
          go_ret3
          exact ⟨by rw [HV.out]; rfl, 0, rfl⟩
        · have q2 : ¬ (1 : Int) < C := by omega
          by_cases h0 : C = 0
          · have q4 : ((C : Int) == 0) = true := by rw [beq_iff_eq]; omega
            have HV : Hid (G = (0, 0, 4)) := by show _ = _; rw [← HG.out, if_neg (by omega), if_pos (by omega)]
            clear h9 h1 p9 hp63 HG hlt h0 hU
            go_wp2
            go_ret3
            exact ⟨by rw [HV.out]; rfl, 0, rfl⟩
          · have q4 : ((C : Int) == 0) = false := by rw [beq_eq_false_iff_ne]; omega
            have q5 : (C : Int) < 128 := by omega
            have HV : Hid (G = (U + C * P, k + 1, 0)) := by show _ = _; rw [← HG.out, if_neg (by omega), if_neg (by omega), if_pos (by omega)]
            obtain rfl : C = 1 := by omega
            have hUP : U + P < 18446744073709551616 := by omega
            rw [show ((1 : Nat) : Int) = 1 from rfl] at hcl
            clear h9 h1 p9 HG hlt h0 q4 h256 q2 q5
            go_wp2
            go_ret3
            exact ⟨by rw [HV.out, Nat.one_mul]; rfl, 0, rfl⟩
      · have q1 : ((k : Int) == 9) = false := by rw [beq_eq_false_iff_ne]; omega
        have hp56 : P ≤ 72057594037927936 := by rw [hP.out]; exact Nat.pow_le_pow_right (show 0 < 2 by omega) (show 7 * k ≤ 56 by omega)
        by_cases hB : 0 < k ∧ C = 0
        · have q3 : (0 : Int) < k := by omega
          have q4 : ((C : Int) == 0) = true := by rw [beq_iff_eq]; omega
          have HV : Hid (G = (0, 0, 4)) := by show _ = _; rw [← HG.out, if_neg (by omega), if_pos hB]
          clear h9 p9 hp63 HG hlt hU hB hp56
          go_wp2
          go_ret3
          exact ⟨by rw [HV.out]; rfl, 0, rfl⟩
        · by_cases h128 : C < 128
          · have q5 : (C : Int) < 128 := by omega
            have hm : C * P ≤ 128 * P := Nat.mul_le_mul_right _ (by omega)
            obtain ⟨Q, hQ⟩ : ∃ Q, C * P = Q := ⟨_, rfl⟩
            have w1 : (C : Int) * (P : Int) = (Q : Int) := by rw [← hQ]; simp
            have w2 : (C : Int) % 128 * (P : Int) = (Q : Int) := by rw [← w1, show (C : Int) % 128 = C by omega]
            have hQ9 : Q ≤ 9223372036854775808 := by omega
            have HV : Hid (G = (U + Q, k + 1, 0)) := by show _ = _; rw [← HG.out, if_neg (by omega), if_neg hB, if_pos h128, hQ]
            by_cases h0 : 0 < k
            · have q3 : (0 : Int) < k := by omega
              have q4 : ((C : Int) == 0) = false := by rw [beq_eq_false_iff_ne]; omega
              clear h9 p9 hp63 HG hlt hB h128 hm h0 hQ
              go_wp2
              go_ret3
              exact ⟨by rw [HV.out]; rfl, 0, rfl⟩
            · have q3 : ¬ (0 : Int) < k := by omega
              clear h9 p9 hp63 HG hlt hB h128 hm h0 hQ
              go_wp2
              go_ret3
              exact ⟨by rw [HV.out]; rfl, 0, rfl⟩
          · have q5 : ¬ (C : Int) < 128 := by omega
            have hm : (C - 128) * P ≤ 127 * P := Nat.mul_le_mul_right _ (by omega)
            obtain ⟨Q, hQ⟩ : ∃ Q, (C - 128) * P = Q := ⟨_, rfl⟩
            have w2 : (C : Int) % 128 * (P : Int) = (Q : Int) := by rw [← hQ, show (C : Int) % 128 = ((C - 128 : Nat) : Int) by omega]; simp
            have hQ9 : Q ≤ 127 * P := by omega
            have HV : Hid (grp (k + 1) (U + Q) (xs.drop (k + 1)) = G) := by show _ = _; rw [← HG.out, if_neg (by omega), if_neg hB, if_neg h128, hQ]
            have HP : Hid (P * 128 = 2 ^ (7 * (k + 1))) := by show _ = _; rw [hP.out, show 7 * (k + 1) = 7 * k + 7 by omega, Nat.pow_add]
            have HU' : Hid (U + Q < P * 128) := by show _ < _; omega
            have q4 : ((C : Int) == 0) = false := by rw [beq_eq_false_iff_ne]; omega
            have HK : Hid (k + 1 ≤ xs.length ∧ k + 1 ≤ 9) := ⟨by omega, by omega⟩
            by_cases h0 : 0 < k
            · have q3 : (0 : Int) < k := by omega
              clear h9 p9 hp63 HG hB h128 hm h0 hQ
              go_wp2
              exact ⟨⟨k + 1, U + Q, P * 128, HK.out.1, HK.out.2, by go_num, by go_num, by go_num, HP, HU'.out, trivial, HV⟩, by simp [intOf]; omega⟩
            · have q3 : ¬ (0 : Int) < k := by omega
              clear h9 p9 hp63 HG hB h128 hm h0 hQ
              go_wp2
              exact ⟨⟨k + 1, U + Q, P * 128, HK.out.1, HK.out.2, by go_num, by go_num, by go_num, HP, HU'.out, trivial, HV⟩, by simp [intOf]; omega⟩
    · have hi : ¬ (k : Int) < xs.length := by omega
      have HV : Hid (G = (0, 0, 5)) := by
        have := hg.out
        rw [List.drop_of_length_le (by omega)] at this
        exact this.symm
      clear hg
      go_wp2
      go_ret3
      exact ⟨by rw [HV.out]; rfl, 0, rfl⟩
end Go.Proofs.Ytacigmnnekphmaa.pen
/- Contract of the reference's eye: End. No condition. -/
namespace Go.Proofs.Ytacigmnnekphmaa.pen
open Go.RowKit Go.Proofs.Ytacigmnnekphmaa.texts
set_option linter.unusedVariables false

theorem Stand.tookTo {t : TypeId} {b : Nat} {r : List Nat} {w : World} {a : Option Addr} {c : Nat} (h : Stand t b r 0 w a c) (n : Nat) (hn : n ≤ r.length) :
    Took t b (r.take n) (r.drop n, 0) w (.returned (.slice (shift a 0 c) n c)) (w.setCell ⟨b, 0, none⟩ (.slice (shift a n c) (r.length - n) (c - n))) :=
  h.took n hn c (Nat.le_trans hn h.room) 0 w rfl
theorem refEnd_any (b : Nat) (s : Sight) (w : World) (h : EyeAt 74 b s w) : Calls Try.prog 49 #[.pointer (some ⟨b, 0, none⟩)] w (Quiet (.int .i64 (eEnd s : Int)) w) := by
  obtain ⟨r, z⟩ := s
  obtain ⟨a, c, st⟩ := h.stand
  have c1 := st.rest
  have c2 := st.err
  have hlen := st.len
  clear h st
  by_cases hz : z = 0
  · have hi : ((z : Int) == 0) = true := by rw [hz]; rfl
    by_cases hl : 0 < r.length
    · have hj : (0 : Int) < r.length := by omega
      rw [show eEnd (r, z) = 6 from if_pos ⟨hz, hl⟩]
      clear hz hl
      go_enter Try.func49, Try.ntmps49
      go_wp2
      go_ret
      exact ⟨rfl, 0, rfl⟩
    · have hj : ¬ (0 : Int) < r.length := by omega
      rw [show eEnd (r, z) = z from if_neg (fun h => hl h.2)]
      clear hz hl
      go_enter Try.func49, Try.ntmps49
      go_wp2
      go_ret
      exact ⟨rfl, 0, rfl⟩
  · have hi : ((z : Int) == 0) = false := by rw [beq_eq_false_iff_ne]; omega
    rw [show eEnd (r, z) = z from if_neg (fun h => hz h.1)]
    clear hz
    go_enter Try.func49, Try.ntmps49
    go_wp2
    go_ret
    exact ⟨rfl, 0, rfl⟩
end Go.Proofs.Ytacigmnnekphmaa.pen
