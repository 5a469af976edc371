/- Lemmas of the claim HTypingRight. Each says its own conditions. -/
import Derived.Test.YtiajpjkkopdmgaaClHTypingRightE
import Derived.Test.YtiajpjkkopdmgaaClHTypingRightD
import Derived.Conc.WalkWords
import Derived.Test.YtiajpjkkopdmgaaClHTypingRightB
import Derived.Deep.RegionHeld3
import Derived.Handy
import Derived.Test.YtiajpjkkopdmgaaClHTypingRightA
import Derived.Deep.Slices
import Derived.Deep.Strs
import Derived.Lib.SmallJoins
import Derived.Laws.Strings
/- Contract of layer 13 (schema): Right. No condition. -/
namespace Go.Proofs.Ytiajpjkkopdmgaa.schema
open Go.RowKit
open Go.Proofs.Ytiajpjkkopdmgaa.field (Gives newB gives_from)
set_option linter.unusedVariables false

/-- a schema that has just been boxed stays -/
theorem boxS (i : Int) (a : Option Addr) (L : List Fm) (cap : Nat) (w w' : World) (hb : Below (w.alloc (.cells #[.int .i64 i, .slice a L.length cap] 24)).heap.size (w.alloc (.cells #[.int .i64 i, .slice a L.length cap] 24)) w') : w'.cell? ⟨w.heap.size, 0, none⟩ = some (.int .i64 i) ∧ w'.cell? ⟨w.heap.size, 1, none⟩ = some (.slice a L.length cap) ∧ Below w.heap.size w w' := by
  have hB := (Block.new w 24 [.int .i64 i, .slice a L.length cap]).later hb
  exact ⟨hB.cell 0, hB.cell 1, below_out hb⟩
/-- a form's fields are there -/
structure Fm.Ok (w : World) (p : Fm) : Prop where
  rf : field.Fds w p.f p.fL
  cf : p.fL.length ≤ p.fCap
  df : p.fCap ≤ maxLen
theorem Fm.Ok.below {w w' : World} {p : Fm} (h : p.Ok w) (hb : Below w.heap.size w w') : p.Ok w' := ⟨h.rf.below hb, h.cf, h.df⟩
theorem Fm.Good.ok {w : World} {p : Fm} (h : p.Good w) : p.Ok w := ⟨h.rf, h.cf, h.df⟩
/-- a list of forms, each with its fields -/
def FmL (w : World) (a : Option Addr) (F : List Fm) : Prop := Fms w a F ∧ ∀ p ∈ F, p.Ok w
theorem FmL.below {w w' : World} {a : Option Addr} {F : List Fm} (h : FmL w a F) (hb : Below w.heap.size w w') : FmL w' a F := ⟨h.1.below hb, fun p hp => (h.2 p hp).below hb⟩
theorem form_at {w w' : World} {a : Option Addr} {F : List Fm} (h : FmL w a F) (hb : Below w.heap.size w w') {k : Nat} (hk : k < F.length) :
    ∃ b off p, a = some ⟨b, off, none⟩ ∧ b < w'.heap.size ∧ F[k]? = some p ∧ w'.cell? ⟨b, off + k * 2, none⟩ = some (.int .i64 p.id) ∧ w'.cell? ⟨b, off + k * 2 + 1, none⟩ = some (.slice p.f p.fL.length p.fCap) ∧ field.Fds w' p.f p.fL ∧ p.fL.length ≤ maxLen := by
  obtain ⟨b, off, p, h1, h2, h3, h4, h5⟩ := (h.below hb).1.at hk
  have hg := (h.below hb).2 p (List.mem_of_getElem? h3)
  exact ⟨b, off, p, h1, h2, h3, h4, h5, hg.rf, Nat.le_trans hg.cf hg.df⟩
/-- the ID before k -/
def lastOf (F : List Form) (k : Nat) : Int := if k = 0 then -1 else ((F[k - 1]?).map (·.1)).getD 0
theorem lastOf_succ {F : List Form} {k : Nat} {x : Form} (h : F[k]? = some x) : lastOf F (k + 1) = x.1 := by simp [lastOf, h]
theorem last_iff {F : List Form} {k : Nat} {x : Form} (hk : FineS (F.take k)) (hx : F[k]? = some x) (hf : Fine x) : (∀ p ∈ F.take k, p.1 < x.1) ↔ ¬ (x.1 ≤ lastOf F k) := by
  cases k with
  | zero => simp [lastOf]; have := hf.1.1; omega
  | succ k =>
    have hl : k + 1 < F.length := (List.getElem?_eq_some_iff.1 hx).1
    have hy : F[k]? = some F[k] := List.getElem?_eq_getElem (by omega)
    rw [rise hy hk, lastOf_succ hy]; omega
theorem right_iff (v : Int) (F : List Form) : Right v F ↔ (1 ≤ v ∧ v ≤ 65535) ∧ F.length ≤ 8 ∧ FineS F := Iff.rfl

theorem right_any (v : Int) (a : Option Addr) (cap : Nat) (F : List Fm) (w : World) (h : FmL w a F) (hF : F.length ≤ maxLen) :
    Calls Try.prog 18 #[.agg #[.int .i64 v, .slice a F.length cap]] w (Gives (.bool (decide (Right v (forms F)))) w) := by
  have HX := hid (boxS v a F cap w)
  have HF := hid (h.below (newB w (.cells #[.int .i64 v, .slice a F.length cap] 24)))
  have hml : (F.length : Int) ≤ 9223372036854775807 := by unfold maxLen at hF; omega
  obtain ⟨r, hr⟩ : ∃ r : Bool, Hid (decide (Right v (forms F)) = r) := ⟨_, rfl⟩
  rw [hr.out]
  unfold Gives
  have cA := fun t h => within_from v 1 65535 (w.alloc (.cells #[.int .i64 v, .slice a F.length cap] 24)) t h
  have HL := hid (forms_length F)
  clear h hF
  by_cases h1 : 1 ≤ v ∧ v ≤ 65535
  · replace cA := cA true (decide_eq_true h1)
    by_cases h2 : F.length ≤ 8
    · have hd : decide ((F.length : Int) > 8) = false := decide_eq_false (by omega)
      have HRI : Hid (Right v (forms F) ↔ FineS (forms F)) := hid ⟨fun h => h.2.2, fun h => ⟨h1, by rw [forms_length]; exact h2, h⟩⟩
      clear h1
      go_enter Try.func18, Try.ntmps18
      go_wp2_with (go_at_call 36; ((with_reducible refine (cA _ (by first | exact Below.refl _ _ | assumption)).mono ?_); rintro e w1 ⟨rfl, hb1⟩; obtain ⟨z0, z1, hbo⟩ := HX.out _ hb1))
      have HF1 := hid (HF.out.below hb1)
      have HO := hid hbo
      clear HF HX cA hb1 z0 z1 hbo hd
      go_loopw [3, 19] (fun l n wr => ∃ k : Nat, k ≤ F.length ∧ l = .int .i64 (lastOf (forms F) k) ∧ n = .int .i64 (k : Int) ∧ Hid (FineS ((forms F).take k)) ∧ Hid (Below w1.heap.size w1 wr)) (fun _ n _ => F.length - (intOf n).toNat)
      case atStart => exact ⟨0, Nat.zero_le _, rfl, rfl, hid FineS.nil, hid (Below.refl _ _)⟩
      case round =>
        obtain ⟨k, hk, rfl, rfl, HOK, HB⟩ := hrel
        by_cases hlt : k < F.length
        · obtain ⟨b, off, p, rfl, hbl, hp, c0, c1, hfd, hfl⟩ := form_at HF1.out HB.out hlt
          have i1 : (k : Int) < F.length := by omega
          have HP := hid (forms_at hp)
          have HSUC := hid (fineS_succ (forms_at hp))
          have HNO := hid (fineS_no (forms_at hp))
          have HLI := hid (fun hf => last_iff HOK.out (forms_at hp) hf)
          have HLS := hid (lastOf_succ (forms_at hp))
          obtain ⟨i, q, qc, L⟩ := p
          simp only [Fm.p] at HP HSUC HNO HLI HLS c0 c1 hfd hfl
          have cF := fine_any i q qc L (wr.alloc (.cells #[.int .i64 i, .slice q L.length qc] 52)) (hfd.below (newB _ _)) hfl
          have HX2 := hid (boxM i q L qc wr)
          clear hp hfd
          generalize hla : lastOf (forms F) k = la at *
          clear hla
          by_cases hf : Fine (i, L)
          · rw [decide_eq_true hf] at cF
            have HFI := hid hf
            clear hf
            by_cases hl : i ≤ la
            · obtain rfl : false = r := by rw [← hr.out]; exact (decide_eq_false (fun h => HNO.out (fun h2 => (HLI.out HFI.out).1 h2.2 hl) (HRI.out.1 h))).symm
              go_wp2_with (go_at_call 37; ((with_reducible refine cF.mono ?_); rintro e w2 ⟨rfl, hb2⟩; obtain ⟨z0, z1, hbo⟩ := HX2.out _ hb2))
              go_ret
              exact ⟨rfl, HO.out.trans ((HB.out.trans (hbo.mono HB.out.size)).mono HO.out.size)⟩
            · have hd2 : decide (i ≤ la) = false := decide_eq_false hl
              have HNL := hid hl
              clear hl
              go_wp2_with (go_at_call 37; ((with_reducible refine cF.mono ?_); rintro e w2 ⟨rfl, hb2⟩; obtain ⟨z0, z1, hbo⟩ := HX2.out _ hb2))
              exact ⟨⟨k + 1, by omega, by rw [HLS.out], by go_num, hid (HSUC.out.2 ⟨HOK.out, HFI.out, (HLI.out HFI.out).2 HNL.out⟩), hid (HB.out.trans (hbo.mono HB.out.size))⟩, by simp [intOf]; omega⟩
          · rw [decide_eq_false hf] at cF
            obtain rfl : false = r := by rw [← hr.out]; exact (decide_eq_false (fun h => HNO.out (fun h2 => hf h2.1) (HRI.out.1 h))).symm
            clear hf
            go_wp2_with (go_at_call 37; ((with_reducible refine cF.mono ?_); rintro e w2 ⟨rfl, hb2⟩; obtain ⟨z0, z1, hbo⟩ := HX2.out _ hb2))
            go_ret
            exact ⟨rfl, HO.out.trans ((HB.out.trans (hbo.mono HB.out.size)).mono HO.out.size)⟩
        · obtain rfl : k = F.length := by omega
          obtain rfl : true = r := by rw [← hr.out]; have := HOK.out; rw [List.take_of_length_le (by rw [HL.out]; exact Nat.le_refl _)] at this; exact (decide_eq_true (HRI.out.2 this)).symm
          go_wp2
          go_ret
          exact ⟨rfl, HO.out.trans (HB.out.mono HO.out.size)⟩
    · have hd : decide ((F.length : Int) > 8) = true := decide_eq_true (by omega)
      obtain rfl : false = r := by rw [← hr.out]; exact (decide_eq_false (fun h => h2 (by have := h.2.1; rw [forms_length] at this; exact this))).symm
      clear h2
      go_enter Try.func18, Try.ntmps18
      go_wp2_with (go_at_call 36; ((with_reducible refine (cA _ (by first | exact Below.refl _ _ | assumption)).mono ?_); rintro e w1 ⟨rfl, hb1⟩; obtain ⟨z0, z1, hbo⟩ := HX.out _ hb1))
      go_ret
      exact ⟨rfl, by assumption⟩
  · replace cA := cA false (decide_eq_false h1)
    obtain rfl : false = r := by rw [← hr.out]; exact (decide_eq_false (fun h => h1 h.1)).symm
    go_enter Try.func18, Try.ntmps18
    go_wp2_with (go_at_call 36; ((with_reducible refine (cA _ (by first | exact Below.refl _ _ | assumption)).mono ?_); rintro e w1 ⟨rfl, hb1⟩; obtain ⟨z0, z1, hbo⟩ := HX.out _ hb1))
    go_ret
    exact ⟨rfl, by assumption⟩
end Go.Proofs.Ytiajpjkkopdmgaa.schema
/- Rows of forms that a call has made. No condition. -/
namespace Go.Proofs.Ytiajpjkkopdmgaa.schema
open Go.RowKit Go.Proofs.Ytiajpjkkopdmgaa.pen
set_option linter.unusedVariables false

/-- the cells of forms -/
def fmC (p : Fm) : List Value := [.int .i64 p.id, .slice p.f p.fL.length p.fCap]
def fmV : List Fm → List Value
  | [] => []
  | p :: L => fmC p ++ fmV L
theorem fmV_append : ∀ a b, fmV (a ++ b) = fmV a ++ fmV b
  | [], _ => rfl
  | p :: a, b => by rw [List.cons_append, fmV, fmV, fmV_append a b, List.append_assoc]
theorem fmV_length : ∀ L, (fmV L).length = L.length * 2
  | [] => rfl
  | p :: L => by rw [fmV]; simp only [fmC, List.length_append, List.length_cons, List.length_nil, fmV_length L]; omega
theorem fmV_at : ∀ (L : List Fm) (i : Nat) (p : Fm) (c : Nat), L[i]? = some p → c < 2 → (fmV L)[i * 2 + c]? = (fmC p)[c]?
  | [], i, p, c, h, _ => by simp at h
  | q :: L, 0, p, c, h, hc => by
    simp at h; subst h
    rw [fmV, List.getElem?_append_left (by simp [fmC]; omega)]
    simp
  | q :: L, i + 1, p, c, h, hc => by
    rw [fmV, List.getElem?_append_right (by simp [fmC]; omega)]
    rw [← fmV_at L i p c (by simpa using h) hc]
    congr 1
    simp only [fmC, List.length_cons, List.length_nil]; omega
/-- a row of the call's own reads as forms -/
theorem own_fms {w : World} {base n : Nat} {a : Option Addr} {cap : Nat} {L : List Fm} {e : TypeId} (h : w.ownsRow base e 2 (.slice a n cap) n (fmV L)) : Fms w a L ∧ n = L.length ∧ n ≤ cap := by
  obtain ⟨hl, hr⟩ := h
  have hn : n = L.length := by have := fmV_length L; rw [hl] at this; omega
  rcases hr with ⟨hv, h0⟩ | ⟨b, cap', cur, hv, _, hg, hcp, _, _, htake⟩
  · cases hv
    exact ⟨.inl (List.eq_nil_of_length_eq_zero (by omega)), hn, by omega⟩
  · cases hv
    refine ⟨.inr ⟨b, 0, rfl, (Array.getElem?_eq_some_iff.1 hg).1, fun i p hp => ?_⟩, hn, hcp⟩
    have hi : i < L.length := (List.getElem?_eq_some_iff.1 hp).1
    have key : ∀ c x, c < 2 → (fmC p)[c]? = some x → w.cell? ⟨b, 0 + (i * 2 + c), none⟩ = some x := by
      intro c x hc hx
      have h1 := fmV_at L i p c hp hc
      rw [hx, ← htake, List.getElem?_take, if_pos (by omega)] at h1
      rw [cell_of_row w b _ cur _ _ hg, Nat.zero_add, ← h1, Array.getElem?_toList]
    exact ⟨key 0 _ (by omega) rfl, key 1 _ (by omega) rfl⟩
theorem fm_info_all : (Try.prog.info? 52).map (fun i => (i.zero, i.size, i.bytes)) = some (some (.agg #[.int .i64 0, .slice none 0 0]), 2, 32) := by kernel_rfl
theorem fm_info_parts : ∃ i, Try.prog.info? 52 = some i ∧ i.zero = some (.agg #[.int .i64 0, .slice none 0 0]) ∧ i.size = 2 ∧ i.bytes = 32 := by
  obtain ⟨i, hi, he⟩ := Option.map_eq_some_iff.1 fm_info_all
  simp only [Prod.mk.injEq] at he
  exact ⟨i, hi, he.1, he.2.1, he.2.2⟩
theorem exec_push_fm {o : Oper} {a : Act} {w : World} {x y : Operand} {u : Value} {B n g : Nat} {L : List Fm} {p : Fm}
    (ho : o.op = .call { callee := .builtin .append, args := #[x, y], argTypes := #[22, 22] }) (hx : a.eval x = u) (hy : a.eval y = .slice (some ⟨g, 0, none⟩) 1 1)
    (hown : w.ownsRow B 52 2 u n (fmV L)) (hb : Block w g 52 (fmC p)) (hn : n ≤ 1000) (hB : B ≤ w.heap.size) :
    ∃ q w', (execOp a.eval o).run Try.prog w = .ok (.value q) w' ∧ w'.ownsRow B 52 2 q (n + 1) (fmV (L ++ [p])) ∧ w.grownBy w' u.ownBlock := by
  obtain ⟨i0, hi, hz0, hz1, hz2⟩ := fm_info_parts
  obtain ⟨q, w', h1, h2, h3⟩ := exec_push (sz := 2) (bytes := 32) Try.underlying22 hi hz0 hz1 hz2 (by simp [Value.cells]) (by omega) ho hx hy hown (news := fmC p) rfl (fun j v hj => (hb.cell j).trans hj) (by intro v hv; simp [fmC] at hv; rcases hv with rfl | rfl <;> rfl) (by omega) (by omega) hB
  exact ⟨q, w', h1, by rw [fmV_append]; simpa [fmV] using h2, h3⟩
/-- a form's fields lie in a row of the call's own -/
def OwnM (B : Nat) (w : World) (p : Fm) : Prop := w.ownsRow B 26 5 (.slice p.f p.fL.length p.fCap) p.fL.length (fdV p.fL)
theorem OwnM.ok {B : Nat} {w : World} {p : Fm} (h : OwnM B w p) : p.Ok w := ⟨(own_fds h).1, (own_cap h).1, (own_cap h).2⟩
theorem fd_fm : (52 : TypeId) ≠ 26 := by decide
end Go.Proofs.Ytiajpjkkopdmgaa.schema
/- Contracts of layer 13 (schema): At, and slices.IndexFunc with its function. No condition. -/
namespace Go.Proofs.Ytiajpjkkopdmgaa.schema
open Go.RowKit
open Go.Proofs.Ytiajpjkkopdmgaa.field (Gives newB gives_from)
set_option linter.unusedVariables false
theorem hmf (fn : Fn) (first cap : Array Value) (w : World) : (Instr.makeFunc fn first cap).run Try.prog w = .ok (.func fn first cap) w := rfl

theorem isField_any (p : field.Fd) (x : Int) (b : Nat) (w : World) (hc : w.cell? ⟨b, 0, none⟩ = some (.int .i64 x)) (hb : b < w.heap.size) :
    Calls Try.prog 76 #[.agg #[.int .i64 p.id, .int .i64 p.kind, .int .i64 p.lo, .int .i64 p.hi, .int .i64 p.most], .pointer (some ⟨b, 0, none⟩)] w (Gives (.bool (p.id == x)) w) := by
  have HN := hid (newB w (.cells #[.int .i64 p.id, .int .i64 p.kind, .int .i64 p.lo, .int .i64 p.hi, .int .i64 p.most] 26))
  obtain ⟨i, k, lo, hi, m⟩ := p
  simp only at HN ⊢
  obtain ⟨r, hr⟩ : ∃ r : Bool, Hid ((i == x) = r) := ⟨_, rfl⟩
  rw [hr.out]
  unfold Gives
  have hne : w.heap.size ≠ b := by omega
  go_enter Try.func76, Try.ntmps76
  go_wp2
  go_ret
  exact ⟨ret_bool hr.out, HN.out⟩
theorem indexField_any (a : Option Addr) (cap : Nat) (L : List field.Fd) (x : Int) (g : Nat) (w : World) (h : field.Fds w a L) (hL : L.length ≤ maxLen) (hc : w.cell? ⟨g, 0, none⟩ = some (.int .i64 x)) (hg : g < w.heap.size) :
    Calls Try.prog 75 #[.slice a L.length cap, .func (.func 76) #[] #[.pointer (some ⟨g, 0, none⟩)]] w (Gives (.int .i64 (firstAt (ids L) x)) w) := by
  have hml : (L.length : Int) ≤ 9223372036854775807 := by unfold maxLen at hL; omega
  have HF := hid h
  have HC := hid hc
  obtain ⟨r, hr⟩ : ∃ r : Int, Hid (firstAt (ids L) x = r) := ⟨_, rfl⟩
  rw [hr.out]
  unfold Gives
  clear h hL hc
  go_enter Try.func75, Try.ntmps75
  go_wp2
  go_loopw [8] (fun n wr => ∃ k : Nat, k ≤ L.length ∧ n = .int .i64 (k : Int) ∧ Hid (x ∉ (ids L).take k) ∧ Hid (Below w.heap.size w wr)) (fun n _ => L.length - (intOf n).toNat)
  case atStart => exact ⟨0, Nat.zero_le _, rfl, hid (by simp), hid (Below.refl _ _)⟩
  case round =>
    obtain ⟨k, hk, rfl, HNO, HB⟩ := hrel
    by_cases hlt : k < L.length
    · obtain ⟨b, off, p, rfl, hbl, hp, c0, c1, c2, c3, c4⟩ := field_at HF.out HB.out hlt
      have i1 : (k : Int) < L.length := by omega
      have HHIT := hid (fun e => first_hit HNO.out ((ids_at hp).trans (congrArg some e)))
      have HNX := hid (fun e => not_take_succ HNO.out (ids_at hp) e)
      have cs := isField_any p x g wr (by rw [HB.out.cell (p := ⟨g, 0, none⟩) hg]; exact HC.out) (Nat.lt_of_lt_of_le hg HB.out.size)
      clear hp
      by_cases hx : p.id = x
      · rw [show (p.id == x) = true from beq_iff_eq.2 hx] at cs
        obtain rfl : (k : Int) = r := by rw [← hr.out]; exact (HHIT.out hx).symm
        clear hx
        go_wp2_with (go_at_call 76; ((with_reducible refine cs.mono ?_); rintro e w2 ⟨rfl, hb2⟩))
        go_ret
        exact ⟨rfl, HB.out.trans (hb2.mono HB.out.size)⟩
      · rw [show (p.id == x) = false from beq_eq_false_iff_ne.2 hx] at cs
        have HX := hid hx
        clear hx
        go_wp2_with (go_at_call 76; ((with_reducible refine cs.mono ?_); rintro e w2 ⟨rfl, hb2⟩))
        exact ⟨⟨k + 1, by omega, by go_num, hid (HNX.out HX.out), hid (HB.out.trans (hb2.mono HB.out.size))⟩, by simp [intOf]; omega⟩
    · obtain rfl : k = L.length := by omega
      obtain rfl : -1 = r := by rw [← hr.out]; have := HNO.out; rw [List.take_of_length_le (by rw [ids_length]; exact Nat.le_refl _)] at this; exact (first_none this).symm
      go_wp2
      go_ret
      exact ⟨rfl, HB.out⟩
theorem at_any (i : Int) (a : Option Addr) (cap : Nat) (L : List field.Fd) (x : Int) (w : World) (h : field.Fds w a L) (hL : L.length ≤ maxLen) :
    Calls Try.prog 41 #[.agg #[.int .i64 i, .slice a L.length cap], .int .i64 x] w (Gives (.int .i64 (firstAt (ids L) x)) w) := by
  have h1 := newB w (.cells #[.int .i64 i, .slice a L.length cap] 52)
  have h2 := newB (w.alloc (.cells #[.int .i64 i, .slice a L.length cap] 52)) (.cells #[.int .i64 x] 3)
  have cI := indexField_any a cap L x (w.heap.size + 1) ((w.alloc (.cells #[.int .i64 i, .slice a L.length cap] 52)).alloc (.cells #[.int .i64 x] 3)) ((h.below h1).below h2) hL (by simp) (by simp)
  have HB := hid (h1.trans (h2.mono h1.size))
  clear h h1 h2
  generalize firstAt (ids L) x = r at *
  unfold Gives
  go_enter Try.func41, Try.ntmps41
  go_wp2_with (go_at_call 75; ((with_reducible refine cI.mono ?_); rintro e w2 ⟨rfl, hb2⟩))
  go_ret
  exact ⟨rfl, HB.out.trans (hb2.mono HB.out.size)⟩
end Go.Proofs.Ytiajpjkkopdmgaa.schema
/- Contracts of layer 13 (schema): Form, with slices.IndexFunc, its function and slices.Clone. No condition. -/
namespace Go.Proofs.Ytiajpjkkopdmgaa.schema
open Go.RowKit
open Go.Proofs.Ytiajpjkkopdmgaa.field (Gives newB gives_from)
set_option linter.unusedVariables false

def fids (F : List Fm) : List Int := F.map Fm.id
theorem fids_at {F : List Fm} {k : Nat} {p : Fm} (h : F[k]? = some p) : (fids F)[k]? = some p.id := by simp [fids, h]
theorem fids_length (F : List Fm) : (fids F).length = F.length := List.length_map _
theorem fids_forms (F : List Fm) : fids F = (forms F).map (·.1) := by simp [fids, forms, Fm.p, Function.comp_def]
theorem isForm_any (i : Int) (q : Option Addr) (L : List field.Fd) (qc : Nat) (x : Int) (b : Nat) (w : World) (hc : w.cell? ⟨b, 0, none⟩ = some (.int .i64 x)) (hb : b < w.heap.size) :
    Calls Try.prog 74 #[.agg #[.int .i64 i, .slice q L.length qc], .pointer (some ⟨b, 0, none⟩)] w (Gives (.bool (i == x)) w) := by
  have HN := hid (newB w (.cells #[.int .i64 i, .slice q L.length qc] 52))
  obtain ⟨r, hr⟩ : ∃ r : Bool, Hid ((i == x) = r) := ⟨_, rfl⟩
  rw [hr.out]
  unfold Gives
  have hne : w.heap.size ≠ b := by omega
  go_enter Try.func74, Try.ntmps74
  go_wp2
  go_ret
  exact ⟨ret_bool hr.out, HN.out⟩
theorem indexForm_any (a : Option Addr) (cap : Nat) (L : List Fm) (x : Int) (g : Nat) (w : World) (h : FmL w a L) (hL : L.length ≤ maxLen) (hc : w.cell? ⟨g, 0, none⟩ = some (.int .i64 x)) (hg : g < w.heap.size) :
    Calls Try.prog 73 #[.slice a L.length cap, .func (.func 74) #[] #[.pointer (some ⟨g, 0, none⟩)]] w (Gives (.int .i64 (firstAt (fids L) x)) w) := by
  have hml : (L.length : Int) ≤ 9223372036854775807 := by unfold maxLen at hL; omega
  have HF := hid h
  have HC := hid hc
  obtain ⟨r, hr⟩ : ∃ r : Int, Hid (firstAt (fids L) x = r) := ⟨_, rfl⟩
  rw [hr.out]
  unfold Gives
  clear h hL hc
  go_enter Try.func73, Try.ntmps73
  go_wp2
  go_loopw [8] (fun n wr => ∃ k : Nat, k ≤ L.length ∧ n = .int .i64 (k : Int) ∧ Hid (x ∉ (fids L).take k) ∧ Hid (Below w.heap.size w wr)) (fun n _ => L.length - (intOf n).toNat)
  case atStart => exact ⟨0, Nat.zero_le _, rfl, hid (by simp), hid (Below.refl _ _)⟩
  case round =>
    obtain ⟨k, hk, rfl, HNO, HB⟩ := hrel
    by_cases hlt : k < L.length
    · obtain ⟨b, off, p, rfl, hbl, hp, c0, c1, _, _⟩ := form_at HF.out HB.out hlt
      have i1 : (k : Int) < L.length := by omega
      have HHIT := hid (fun e => first_hit HNO.out ((fids_at hp).trans (congrArg some e)))
      have HNX := hid (fun e => not_take_succ HNO.out (fids_at hp) e)
      have cs := isForm_any p.id p.f p.fL p.fCap x g wr (by rw [HB.out.cell (p := ⟨g, 0, none⟩) hg]; exact HC.out) (Nat.lt_of_lt_of_le hg HB.out.size)
      clear hp
      by_cases hx : p.id = x
      · rw [show (p.id == x) = true from beq_iff_eq.2 hx] at cs
        obtain rfl : (k : Int) = r := by rw [← hr.out]; exact (HHIT.out hx).symm
        clear hx
        go_wp2_with (go_at_call 74; ((with_reducible refine cs.mono ?_); rintro e w2 ⟨rfl, hb2⟩))
        go_ret
        exact ⟨rfl, HB.out.trans (hb2.mono HB.out.size)⟩
      · rw [show (p.id == x) = false from beq_eq_false_iff_ne.2 hx] at cs
        have HX := hid hx
        clear hx
        go_wp2_with (go_at_call 74; ((with_reducible refine cs.mono ?_); rintro e w2 ⟨rfl, hb2⟩))
        exact ⟨⟨k + 1, by omega, by go_num, hid (HNX.out HX.out), hid (HB.out.trans (hb2.mono HB.out.size))⟩, by simp [intOf]; omega⟩
    · obtain rfl : k = L.length := by omega
      obtain rfl : -1 = r := by rw [← hr.out]; have := HNO.out; rw [List.take_of_length_le (by rw [fids_length]; exact Nat.le_refl _)] at this; exact (first_none this).symm
      go_wp2
      go_ret
      exact ⟨rfl, HB.out⟩
/-- the call returns a row of its own that reads as the fields L -/
def CopiesF (L : List field.Fd) (w : World) (e : Ending) (w' : World) : Prop := ∃ x c, e = .returned (.slice x L.length c) ∧ field.Fds w' x L ∧ Below w.heap.size w w'
theorem fds_nil (W : World) (a : Option Addr) (n c : Nat) : (binOp .eql 30 (.slice a n c) (.slice none 0 0)).run Try.prog W = .ok (.bool a.isNone) W := by
  have h := run_equal_slice_nil (P := Try.prog) W 30 26 a n c Try.underlying30
  simp [binOp, h, Result.andThen]
theorem clone_any (a : Option Addr) (cap : Nat) (L : List field.Fd) (w : World) (h : field.Fds w a L) (hL : L.length ≤ 1000000) :
    Calls Try.prog 50 #[.slice a L.length cap] w (CopiesF L w) := by
  obtain ⟨i0, hi, hz0, hz1, hz2⟩ := fd_info_parts
  cases a with
  | none =>
    have en := fds_nil w none L.length cap
    simp only [Option.isNone_none] at en
    have hl : L = [] := by
      rcases h with h | ⟨b, off, h, _⟩
      · exact h
      · cases h
    have HR : Hid (CopiesF L w (.returned (.slice none 0 0)) w) := hid ⟨none, 0, by rw [hl]; rfl, .inl hl, Below.refl _ _⟩
    clear h hl hL
    generalize CopiesF L w = R at *
    generalize L.length = n at *
    go_enter Try.func50, Try.ntmps50
    go_wp2
    exact HR.out
  | some ad =>
    have en := fds_nil w (some ad) L.length cap
    simp only [Option.isNone_some] at en
    have hb : Below w.heap.size w (w.alloc (.cells #[] 26)) := (Below.refl _ _).alloc (Nat.le_refl _) _
    have HB := hid hb
    have HN := hid (fds_news (h.below hb))
    have HU := hid (fdV_length L)
    have HN2 : Hid (0 + L.length ≤ maxLen) := by show _ ≤ _; unfold maxLen; omega
    have HN3 : Hid ((0 + L.length) * 40 ≤ 140737488355328) := by show _ ≤ _; omega
    have HO := hid (World.ownsRow_made (base := w.heap.size) (e := 26) (size := 5) w #[] 0 (Nat.le_refl _) (Nat.zero_le _) rfl)
    have H1 := hid (fdV_one L)
    clear h hb hL
    generalize hX : fdV L = X at *
    have HX := hid hX
    clear hX
    generalize hn : L.length = n at *
    have HNN := hid hn
    clear hn
    go_enter Try.func50, Try.ntmps50
    go_wp2_with (at_builtin; refine wpList_append_fromN rfl _ _ 30 rfl w.heap.size 26 i0 _ 5 40 Try.underlying30 hi hz0 hz1 hz2 (by simp [Value.cells]) (by omega) (.slice (some ⟨w.heap.size, 0, none⟩) 0 0) 0 [] rfl HO.out (some ad) n cap X rfl HU.out HN.out H1.out HN2.out HN3.out HB.out.size ?_)
    intro v' w1 ho hg
    have hbl : Below w.heap.size w w1 := HB.out.grown hg HB.out.size (fun k hk => by cases hk; exact Nat.le_refl _)
    have ho' : w1.ownsRow w.heap.size 26 5 v' n (fdV L) := by rw [HX.out]; simpa using ho
    obtain ⟨x, c, rfl, _⟩ := ownsRow_slice ho'
    have HF := hid (own_fds ho').1
    have HB2 := hid hbl
    clear ho ho' hbl hg
    go_wp2
    go_ret
    exact ⟨x, c, by rw [HNN.out]; rfl, HF.out, HB2.out⟩
/-- a store into a struct of two cells leaves fields alone -/
theorem fds_store {w : World} {g : Nat} {t : TypeId} {x y : Value} {a : Option Addr} {L : List field.Fd} (h : field.Fds w a L) (hB : Block w g t [x, y]) (o : Nat) (u : Value) : field.Fds (w.setCell ⟨g, o, none⟩ u) a L := by
  by_cases h0 : L = []
  · exact .inl h0
  · rcases h with h | ⟨b, off, ha, hlt, hc⟩
    · exact absurd h h0
    · have hne : b ≠ g := by
        rintro rfl
        obtain ⟨p, hp⟩ : ∃ p, L[0]? = some p := by
          cases L with
          | nil => exact absurd rfl h0
          | cons p L => exact ⟨p, rfl⟩
        have h4 := (hc 0 p hp).2.2.2.2
        rw [hB.cell] at h4
        have := (List.getElem?_eq_some_iff.1 h4).1
        simp at this
        omega
      refine .inr ⟨b, off, ha, Nat.lt_of_lt_of_le hlt (by simp), fun i p hp => ?_⟩
      have hs : ∀ j, (w.setCell ⟨g, o, none⟩ u).cell? ⟨b, j, none⟩ = w.cell? ⟨b, j, none⟩ := fun j => World.cell?_setCell_other _ _ _ _ (by intro h; cases h; exact hne rfl)
      rw [hs, hs, hs, hs, hs]
      exact hc i p hp
/-- two results of which the first lives in a variable -/
theorem results_cell2 {fn : Func} {p u : Tmp} {ty : TypeId} {tmps : Array Value} {P : Program} {w : World} {b o : Nat} {cs : List Value} {d : TypeDesc} (h : fn.results = #[.cell p ty, .tmp u])
    (hp : tmps.getD p undef = .pointer (some ⟨b, o, none⟩)) (hc : w.rangeAt b o cs) (hu : P.underlying ty = some d) (hd : d.isRow = true) (hi : (P.info? ty).map (·.size) = some cs.length) :
    (results fn tmps).run P w = .ok (.tuple #[.agg cs.toArray, tmps.getD u undef]) w := by
  simp only [results, h]
  simp at hp
  simp [hp, asAddr, run_loadVar_mid w b o ty cs d hc hu hd hi]
/-- the world in which a schema and a number have been boxed and the result's variable made -/
def W3 (v : Int) (a : Option Addr) (F : List Fm) (c : Nat) (x : Int) (w : World) : World := ((w.alloc (.cells #[.int .i64 v, .slice a F.length c] 24)).alloc (.cells #[.int .i64 x] 3)).alloc (.cells #[.int .i64 0, .slice none 0 0] 52)
theorem W3.all (v : Int) (a : Option Addr) (F : List Fm) (c : Nat) (x : Int) (w w' : World) (hb : Below (W3 v a F c x w).heap.size (W3 v a F c x w) w') : w'.cell? ⟨w.heap.size, 0, none⟩ = some (.int .i64 v) ∧ w'.cell? ⟨w.heap.size, 1, none⟩ = some (.slice a F.length c) ∧ w'.cell? ⟨w.heap.size + 1, 0, none⟩ = some (.int .i64 x) ∧ Block w' (w.heap.size + 2) 52 [.int .i64 0, .slice none 0 0] ∧ Below w.heap.size w w' := by
  have h1 : Below ((w.alloc (.cells #[.int .i64 v, .slice a F.length c] 24)).alloc (.cells #[.int .i64 x] 3)).heap.size ((w.alloc (.cells #[.int .i64 v, .slice a F.length c] 24)).alloc (.cells #[.int .i64 x] 3)) w' := below_out hb
  obtain ⟨c0, c1, h2⟩ := boxS v a F c w w' (below_out h1)
  refine ⟨c0, c1, ?_, ?_, h2⟩
  · have hB := ((Block.new (w.alloc (.cells #[.int .i64 v, .slice a F.length c] 24)) 3 [.int .i64 x])).later h1
    have := hB.cell 0
    simpa using this
  · have hB := (Block.new ((w.alloc (.cells #[.int .i64 v, .slice a F.length c] 24)).alloc (.cells #[.int .i64 x] 3)) 52 [.int .i64 0, .slice none 0 0]).later hb
    simpa using hB
theorem W3.forms (v : Int) (a : Option Addr) (F : List Fm) (c : Nat) (x : Int) (w : World) : Below w.heap.size w (W3 v a F c x w) := (W3.all v a F c x w _ (Below.refl _ _)).2.2.2.2
theorem form_no (v : Int) (a : Option Addr) (c : Nat) (F : List Fm) (x : Int) (w : World) (h : FmL w a F) (hF : F.length ≤ maxLen) (hx : x ∉ fids F) :
    Calls Try.prog 40 #[.agg #[.int .i64 v, .slice a F.length c], .int .i64 x] w (Gives (.tuple #[.agg #[.int .i64 0, .slice none 0 0], .bool false]) w) := by
  have HX := hid (W3.all v a F c x w)
  have h0 := W3.all v a F c x w _ (Below.refl _ _)
  have hsz : (W3 v a F c x w).heap.size = w.heap.size + 3 := by simp [W3]
  have cI := indexForm_any a c F x (w.heap.size + 1) (W3 v a F c x w) (h.below (W3.forms v a F c x w)) hF h0.2.2.1 (by omega)
  rw [first_none hx] at cI
  clear h hx h0 hsz
  unfold W3 at HX cI
  unfold Gives
  go_enter Try.func40, Try.ntmps40
  go_wp2_with (go_at_call 73; ((with_reducible refine cI.mono ?_); rintro e w2 ⟨rfl, hb2⟩; obtain ⟨z0, z1, z2, hblk, hbo⟩ := HX.out _ hb2; have r0 := hblk.cell 0; have r1 := hblk.cell 1; have f0 := hblk.frozen 0; have f1 := hblk.frozen 1))
  have hB := (hblk.setCell 0 (.int .i64 0)).setCell 1 (.slice none 0 0)
  refine bodyPost_ret (results_cell2 (b := w.heap.size + 2) (o := 0) rfl rfl hB.whole Try.underlying52 rfl (fm_info2 _ _)) rfl ?_
  exact ⟨rfl, below_setCells (below_setCells hbo (by omega) 0 [.int .i64 0]) (by omega) 1 [.slice none 0 0]⟩
theorem form_yes (v : Int) (a : Option Addr) (c : Nat) (F : List Fm) (x : Int) (k : Nat) (p : Fm) (w : World) (h : FmL w a F) (hF : F.length ≤ maxLen) (hp : F[k]? = some p) (hx : p.id = x) (hn : x ∉ (fids F).take k) (hL : p.fL.length ≤ 1000000) :
    Calls Try.prog 40 #[.agg #[.int .i64 v, .slice a F.length c], .int .i64 x] w fun e w' => ∃ y cap, e = .returned (.tuple #[.agg #[.int .i64 x, .slice y p.fL.length cap], .bool true]) ∧ field.Fds w' y p.fL ∧ Below w.heap.size w w' := by
  have HX := hid (W3.all v a F c x w)
  have h0 := W3.all v a F c x w _ (Below.refl _ _)
  have hsz : (W3 v a F c x w).heap.size = w.heap.size + 3 := by simp [W3]
  have h3 := h.below (W3.forms v a F c x w)
  have cI := indexForm_any a c F x (w.heap.size + 1) (W3 v a F c x w) h3 hF h0.2.2.1 (by omega)
  rw [first_hit hn (by rw [← hx]; exact fids_at hp)] at cI
  have hk : k < F.length := (List.getElem?_eq_some_iff.1 hp).1
  obtain ⟨b, off, rfl, hbl0⟩ : ∃ b off, a = some ⟨b, off, none⟩ ∧ b < w.heap.size := by obtain ⟨b, off, q0, h1, h2, _⟩ := form_at h (Below.refl _ _) hk; exact ⟨b, off, h1, h2⟩
  obtain ⟨b', off', q, hab, hbl, hq, c0, c1, hfd, hfl⟩ := form_at h3 (Below.refl _ _) hk
  obtain ⟨rfl, rfl⟩ : b = b' ∧ off = off' := by cases hab; exact ⟨rfl, rfl⟩
  clear hab
  have hn1 : b ≠ w.heap.size + 1 + 1 := by omega
  have hn2 : w.heap.size + 1 + 1 ≠ b := by omega
  have hn3 : w.heap.size ≠ w.heap.size + 1 + 1 := by omega
  have hn4 : w.heap.size + 1 + 1 ≠ w.heap.size := by omega
  obtain rfl : p = q := by rw [hp] at hq; exact Option.some.inj hq
  have HFD := hid hfd
  have cC := fun w' (hb : Below (W3 v (some ⟨b, off, none⟩) F c x w).heap.size (W3 v (some ⟨b, off, none⟩) F c x w) w') => clone_any p.f p.fCap p.fL w' (hfd.below hb) hL
  have HC1 := hid (fun w' (hb : Below (W3 v (some ⟨b, off, none⟩) F c x w).heap.size (W3 v (some ⟨b, off, none⟩) F c x w) w') => (hb.cell (p := ⟨b, off + k * 2 + 1, none⟩) hbl).trans c1)
  have i1 : (k : Int) < F.length := by omega
  clear h hx hn h0 hsz hp h3 hq c0 c1 hfd hfl hbl hL hF hbl0
  obtain ⟨i, f, fc, L⟩ := p
  simp only at cC HC1 HFD ⊢
  unfold W3 at HX cI cC HC1
  go_enter Try.func40, Try.ntmps40
  go_wp2_with (go_at_call 73; ((with_reducible refine cI.mono ?_); rintro e w2 ⟨rfl, hb2⟩; obtain ⟨z0, z1, z2, hblk, hbo⟩ := HX.out _ hb2; have r0 := hblk.cell 0; have r1 := hblk.cell 1; have f0 := hblk.frozen 0; have f1 := hblk.frozen 1))
  have hb2d := below_drew hb2
  have y0 := HC1.out _ hb2d
  obtain ⟨z0, z1, z2, hblk, hbo⟩ := HX.out w2.drew hb2d
  go_region_held3 (fun w' => w'.cell? ⟨w.heap.size, 1, none⟩ = some (.slice (some ⟨b, off, none⟩) F.length c) ∧ w'.cell? ⟨w.heap.size + 1, 0, none⟩ = some (.int .i64 x) ∧ w'.cell? ⟨b, off + k * 2 + 1, none⟩ = some (.slice f L.length fc)) (first | assumption | go_keep | (rw [World.cell?_setCell_other _ _ _ _ (by simp), World.cell?_setCell_other _ _ _ _ (by simp)]; assumption)) (first
    | (go_at_call 50; (with_reducible refine (cC _ hb2d).mono ?_); rintro e w3 ⟨y, yc, rfl, hf3, hb3⟩; have hb23 := hb2d.trans (hb3.mono hb2d.size); have y0 := HC1.out _ hb23; obtain ⟨z0, z1, z2, hblk3, hbo3⟩ := HX.out w3 hb23; have r0 := hblk3.cell 0; have r1 := hblk3.cell 1; have f0 := hblk3.frozen 0; have f1 := hblk3.frozen 1))
  go_wp2
  have hB := (hblk3.setCell 0 (.int .i64 x)).setCell 1 (.slice y L.length yc)
  have hF3 := fds_store (fds_store hf3 hblk3 0 (.int .i64 x)) (hblk3.setCell 0 (.int .i64 x)) 1 (.slice y L.length yc)
  refine bodyPost_ret (results_cell2 (b := w.heap.size + 2) (o := 0) rfl rfl hB.whole Try.underlying52 rfl (fm_info2 _ _)) rfl ?_
  exact ⟨y, yc, rfl, hF3, below_setCells (below_setCells hbo3 (by omega) 0 [.int .i64 x]) (by omega) 1 [.slice y L.length yc]⟩
end Go.Proofs.Ytiajpjkkopdmgaa.schema
/- slices.Clone of fields and of forms: the result is a row of the call's own. No condition but rows of at most 1000000 elements. -/
namespace Go.Proofs.Ytiajpjkkopdmgaa.schema
open Go.RowKit
set_option linter.unusedVariables false

theorem fmV_one : ∀ L, ∀ u ∈ fmV L, u.oneCell' = true
  | [], u, h => by simp [fmV] at h
  | p :: L, u, h => by
    rw [fmV, List.mem_append] at h
    rcases h with h | h
    · simp [fmC] at h; rcases h with rfl | rfl <;> rfl
    · exact fmV_one L u h
theorem fmV_get : ∀ (L : List Fm) (j : Nat) (u : Value), (fmV L)[j]? = some u → ∃ i p c, L[i]? = some p ∧ j = i * 2 + c ∧ c < 2 ∧ (fmC p)[c]? = some u
  | [], j, u, h => by simp [fmV] at h
  | p :: L, j, u, h => by
    rw [fmV] at h
    by_cases hj : j < 2
    · rw [List.getElem?_append_left (by simp [fmC]; omega)] at h
      exact ⟨0, p, j, rfl, by omega, hj, h⟩
    · rw [List.getElem?_append_right (by simp [fmC]; omega)] at h
      obtain ⟨i, q, c, h1, h2, h3, h4⟩ := fmV_get L _ u h
      simp only [fmC, List.length_cons, List.length_nil] at h2
      exact ⟨i + 1, q, c, by simpa using h1, by omega, h3, h4⟩
theorem fms_news {w : World} {a : Option Addr} {L : List Fm} (h : Fms w a L) : L.length = 0 ∨ ∃ ad, a = some ad ∧ ∀ j u, (fmV L)[j]? = some u → w.cell? (ad.add j) = some u := by
  rcases h with h | ⟨b, off, ha, hlt, hc⟩
  · exact .inl (by rw [h]; rfl)
  · refine .inr ⟨_, ha, fun j u hj => ?_⟩
    obtain ⟨i, p, c, h1, rfl, h3, h4⟩ := fmV_get L j u hj
    obtain ⟨c0, c1⟩ := hc i p h1
    rw [Addr.add_lit]
    match c, h3, h4 with
    | 0, _, h4 => rw [show (some u) = some (.int .i64 p.id) from h4.symm.trans rfl]; exact c0
    | 1, _, h4 => rw [show (some u) = some (.slice p.f p.fL.length p.fCap) from h4.symm.trans rfl, ← Nat.add_assoc]; exact c1
theorem fms_nil (W : World) (a : Option Addr) (n c : Nat) : (binOp .eql 22 (.slice a n c) (.slice none 0 0)).run Try.prog W = .ok (.bool a.isNone) W := by
  have h := run_equal_slice_nil (P := Try.prog) W 22 52 a n c Try.underlying22
  simp [binOp, h, Result.andThen]
/-- the call returns a row of its own that holds L -/
def OwnsF (L : List field.Fd) (w : World) (e : Ending) (w' : World) : Prop := ∃ v, e = .returned v ∧ w'.ownsRow w.heap.size 26 5 v L.length (fdV L) ∧ Below w.heap.size w w'
theorem cloneF_any (a : Option Addr) (cap : Nat) (L : List field.Fd) (w : World) (h : field.Fds w a L) (hL : L.length ≤ 1000000) :
    Calls Try.prog 50 #[.slice a L.length cap] w (OwnsF L w) := by
  obtain ⟨i0, hi, hz0, hz1, hz2⟩ := fd_info_parts
  cases a with
  | none =>
    have en := fds_nil w none L.length cap
    simp only [Option.isNone_none] at en
    have hl : L = [] := by
      rcases h with h | ⟨b, off, h, _⟩
      · exact h
      · cases h
    have HR : Hid (OwnsF L w (.returned (.slice none 0 0)) w) := hid ⟨_, rfl, by rw [hl]; exact World.ownsRow_nil _ _ _ _, Below.refl _ _⟩
    clear h hl hL
    generalize OwnsF L w = R at *
    generalize L.length = n at *
    go_enter Try.func50, Try.ntmps50
    go_wp2
    exact HR.out
  | some ad =>
    have en := fds_nil w (some ad) L.length cap
    simp only [Option.isNone_some] at en
    have hb : Below w.heap.size w (w.alloc (.cells #[] 26)) := (Below.refl _ _).alloc (Nat.le_refl _) _
    have HB := hid hb
    have HN := hid (fds_news (h.below hb))
    have HU := hid (fdV_length L)
    have HN2 : Hid (0 + L.length ≤ maxLen) := by show _ ≤ _; unfold maxLen; omega
    have HN3 : Hid ((0 + L.length) * 40 ≤ 140737488355328) := by show _ ≤ _; omega
    have HO := hid (World.ownsRow_made (base := w.heap.size) (e := 26) (size := 5) w #[] 0 (Nat.le_refl _) (Nat.zero_le _) rfl)
    have H1 := hid (fdV_one L)
    clear h hb hL
    unfold OwnsF
    generalize hX : fdV L = X at *
    clear hX
    generalize hn : L.length = n at *
    clear hn
    go_enter Try.func50, Try.ntmps50
    go_wp2_with (at_builtin; refine wpList_append_fromN rfl _ _ 30 rfl w.heap.size 26 i0 _ 5 40 Try.underlying30 hi hz0 hz1 hz2 (by simp [Value.cells]) (by omega) (.slice (some ⟨w.heap.size, 0, none⟩) 0 0) 0 [] rfl HO.out (some ad) n cap X rfl HU.out HN.out H1.out HN2.out HN3.out HB.out.size ?_)
    intro v' w1 ho hg
    have hbl : Below w.heap.size w w1 := HB.out.grown hg HB.out.size (fun k hk => by cases hk; exact Nat.le_refl _)
    have ho' : w1.ownsRow w.heap.size 26 5 v' n X := by simpa using ho
    have HO2 := hid ho'
    have HB2 := hid hbl
    clear ho ho' hbl hg
    go_wp2
    go_ret
    exact ⟨_, rfl, HO2.out, HB2.out⟩
/-- the call returns a row of its own that holds L -/
def OwnsM (L : List Fm) (w : World) (e : Ending) (w' : World) : Prop := ∃ v, e = .returned v ∧ w'.ownsRow w.heap.size 52 2 v L.length (fmV L) ∧ Below w.heap.size w w'
theorem cloneM_any (a : Option Addr) (cap : Nat) (L : List Fm) (w : World) (h : Fms w a L) (hL : L.length ≤ 1000000) :
    Calls Try.prog 62 #[.slice a L.length cap] w (OwnsM L w) := by
  obtain ⟨i0, hi, hz0, hz1, hz2⟩ := fm_info_parts
  cases a with
  | none =>
    have en := fms_nil w none L.length cap
    simp only [Option.isNone_none] at en
    have hl : L = [] := by
      rcases h with h | ⟨b, off, h, _⟩
      · exact h
      · cases h
    have HR : Hid (OwnsM L w (.returned (.slice none 0 0)) w) := hid ⟨_, rfl, by rw [hl]; exact World.ownsRow_nil _ _ _ _, Below.refl _ _⟩
    clear h hl hL
    generalize OwnsM L w = R at *
    generalize L.length = n at *
    go_enter Try.func62, Try.ntmps62
    go_wp2
    exact HR.out
  | some ad =>
    have en := fms_nil w (some ad) L.length cap
    simp only [Option.isNone_some] at en
    have hb : Below w.heap.size w (w.alloc (.cells #[] 52)) := (Below.refl _ _).alloc (Nat.le_refl _) _
    have HB := hid hb
    have HN := hid (fms_news (h.below hb))
    have HU := hid (fmV_length L)
    have HN2 : Hid (0 + L.length ≤ maxLen) := by show _ ≤ _; unfold maxLen; omega
    have HN3 : Hid ((0 + L.length) * 32 ≤ 140737488355328) := by show _ ≤ _; omega
    have HO := hid (World.ownsRow_made (base := w.heap.size) (e := 52) (size := 2) w #[] 0 (Nat.le_refl _) (Nat.zero_le _) rfl)
    have H1 := hid (fmV_one L)
    clear h hb hL
    unfold OwnsM
    generalize hX : fmV L = X at *
    clear hX
    generalize hn : L.length = n at *
    clear hn
    go_enter Try.func62, Try.ntmps62
    go_wp2_with (at_builtin; refine wpList_append_fromN rfl _ _ 22 rfl w.heap.size 52 i0 _ 2 32 Try.underlying22 hi hz0 hz1 hz2 (by simp [Value.cells]) (by omega) (.slice (some ⟨w.heap.size, 0, none⟩) 0 0) 0 [] rfl HO.out (some ad) n cap X rfl HU.out HN.out H1.out HN2.out HN3.out HB.out.size ?_)
    intro v' w1 ho hg
    have hbl : Below w.heap.size w w1 := HB.out.grown hg HB.out.size (fun k hk => by cases hk; exact Nat.le_refl _)
    have ho' : w1.ownsRow w.heap.size 52 2 v' n X := by simpa using ho
    have HO2 := hid ho'
    have HB2 := hid hbl
    clear ho ho' hbl hg
    go_wp2
    go_ret
    exact ⟨_, rfl, HO2.out, HB2.out⟩
end Go.Proofs.Ytiajpjkkopdmgaa.schema
/- What a slice of whole numbers (of the type int) that came in reads as, alone or inside another value. No condition. -/
namespace Go.Proofs.Ytiajpjkkopdmgaa.step
open Go.ChangeShapes Go.WideShapes Go.ChangeAt Go.RowKit Go.Deep
set_option linter.unusedVariables false

/-- the slice at a reads as the numbers l -/
def Ins (w : World) (a : Option Addr) (l : List Int) : Prop :=
  l = [] ∨ ∃ b off, a = some ⟨b, off, none⟩ ∧ b < w.heap.size ∧ ∀ (i : Nat) (n : Int), l[i]? = some n → w.cell? ⟨b, off + i, none⟩ = some (.int .i64 n)
theorem Ins.below {w w' : World} {a : Option Addr} {l : List Int} (h : Ins w a l) (hb : Below w.heap.size w w') : Ins w' a l := by
  rcases h with h | ⟨b, off, ha, hlt, hc⟩
  · exact .inl h
  · refine .inr ⟨b, off, ha, Nat.lt_of_lt_of_le hlt hb.size, fun i p hp => ?_⟩
    rw [hb.cell (p := ⟨b, off + i, none⟩) hlt]
    exact hc i p hp
theorem Ins.at {w : World} {a : Option Addr} {l : List Int} (h : Ins w a l) {i : Nat} (hi : i < l.length) :
    ∃ b off p, a = some ⟨b, off, none⟩ ∧ b < w.heap.size ∧ l[i]? = some p ∧ w.cell? ⟨b, off + i, none⟩ = some (.int .i64 p) := by
  rcases h with rfl | ⟨b, off, ha, hlt, hc⟩
  · simp at hi
  · have hp := List.getElem?_eq_getElem hi
    exact ⟨b, off, _, ha, hlt, hp, hc i _ hp⟩
/-- a number of the type int -/
def InOk (n : Int) : Prop := -9223372036854775808 ≤ n ∧ n ≤ 9223372036854775807
section
variable {H : Type} {enc : TypeId × Value → H} {P : Program} {W : World}
/-- all that is asked of the type of such a slice -/
def InRow (P : Program) (t : TypeId) : Prop := ∃ e, P.underlying t = some (.slice e) ∧ P.underlying e = some (.int .i64) ∧ P.cellsOf e = 1
theorem open_InRow {t : TypeId} {v : Value} {fuel : Nat} {y : DataW H × List MemPlace} (hR : InRow P t)
    (hf : DataW.trod enc P W 0 (fun _ => true) true fuel t [v] = some y) :
    ∃ (a : Option Addr) (cap : Nat) (M : List Int), v = .slice a M.length cap ∧ Ins W a M ∧ (∀ x ∈ M, InOk x) ∧ M.length ≤ cap ∧ cap ≤ maxLen := by
  obtain ⟨e, ht, he, hc⟩ := hR
  rcases open_ints ht he hc hf with ⟨hcs, _⟩ | ⟨x, l, c, zs, hcs, _, hl, hm, hz, hx, hcell, hwz⟩
  · exact ⟨none, 0, [], by simpa using hcs, .inl rfl, by simp, Nat.le_refl _, by unfold maxLen; omega⟩
  · simp only [if_true] at hz
    have hlen : (zs.take l).length = l := by simp; omega
    refine ⟨some x, c, zs.take l, by rw [hlen]; simpa using hcs, ?_, fun y hy => wf_i64 _ (hwz _ (List.mem_of_mem_take hy)), by rw [hlen]; exact hl, hm⟩
    by_cases h : l = 0
    · exact .inl (by subst h; rfl)
    · right
      obtain ⟨b, off, spot⟩ := x
      have hspot : spot = none := by simpa [Addr.add] using World.cell?_spot (hcell 0 (by omega))
      subst hspot
      have hb : b < W.heap.size := by
        have := World.block_lt_of_cell? W _ (hcell 0 (by omega))
        simpa [Addr.add] using this
      refine ⟨b, off, rfl, hb, fun i n hi => ?_⟩
      have hil : i < l := by have := (List.getElem?_eq_some_iff.1 hi).1; omega
      have h1 := hcell i (by omega)
      rw [Addr.add_lit] at h1
      rw [h1]
      have hi' : i < zs.length := by omega
      rw [List.getElem?_take, if_pos hil] at hi
      simp [List.getD, hi]
end
theorem inRow : InRow Try.prog 29 := ⟨_, Try.underlying29, by kernel_rfl, by kernel_rfl⟩
end Go.Proofs.Ytiajpjkkopdmgaa.step
/- What a step (api.Step), and a list of steps, that came in read as. No condition. -/
namespace Go.Proofs.Ytiajpjkkopdmgaa.step
open Go.ChangeShapes Go.WideShapes Go.ChangeAt Go.RowKit Go.Deep
set_option linter.unusedVariables false

/-- a step by its values -/
structure Sp where
  (op fm fd pl tt a b : Int) (f : field.Fd) (v : field.Va) (t : List Int) (l : List field.Fd)
/-- a step as it lies in memory: its values, and where its two lists lie -/
structure St where
  (s : Sp) (ta : Option Addr) (tc : Nat) (la : Option Addr) (lc : Nat)
instance : Inhabited St := ⟨⟨⟨0, 0, 0, 0, 0, 0, 0, ⟨0, 0, 0, 0, 0⟩, ⟨0, ⟨#[]⟩⟩, [], []⟩, none, 0, none, 0⟩⟩
/-- the sixteen cells of a step whose two lists are the slices x and y -/
def spC (s : Sp) (x y : Value) : List Value := [.int .i64 s.op, .int .i64 s.fm, .int .i64 s.fd, .int .i64 s.pl, .int .i64 s.tt, .int .i64 s.a, .int .i64 s.b, .int .i64 s.f.id, .int .i64 s.f.kind, .int .i64 s.f.lo, .int .i64 s.f.hi, .int .i64 s.f.most, .int .i64 s.v.n, .string s.v.s, x, y]
def St.C (p : St) : List Value := spC p.s (.slice p.ta p.s.t.length p.tc) (.slice p.la p.s.l.length p.lc)
def St.val (p : St) : Value := .agg ⟨p.C⟩
structure Sp.Ints (s : Sp) : Prop where
  bop : InOk s.op
  bfm : InOk s.fm
  bfd : InOk s.fd
  bpl : InOk s.pl
  btt : InOk s.tt
  ba : InOk s.a
  bb : InOk s.b
  bn : InOk s.v.n
  bt : ∀ n ∈ s.t, InOk n
structure St.Good (W : World) (p : St) : Prop where
  ints : p.s.Ints
  bf : p.s.f.Good W
  rt : Ins W p.ta p.s.t
  ct : p.s.t.length ≤ p.tc
  dt : p.tc ≤ maxLen
  rl : field.Fds W p.la p.s.l
  ml : ∀ y ∈ p.s.l, y.Good W
  cl : p.s.l.length ≤ p.lc
  dl : p.lc ≤ maxLen
theorem St.Good.below {W W' : World} {p : St} (h : p.Good W) (hb : Below W.heap.size W W') : p.Good W' :=
  ⟨h.ints, h.bf.below hb, h.rt.below hb, h.ct, h.dt, h.rl.below hb, fun y hy => (h.ml y hy).below hb, h.cl, h.dl⟩
/-- the slice at a reads as the list l -/
def Sts (w : World) (a : Option Addr) (l : List St) : Prop :=
  l = [] ∨ ∃ b off, a = some ⟨b, off, none⟩ ∧ b < w.heap.size ∧ ∀ (i : Nat) p, l[i]? = some p → ∀ (j : Nat) v, p.C[j]? = some v → w.cell? ⟨b, off + i * 16 + j, none⟩ = some v
theorem Sts.below {w w' : World} {a : Option Addr} {l : List St} (h : Sts w a l) (hb : Below w.heap.size w w') : Sts w' a l := by
  rcases h with h | ⟨b, off, ha, hlt, hc⟩
  · exact .inl h
  · refine .inr ⟨b, off, ha, Nat.lt_of_lt_of_le hlt hb.size, fun i p hp j v hv => ?_⟩
    rw [hb.cell (p := ⟨b, off + i * 16 + j, none⟩) hlt]
    exact hc i p hp j v hv
section
variable {H : Type} {enc : TypeId × Value → H} {P : Program} {W : World}
/-- all that is asked of the type of a step -/
structure StShape (P : Program) (t : TypeId) (F : List Field) : Prop where
  hs : P.underlying t = some (.struct F.toArray)
  hC : P.cellsOf t = 16
  ho : F.map (fun f => (f.offset, P.cellsOf f.type)) = [(0, 1), (1, 1), (2, 1), (3, 1), (4, 1), (5, 1), (6, 1), (7, 5), (12, 2), (14, 1), (15, 1)]
  hi : ∀ i, i < 7 → ∀ f, F[i]? = some f → P.underlying f.type = some (.int .i64)
  hf : ∀ f, F[7]? = some f → ∃ f0 f1 f2 f3 f4, P.underlying f.type = some (.struct #[f0, f1, f2, f3, f4]) ∧ oneCellFields P #[f0, f1, f2, f3, f4] = true ∧ P.underlying f0.type = some (.int .i64) ∧ P.underlying f1.type = some (.int .i64) ∧ P.underlying f2.type = some (.int .i64) ∧ P.underlying f3.type = some (.int .i64) ∧ P.underlying f4.type = some (.int .i64)
  hv : ∀ f, F[8]? = some f → ∃ g0 g1, P.underlying f.type = some (.struct #[g0, g1]) ∧ oneCellFields P #[g0, g1] = true ∧ P.underlying g0.type = some (.int .i64) ∧ P.underlying g1.type = some .string
  ht : ∀ f, F[9]? = some f → InRow P f.type
  hl : ∀ f, F[10]? = some f → field.FdRow P f.type
def StType (P : Program) (t : TypeId) : Prop := ∃ F, StShape P t F
theorem take_one {cs : List Value} {i : Nat} {c : Value} (h : cs[i]? = some c) : (cs.drop i).take 1 = [c] := by
  rw [List.take_one, List.head?_drop, h]; rfl
theorem one_cells {t : TypeId} {fs : Array Field} {n : Nat} {cs : List Value} {y : DataW H × List MemPlace} (hs : P.underlying t = some (.struct fs)) (hone : oneCellFields P fs = true) (h : DataW.trod enc P W 0 (fun _ => true) true n t cs = some y) :
    ∃ m, ∀ (i : Nat) (f : Field) (c : Value), fs[i]? = some f → cs[i]? = some c → ∃ y, DataW.trod enc P W 0 (fun _ => true) true m f.type [c] = some y := by
  obtain ⟨ys, m, _, _, hl, hlen, hx⟩ := DataW.trod_struct hs h
  refine ⟨m, fun i f c hi hc => ?_⟩
  obtain ⟨o, k⟩ := hone_of hone i f hi
  have h1 := hx i f hi
  rw [o, k, take_one hc] at h1
  have hi6 : i < fs.size := (Array.getElem?_eq_some_iff.1 hi).1
  exact ⟨_, h1.trans (List.getElem?_eq_getElem (by rw [hlen]; exact hi6))⟩
theorem some_cells {t : TypeId} {fs : Array Field} {n : Nat} {cs : List Value} {y : DataW H × List MemPlace} (hs : P.underlying t = some (.struct fs)) (h : DataW.trod enc P W 0 (fun _ => true) true n t cs = some y) :
    ∃ m, ∀ (i : Nat) (f : Field), fs[i]? = some f → ∃ y, DataW.trod enc P W 0 (fun _ => true) true m f.type ((cs.drop f.offset).take (P.cellsOf f.type)) = some y := by
  obtain ⟨ys, m, _, _, hl, hlen, hx⟩ := DataW.trod_struct hs h
  refine ⟨m, fun i f hi => ?_⟩
  have hi6 : i < fs.size := (Array.getElem?_eq_some_iff.1 hi).1
  exact ⟨_, (hx i f hi).trans (List.getElem?_eq_getElem (by rw [hlen]; exact hi6))⟩
theorem St_cells {t : TypeId} {n : Nat} {c0 c1 c2 c3 c4 c5 c6 c7 c8 c9 c10 c11 c12 c13 c14 c15 : Value} {y : DataW H × List MemPlace} (hT : StType P t)
    (h : DataW.trod enc P W 0 (fun _ => true) true n t [c0, c1, c2, c3, c4, c5, c6, c7, c8, c9, c10, c11, c12, c13, c14, c15] = some y) :
    ∃ p : St, p.Good W ∧ [c0, c1, c2, c3, c4, c5, c6, c7, c8, c9, c10, c11, c12, c13, c14, c15] = p.C := by
  obtain ⟨F, S⟩ := hT
  have hlen : F.length = 11 := by have := congrArg List.length S.ho; simpa using this
  match F, hlen, S with
  | [F0, F1, F2, F3, F4, F5, F6, F7, F8, F9, F10], _, S =>
    have ho := S.ho
    simp only [List.map_cons, List.map_nil, List.cons.injEq, Prod.mk.injEq, and_true] at ho
    obtain ⟨m, hx⟩ := some_cells S.hs h
    have e0 := hx 0 F0 rfl
    have e1 := hx 1 F1 rfl
    have e2 := hx 2 F2 rfl
    have e3 := hx 3 F3 rfl
    have e4 := hx 4 F4 rfl
    have e5 := hx 5 F5 rfl
    have e6 := hx 6 F6 rfl
    have e7 := hx 7 F7 rfl
    have e8 := hx 8 F8 rfl
    have e9 := hx 9 F9 rfl
    have e10 := hx 10 F10 rfl
    obtain ⟨⟨o0, k0⟩, ⟨o1, k1⟩, ⟨o2, k2⟩, ⟨o3, k3⟩, ⟨o4, k4⟩, ⟨o5, k5⟩, ⟨o6, k6⟩, ⟨o7, k7⟩, ⟨o8, k8⟩, ⟨o9, k9⟩, ⟨o10, k10⟩⟩ := ho
    rw [o0, k0] at e0
    rw [o1, k1] at e1
    rw [o2, k2] at e2
    rw [o3, k3] at e3
    rw [o4, k4] at e4
    rw [o5, k5] at e5
    rw [o6, k6] at e6
    rw [o7, k7] at e7
    rw [o8, k8] at e8
    rw [o9, k9] at e9
    rw [o10, k10] at e10
    obtain ⟨y0, e0⟩ := e0
    obtain ⟨y1, e1⟩ := e1
    obtain ⟨y2, e2⟩ := e2
    obtain ⟨y3, e3⟩ := e3
    obtain ⟨y4, e4⟩ := e4
    obtain ⟨y5, e5⟩ := e5
    obtain ⟨y6, e6⟩ := e6
    obtain ⟨y7, e7⟩ := e7
    obtain ⟨y8, e8⟩ := e8
    obtain ⟨y9, e9⟩ := e9
    obtain ⟨y10, e10⟩ := e10
    replace e0 : DataW.trod enc P W 0 (fun _ => true) true m F0.type [c0] = some y0 := e0
    replace e1 : DataW.trod enc P W 0 (fun _ => true) true m F1.type [c1] = some y1 := e1
    replace e2 : DataW.trod enc P W 0 (fun _ => true) true m F2.type [c2] = some y2 := e2
    replace e3 : DataW.trod enc P W 0 (fun _ => true) true m F3.type [c3] = some y3 := e3
    replace e4 : DataW.trod enc P W 0 (fun _ => true) true m F4.type [c4] = some y4 := e4
    replace e5 : DataW.trod enc P W 0 (fun _ => true) true m F5.type [c5] = some y5 := e5
    replace e6 : DataW.trod enc P W 0 (fun _ => true) true m F6.type [c6] = some y6 := e6
    replace e7 : DataW.trod enc P W 0 (fun _ => true) true m F7.type [c7, c8, c9, c10, c11] = some y7 := e7
    replace e8 : DataW.trod enc P W 0 (fun _ => true) true m F8.type [c12, c13] = some y8 := e8
    replace e9 : DataW.trod enc P W 0 (fun _ => true) true m F9.type [c14] = some y9 := e9
    replace e10 : DataW.trod enc P W 0 (fun _ => true) true m F10.type [c15] = some y10 := e10
    obtain ⟨x0, q0, _, w0⟩ := DataW.trod_int (S.hi 0 (by omega) F0 rfl) e0
    obtain ⟨x1, q1, _, w1⟩ := DataW.trod_int (S.hi 1 (by omega) F1 rfl) e1
    obtain ⟨x2, q2, _, w2⟩ := DataW.trod_int (S.hi 2 (by omega) F2 rfl) e2
    obtain ⟨x3, q3, _, w3⟩ := DataW.trod_int (S.hi 3 (by omega) F3 rfl) e3
    obtain ⟨x4, q4, _, w4⟩ := DataW.trod_int (S.hi 4 (by omega) F4 rfl) e4
    obtain ⟨x5, q5, _, w5⟩ := DataW.trod_int (S.hi 5 (by omega) F5 rfl) e5
    obtain ⟨x6, q6, _, w6⟩ := DataW.trod_int (S.hi 6 (by omega) F6 rfl) e6
    obtain ⟨f0, f1, f2, f3, f4, hf, hfo, a0, a1, a2, a3, a4⟩ := S.hf F7 rfl
    obtain ⟨m7, r7⟩ := one_cells hf hfo e7
    obtain ⟨z0, r70⟩ := r7 0 f0 c7 rfl rfl
    obtain ⟨z1, r71⟩ := r7 1 f1 c8 rfl rfl
    obtain ⟨z2, r72⟩ := r7 2 f2 c9 rfl rfl
    obtain ⟨z3, r73⟩ := r7 3 f3 c10 rfl rfl
    obtain ⟨z4, r74⟩ := r7 4 f4 c11 rfl rfl
    obtain ⟨pf, hpf, rfl, rfl, rfl, rfl, rfl⟩ := field.Fd_cells a0 a1 a2 a3 a4 r70 r71 r72 r73 r74
    obtain ⟨g0, g1, hv, hvo, b0, b1⟩ := S.hv F8 rfl
    obtain ⟨m8, r8⟩ := one_cells hv hvo e8
    obtain ⟨z5, r80⟩ := r8 0 g0 c12 rfl rfl
    obtain ⟨z6, r81⟩ := r8 1 g1 c13 rfl rfl
    obtain ⟨pv, hpv, rfl, rfl⟩ := field.Va_cells b0 b1 r80 r81
    obtain ⟨ta, tc, tL, rfl, t1, t2, t3, t4⟩ := open_InRow (S.ht F9 rfl) e9
    obtain ⟨la, lc, lL, rfl, l1, l2, l3, l4⟩ := field.open_FdRow (S.hl F10 rfl) e10
    refine ⟨⟨⟨x0, x1, x2, x3, x4, x5, x6, pf, pv, tL, lL⟩, ta, tc, la, lc⟩, ⟨⟨wf_i64 _ w0, wf_i64 _ w1, wf_i64 _ w2, wf_i64 _ w3, wf_i64 _ w4, wf_i64 _ w5, wf_i64 _ w6, hpv.bn, t2⟩, hpf, t1, t3, t4, l1, l2, l3, l4⟩, ?_⟩
    simp only [List.cons.injEq, and_true] at q0 q1 q2 q3 q4 q5 q6
    rw [q0, q1, q2, q3, q4, q5, q6]
    rfl
theorem open_St_arg {r : Reach} {b0 : Nat} {t : TypeId} {v : Value} {d : DataW H} {pl : List MemPlace} (hT : StType P t)
    (hv : Value.okWide P W r b0 t v) (h : DataW.Trod enc P W 0 (fun _ => true) true t v d pl) : ∃ p : St, p.Good W ∧ v = p.val := by
  obtain ⟨F, S⟩ := id hT
  obtain ⟨cs, rfl, hsz⟩ := okWide_struct S.hs hv
  obtain ⟨fuel, hf⟩ := h
  rw [S.hC] at hsz
  obtain ⟨l⟩ := cs
  match l, hsz with
  | [c0, c1, c2, c3, c4, c5, c6, c7, c8, c9, c10, c11, c12, c13, c14, c15], _ =>
    obtain ⟨p, hp, he⟩ := St_cells hT (y := (d, pl)) (show DataW.trod enc P W 0 (fun _ => true) true fuel t [c0, c1, c2, c3, c4, c5, c6, c7, c8, c9, c10, c11, c12, c13, c14, c15] = some (d, pl) from hf)
    exact ⟨p, hp, by rw [he]; rfl⟩
theorem open_Sts {t e : TypeId} {a : Option Addr} {len cap : Nat} {d : DataW H} {pl : List MemPlace} (ht : P.underlying t = some (.slice e)) (hT : StType P e)
    (h0 : DataW.Trod enc P W 0 (fun _ => true) true t (.slice a len cap) d pl) : ∃ l : List St, len = l.length ∧ Sts W a l ∧ (∀ p ∈ l, p.Good W) ∧ len ≤ cap ∧ cap ≤ maxLen := by
  obtain ⟨fuel, hf⟩ := h0
  have hf2 : DataW.trod enc P W 0 (fun _ => true) true fuel t [.slice a len cap] = some (d, pl) := by simpa [Value.cells] using hf
  rcases open_slice ht hf2 with ⟨hcs, _⟩ | ⟨A, len', cap', q, n, D, Pl, hcs, _, hlc, hcm, hm, hx0, hrow⟩
  · simp at hcs
    obtain ⟨rfl, rfl, rfl⟩ := hcs
    exact ⟨[], rfl, .inl rfl, by simp, Nat.le_refl _, by unfold maxLen; omega⟩
  · simp at hcs
    obtain ⟨rfl, rfl, rfl⟩ := hcs
    simp only [if_true] at hm
    have hC : P.cellsOf e = 16 := by obtain ⟨F, S⟩ := id hT; exact S.hC
    have each : ∀ r, r < len → ∃ p : St, p.Good W ∧ ∀ (j : Nat) v, p.C[j]? = some v → W.cell? (A.add (r * 16 + j)) = some v := by
      intro r hr
      obtain ⟨cs', h1, h2⟩ := hrow r (by omega)
      rw [hC] at h1
      obtain ⟨_, hlen0, hcell⟩ := World.cells?_some h1
      obtain ⟨F, S⟩ := id hT
      obtain ⟨ys, m, _, _, hl, hlen, hx⟩ := DataW.trod_struct S.hs h2
      rw [hC] at hl
      match cs', hl with
      | [c0, c1, c2, c3, c4, c5, c6, c7, c8, c9, c10, c11, c12, c13, c14, c15], _ =>
        obtain ⟨p, hp, he⟩ := St_cells hT h2
        refine ⟨p, hp, fun j v hj => ?_⟩
        have hjl : j < 16 := (List.getElem?_eq_some_iff.1 hj).1
        have k := hcell j (by omega)
        rw [add_add] at k
        rw [k, he]
        exact hj
    obtain ⟨y, hy⟩ := choose_lt each
    refine ⟨(List.range len).map y, by simp, ?_, ?_, by omega, hcm⟩
    · by_cases hz : len = 0
      · subst hz; exact .inl rfl
      · right
        obtain ⟨b, off, spot⟩ := A
        have hc0 := (hy 0 (by omega)).2 0 _ rfl
        have hspot : spot = none := by simpa [Addr.add] using World.cell?_spot hc0
        subst hspot
        have hb : b < W.heap.size := by
          have := World.block_lt_of_cell? W _ hc0
          simpa [Addr.add] using this
        refine ⟨b, off, rfl, hb, fun i p hp j v hj => ?_⟩
        have hi : i < len := by have := (List.getElem?_eq_some_iff.1 hp).1; simpa using this
        simp [hi] at hp
        subst hp
        have e := (hy i hi).2 j v hj
        rw [Addr.add_lit] at e
        rw [Nat.add_assoc]; exact e
    · intro p hp
      obtain ⟨i, hi, rfl⟩ := List.mem_map.1 hp
      exact (hy i (List.mem_range.1 hi)).1
end
theorem stType : StType Try.prog 32 := by
  refine ⟨_, ⟨Try.underlying32, by kernel_rfl, by kernel_rfl, ?_, ?_, ?_, ?_, ?_⟩⟩
  rotate_left
  · intro f hf
    obtain rfl := Option.some.inj hf
    exact ⟨_, _, _, _, _, Try.underlying26, by kernel_rfl, by kernel_rfl, by kernel_rfl, by kernel_rfl, by kernel_rfl, by kernel_rfl⟩
  · intro f hf
    obtain rfl := Option.some.inj hf
    exact ⟨_, _, Try.underlying28, by kernel_rfl, by kernel_rfl, by kernel_rfl⟩
  · intro f hf
    obtain rfl := Option.some.inj hf
    exact inRow
  · intro f hf
    obtain rfl := Option.some.inj hf
    exact field.fdRow
  · intro i hi f hf
    have h : i = 0 ∨ i = 1 ∨ i = 2 ∨ i = 3 ∨ i = 4 ∨ i = 5 ∨ i = 6 := by omega
    rcases h with rfl | rfl | rfl | rfl | rfl | rfl | rfl <;> (obtain rfl := Option.some.inj hf; exact Try.underlying3)
end Go.Proofs.Ytiajpjkkopdmgaa.step
/- Two values of fields are the same or not. No condition. -/
namespace Go.Proofs.Ytiajpjkkopdmgaa.record
open Go.RowKit
open Go.Proofs.Ytiajpjkkopdmgaa.field (Va)
set_option linter.unusedVariables false

instance : DecidableEq Va := fun a b =>
  if h : a.n = b.n ∧ a.s.toList = b.s.toList then isTrue (by
    obtain ⟨n, ⟨⟨s⟩⟩⟩ := a
    obtain ⟨m, ⟨⟨t⟩⟩⟩ := b
    obtain ⟨h1, h2⟩ := h
    simp only at h1 h2
    rw [ByteArray.toList_eq, ByteArray.toList_eq] at h2
    simp only at h2
    subst h1 h2; rfl) else isFalse (by rintro rfl; simp at h)
theorem va_eq {n m : Int} {s t : ByteArray} : (⟨n, s⟩ : Va) = ⟨m, t⟩ ↔ n = m ∧ s.toList = t.toList := by
  constructor
  · intro h; cases h; exact ⟨rfl, rfl⟩
  · rintro ⟨rfl, h⟩
    obtain ⟨⟨s⟩⟩ := s
    obtain ⟨⟨t⟩⟩ := t
    rw [ByteArray.toList_eq, ByteArray.toList_eq] at h
    simp only at h
    subst h; rfl

end Go.Proofs.Ytiajpjkkopdmgaa.record
