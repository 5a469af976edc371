/- Contracts and lemmas that the claims of this seat share: StepLS, LineAny, StepParse, PenGroups, PenRefEnd, PenRefLook, StepRefTakeF, PenRefTake, PenRefSight. Each says its own conditions. -/
import Derived.Test.YtpdnfiofjkbeiaaCmP
import Derived.Test.YtpdnfiofjkbeiaaCmJ
import Derived.Deep.CutRange
import Derived.Test.YtpdnfiofjkbeiaaCmN
import Derived.Test.YtpdnfiofjkbeiaaCmB
import Derived.Test.YtpdnfiofjkbeiaaCmO
/- A list of steps that a call gathers, one by one, each with its two lists. No condition. -/
namespace Go.Proofs.Ytpdnfiofjkbeiaa.step
open Go.RowKit Go.Proofs.Ytpdnfiofjkbeiaa.pen
open Go.Proofs.Ytpdnfiofjkbeiaa.field (newB)
open Go.Proofs.Ytpdnfiofjkbeiaa.schema (StayT stay_grown own_low own_cap exec_push eye_grown but_grown)
set_option linter.unusedVariables false

/-- the cells of steps -/
def stV : List St → List Value
  | [] => []
  | p :: L => p.C ++ stV L
theorem stV_append : ∀ a b, stV (a ++ b) = stV a ++ stV b
  | [], _ => rfl
  | p :: a, b => by rw [List.cons_append, stV, stV, stV_append a b, List.append_assoc]
theorem C_len (p : St) : p.C.length = 16 := rfl
theorem stV_length : ∀ L, (stV L).length = L.length * 16
  | [] => rfl
  | p :: L => by rw [stV, List.length_append, C_len, stV_length L, List.length_cons]; omega
theorem stV_at : ∀ (L : List St) (i : Nat) (p : St) (c : Nat), L[i]? = some p → c < 16 → (stV L)[i * 16 + c]? = p.C[c]?
  | [], i, p, c, h, _ => by simp at h
  | q :: L, 0, p, c, h, hc => by
    simp at h; subst h
    rw [stV, List.getElem?_append_left (by rw [C_len]; omega)]
    simp
  | q :: L, i + 1, p, c, h, hc => by
    rw [stV, List.getElem?_append_right (by rw [C_len]; omega)]
    rw [← stV_at L i p c (by simpa using h) hc]
    congr 1
    rw [C_len]; omega
theorem own_sts {w : World} {base n : Nat} {a : Option Addr} {cap : Nat} {L : List St} {e : TypeId} (h : w.ownsRow base e 16 (.slice a n cap) n (stV L)) : Sts w a L := by
  obtain ⟨hl, hr⟩ := h
  have hn : n = L.length := by have := stV_length L; rw [hl] at this; omega
  rcases hr with ⟨hv, h0⟩ | ⟨b, cap', cur, hv, _, hg, hcp, _, _, htake⟩
  · cases hv
    exact .inl (List.eq_nil_of_length_eq_zero (by omega))
  · cases hv
    refine .inr ⟨b, 0, rfl, (Array.getElem?_eq_some_iff.1 hg).1, fun i p hp c x hx => ?_⟩
    have hi : i < L.length := (List.getElem?_eq_some_iff.1 hp).1
    have hc : c < 16 := (List.getElem?_eq_some_iff.1 hx).1
    have h1 := stV_at L i p c hp hc
    rw [hx, ← htake, List.getElem?_take, if_pos (by omega)] at h1
    rw [show 0 + i * 16 + c = 0 + (i * 16 + c) by omega, cell_of_row w b _ cur _ _ hg, Nat.zero_add, ← h1, Array.getElem?_toList]
theorem st_info_all : (Try.prog.info? 29).map (fun i => (i.zero, i.size, i.bytes)) = some (some (.agg ⟨Z16⟩), 16, 168) := by kernel_rfl
theorem st_info_parts : ∃ i, Try.prog.info? 29 = some i ∧ i.zero = some (.agg ⟨Z16⟩) ∧ i.size = 16 ∧ i.bytes = 168 := by
  obtain ⟨i, hi, he⟩ := Option.map_eq_some_iff.1 st_info_all
  simp only [Prod.mk.injEq] at he
  exact ⟨i, hi, he.1, he.2.1, he.2.2⟩
theorem C_one (p : St) : ∀ v ∈ p.C, v.oneCell' = true := by
  intro v hv
  simp only [St.C, spC, List.mem_cons, List.not_mem_nil, or_false] at hv
  rcases hv with rfl | rfl | rfl | rfl | rfl | rfl | rfl | rfl | rfl | rfl | rfl | rfl | rfl | rfl | rfl | rfl <;> rfl
theorem exec_push_st {o : Oper} {a : Act} {w : World} {x y : Operand} {u : Value} {B n g : Nat} {L : List St} {p : St}
    (ho : o.op = .call { callee := .builtin .append, args := #[x, y], argTypes := #[31, 31] }) (hx : a.eval x = u) (hy : a.eval y = .slice (some ⟨g, 0, none⟩) 1 1)
    (hown : w.ownsRow B 29 16 u n (stV L)) (hb : Block w g 29 p.C) (hn : n ≤ 1000) (hB : B ≤ w.heap.size) :
    ∃ q w', (execOp a.eval o).run Try.prog w = .ok (.value q) w' ∧ w'.ownsRow B 29 16 q (n + 1) (stV (L ++ [p])) ∧ w.grownBy w' u.ownBlock := by
  obtain ⟨i0, hi, hz0, hz1, hz2⟩ := st_info_parts
  obtain ⟨q, w', h1, h2, h3⟩ := exec_push (sz := 16) (bytes := 168) Try.underlying31 hi hz0 hz1 hz2 (by simp [Value.cells]) (by omega) ho hx hy hown (news := p.C) rfl (fun j v hj => (hb.cell j).trans hj) (C_one p) (by omega) (by omega) hB
  exact ⟨q, w', h1, by rw [stV_append]; simpa [stV] using h2, h3⟩
theorem st_int : (29 : TypeId) ≠ 3 := by decide
theorem st_fd : (29 : TypeId) ≠ 23 := by decide
/-- the row of the steps P, each with its lists, all behind B; the eye at b stands at e; what lay before B is as in w0 but for the eye -/
structure LS (Ty : TypeId) (b B : Nat) (w0 : World) (P : List St) (e : Sight) (ua : Option Addr) (uc : Nat) (wr : World) : Prop where
  row : wr.ownsRow B 29 16 (.slice ua P.length uc) P.length (stV P)
  each : ∀ p ∈ P, OwnS B wr p
  eye : EyeAt Ty b e wr
  but : But B b w0 wr
  low : b < B
  size : B ≤ wr.heap.size
variable {Ty : TypeId} {b B : Nat} {w0 : World} {P : List St} {e : Sight} {ua : Option Addr} {uc : Nat}
theorem OwnS.later {w w' : World} {p : St} (h : OwnS B w p) (hb : Below w.heap.size w w') : OwnS B w' p := ⟨ownsRow_later h.1 hb, ownsRow_later h.2 hb⟩
theorem OwnS.but {w w' : World} {p : St} (h : OwnS B w p) (hu : But w.heap.size b w w') (hb : b < B) : OwnS B w' p := ⟨own_but h.1 hu hb, own_but h.2 hu hb⟩
theorem LS.later {w w' : World} (h : LS Ty b B w0 P e ua uc w) (hb : Below w.heap.size w w') : LS Ty b B w0 P e ua uc w' :=
  ⟨ownsRow_later h.row hb, fun p hp => (h.each p hp).later hb, h.eye.later hb, h.but.trans ((Below.but hb).mono h.size), h.low, Nat.le_trans h.size hb.size⟩
theorem LS.call {w w' : World} {e' : Sight} (h : LS Ty b B w0 P e ua uc w) (hE : EyeAt Ty b e' w') (hu : But w.heap.size b w w') : LS Ty b B w0 P e' ua uc w' :=
  ⟨own_but h.row hu h.low, fun p hp => (h.each p hp).but hu h.low, hE, h.but.trans (hu.mono h.size), h.low, Nat.le_trans h.size hu.2.2.2.1⟩
theorem LS.push {w w' : World} {p : St} {q : Option Addr} {qc : Nat} (h : LS Ty b B w0 P e ua uc w) (hp : OwnS B w p) (hg : w.grownBy w' (Value.slice ua P.length uc).ownBlock) (ho : w'.ownsRow B 29 16 (.slice q (P.length + 1) qc) (P.length + 1) (stV (P ++ [p]))) :
    LS Ty b B w0 (P ++ [p]) e q qc w' := by
  have hs1 := stay_grown 3 h.row hg st_int
  have hs2 := stay_grown 23 h.row hg st_fd
  have hln : (P ++ [p]).length = P.length + 1 := by simp
  refine ⟨by rw [hln]; exact ho, fun r hr => ?_, eye_grown h.eye h.row hg h.low, but_grown h.but h.row hg h.size, h.low, Nat.le_trans h.size hg.size⟩
  rcases List.mem_append.1 hr with h1 | h1
  · exact ⟨hs1.row (h.each r h1).1, hs2.row (h.each r h1).2⟩
  · rw [List.mem_singleton.1 h1]; exact ⟨hs1.row hp.1, hs2.row hp.2⟩
theorem LS.start {w : World} (hE : EyeAt Ty b e w) : LS Ty b w.heap.size w [] e none 0 w :=
  ⟨World.ownsRow_nil _ _ _ _, by simp, hE, But.refl _ _ _, hE.lt, Nat.le_refl _⟩
theorem LS.list {w : World} (h : LS Ty b B w0 P e ua uc w) : StL w ua P := ⟨own_sts h.row, fun p hp => (h.each p hp).lists⟩
/-- a result: the steps, and the error's number -/
def ParsedAs (xs : List Nat) (w : World) (en : Ending) (w' : World) : Prop :=
  ∃ (a : Option Addr) (c : Nat) (P : List St), en = .returned (.tuple #[.slice a P.length c, .int .i64 ((parsed xs).2 : Int)]) ∧ sps P = (parsed xs).1 ∧ StL w' a P ∧ P.length ≤ 40 ∧ Below w.heap.size w w'
theorem parse_none {xs : List Nat} {w w5 : World} {E : Nat} (h : parsed xs = ([], E)) (hb : Below w.heap.size w w5) : ParsedAs xs w (.returned (.tuple #[.slice none 0 0, .int .i64 (E : Int)])) w5 := by
  unfold ParsedAs
  rw [h]
  exact ⟨none, 0, [], rfl, rfl, StL.nil _, by simp, hb⟩
end Go.Proofs.Ytpdnfiofjkbeiaa.step
/- A region whose order is given: an operation of whose answer only a property is known. No condition. -/
namespace Go.Proofs.Ytpdnfiofjkbeiaa.plan
open Go Go.RowKit
set_option linter.unusedVariables false
theorem line_any {P : Program} {l : List Oper} {Q : Exit → Act → World → Prop} {a : Act} {w : World} (i : Nat) (o : Oper) (Pr : Value → World → Prop) (hi : l[i]? = some o) (hw : Region.wanted o (yielded l.toArray a.tmps) = true)
    (hv : ∃ q w', (execOp a.eval o).run P w = .ok (.value q) w' ∧ Pr q w') (h : ∀ q w', Pr q w' → Line P l Q (i + 1) (a.put o.dst q) w') : Line P l Q i a w := by
  obtain ⟨q, w', h1, h2⟩ := hv
  exact line_value i o q hi hw h1 (h q w' h2)
end Go.Proofs.Ytpdnfiofjkbeiaa.plan
/- Contract of layer 15 (step): Parse. No condition but bytes that are fewer than 2^47. -/
namespace Go.Proofs.Ytpdnfiofjkbeiaa.step
open Go.RowKit Go.Proofs.Ytpdnfiofjkbeiaa.pen
open Go.Proofs.Ytpdnfiofjkbeiaa.field (newB)
open Go.Proofs.Ytpdnfiofjkbeiaa.schema (eCount_le)
set_option linter.unusedVariables false

set_option maxRecDepth 20000 in
set_option maxHeartbeats 3200000 in
theorem parse_any (a : Option Addr) (c : Nat) (xs : List Nat) (w : World) (hr : Reads .u8 w a xs.length xs) (hx : ∀ c ∈ xs, c < 256) (hl : xs.length ≤ 140737488355328) :
    Calls Try.prog 15 #[.slice a xs.length c] w (ParsedAs xs w) := by
  obtain ⟨N, e1, hN⟩ : ∃ N q, eCount 40 (xs, 0) = (N, q) := ⟨_, _, rfl⟩
  have hN40 : N ≤ 40 := by have := eCount_le 40 (xs, 0); rw [show ((40 : Nat) : Int) = 40 from rfl, hN] at this; exact this
  have HP : Hid (parsed xs = (if eEnd (takeSs N e1).2 ≠ 0 then ([], eEnd (takeSs N e1).2) else if Rights (takeSs N e1).1 then ((takeSs N e1).1, 0) else ([], 2))) := hid (by
    have h3 : readL xs = takeSs N e1 := by unfold readL; rw [hN]
    unfold parsed
    rw [h3])
  have c0 := of_any a c xs w hr hx hl
  have c1 := fun b w' hE => eyeCount_any b (xs, 0) w' hE 40 (by omega) (by omega)
  rw [hN] at c1
  clear hN hr hx hl
  simp only at c1
  unfold Saw at c1
  go_enter Try.func15, Try.ntmps15
  go_wp2_with (first
    | (go_at_call 39; ((with_reducible refine c0.mono ?_); clear c0; rintro en w1 ⟨b, rfl, hbb, hE1, hu1⟩))
    | (go_at_call 40; ((with_reducible refine (c1 b w1 hE1).mono ?_); clear c1; rintro en w2 ⟨rfl, hE2, hu2⟩; have HLS := hid (LS.start hE2))))
  have HB2 := hid (show Below w.heap.size w w2 from hu1.trans ((hu2.mono hu1.size).below (Nat.le_refl _) hbb))
  have HBB := hid hbb
  obtain ⟨B, hB⟩ : ∃ B, Hid (w2.heap.size = B) := ⟨_, hid rfl⟩
  rw [hB.out] at HLS
  have HWB := hid (show w.heap.size ≤ B by rw [← hB.out]; exact HB2.out.size)
  clear hu1 hu2 hE1 hE2 hbb
  go_loopw [5, 11] (fun l m wr => ∃ k : Nat, k ≤ N ∧ m = .int .i64 (k : Int) ∧ ∃ (ua : Option Addr) (uc : Nat), l = .slice ua k uc ∧ Hid (∃ P, P.length = k ∧ sps P = (takeSs k e1).1 ∧ LS 98 b B w2 P (takeSs k e1).2 ua uc wr)) (fun _ m _ => N - (intOf m).toNat)
  case atStart => exact ⟨0, Nat.zero_le _, rfl, none, 0, rfl, hid ⟨[], rfl, rfl, HLS.out⟩⟩
  case round =>
    obtain ⟨k, hk, rfl, ua, uc, rfl, HS⟩ := hrel
    obtain ⟨P, hPk, hPs, hS⟩ := HS.out
    by_cases hlt2 : k < N
    · have i1 : (k : Int) < N := by omega
      obtain ⟨p0, e4, hp⟩ : ∃ p q, takeS (takeSs k e1).2 = (p, q) := ⟨_, _, rfl⟩
      have HT1 : Hid ((takeSs (k + 1) e1).1 = (takeSs k e1).1 ++ [p0]) := hid (by rw [takeSs, hp])
      have HT2 : Hid ((takeSs (k + 1) e1).2 = e4) := hid (by rw [takeSs, hp])
      have cP := fun w' hE => parseStep_any b (takeSs k e1).2 w' hE
      unfold TakesS at cP
      rw [hp] at cP
      clear hp HS HLS
      have HPS := hid hPs
      have HPK := hid hPk
      clear hPs hPk
      generalize (takeSs k e1).1 = L at *
      generalize (takeSs k e1).2 = sk at *
      have HSS := hid hS
      clear hS
      go_upto_region 5 with fail
      refine plan.line ?_
      refine plan.line_same 0 _ (.slice ua k uc) rfl (by kernel_rfl) (by kernel_rfl) ?_
      refine plan.line_same 1 _ (.pointer (some ⟨b, 0, none⟩)) rfl (by kernel_rfl) (by kernel_rfl) ?_
      refine plan.line_call 2 _ 41 #[.pointer (some ⟨b, 0, none⟩)] rfl (by kernel_rfl) (by kernel_rfl) ((cP _ HSS.out.eye).mono ?_)
      rintro en w3 ⟨p, rfl, hps, hpo, hE3, hu3⟩
      refine ⟨_, rfl, ?_⟩
      have hS3 := HSS.out.call hE3 hu3
      have hO3 := hpo.low HSS.out.size
      obtain ⟨s, ta, tc, la, lc⟩ := p
      have hN3 := newB w3 (.cells #[.int .i64 s.op, .int .i64 s.fm, .int .i64 s.fd, .int .i64 s.pl, .int .i64 s.tt, .int .i64 s.a, .int .i64 s.b, .int .i64 s.f.id, .int .i64 s.f.kind, .int .i64 s.f.lo, .int .i64 s.f.hi, .int .i64 s.f.most, .int .i64 s.v.n, .string s.v.s, .slice ta s.t.length tc, .slice la s.l.length lc] 29)
      have hS4 := hS3.later hN3
      have hO4 := hO3.later hN3
      have HO4 := hid hO4
      have HPE : Hid (s = p0) := hid hps
      refine plan.line_value (w1 := w3.alloc (.cells #[.int .i64 s.op, .int .i64 s.fm, .int .i64 s.fd, .int .i64 s.pl, .int .i64 s.tt, .int .i64 s.a, .int .i64 s.b, .int .i64 s.f.id, .int .i64 s.f.kind, .int .i64 s.f.lo, .int .i64 s.f.hi, .int .i64 s.f.most, .int .i64 s.v.n, .string s.v.s, .slice ta s.t.length tc, .slice la s.l.length lc] 29)) 3 _ (.slice (some ⟨w3.heap.size, 0, none⟩) 1 1) rfl (by kernel_rfl) (by kernel_rfl) ?_
      have hrow := hS4.row
      rw [HPK.out] at hrow
      refine plan.line_any 4 _ (fun q w5 => w5.ownsRow B 29 16 q (k + 1) (stV (P ++ [⟨s, ta, tc, la, lc⟩])) ∧ (w3.alloc (.cells #[.int .i64 s.op, .int .i64 s.fm, .int .i64 s.fd, .int .i64 s.pl, .int .i64 s.tt, .int .i64 s.a, .int .i64 s.b, .int .i64 s.f.id, .int .i64 s.f.kind, .int .i64 s.f.lo, .int .i64 s.f.hi, .int .i64 s.f.most, .int .i64 s.v.n, .string s.v.s, .slice ta s.t.length tc, .slice la s.l.length lc] 29)).grownBy w5 (Value.slice ua k uc).ownBlock) rfl (by kernel_rfl)
        (exec_push_st (L := P) (p := ⟨s, ta, tc, la, lc⟩) (g := w3.heap.size) rfl (by kernel_rfl) (by kernel_rfl) hrow (Block.new w3 29 [.int .i64 s.op, .int .i64 s.fm, .int .i64 s.fd, .int .i64 s.pl, .int .i64 s.tt, .int .i64 s.a, .int .i64 s.b, .int .i64 s.f.id, .int .i64 s.f.kind, .int .i64 s.f.lo, .int .i64 s.f.hi, .int .i64 s.f.most, .int .i64 s.v.n, .string s.v.s, .slice ta s.t.length tc, .slice la s.l.length lc]) (by omega) hS4.size) ?_
      rintro q w5 ⟨ho5, hg5⟩
      obtain ⟨qa, qc, rfl, _⟩ := ownsRow_slice ho5
      have hS6 := hS4.push (p := ⟨s, ta, tc, la, lc⟩) (q := qa) (qc := qc) HO4.out (by rw [HPK.out]; exact hg5) (by rw [HPK.out]; exact ho5)
      refine plan.line_same 5 _ (.slice qa (k + 1) qc) rfl (by kernel_rfl) (by kernel_rfl) ?_
      refine plan.line_done (by decide) ?_
      have HS6 := hid hS6
      clear hS6 ho5 hg5 hS4 hS3 hO3 hO4 hN3 hrow hps hpo hE3 hu3
      walk_nrm
      go_wp2
      exact ⟨⟨k + 1, by omega, by go_num, qa, qc, rfl, hid ⟨P ++ [⟨s, ta, tc, la, lc⟩], by simp [HPK.out], by rw [HT1.out, ← HPS.out, ← HPE.out]; simp [sps], by rw [HT2.out]; exact HS6.out⟩⟩, by simp [intOf]; omega⟩
    · obtain rfl : k = N := by omega
      have hbw : w.heap.size ≤ b := HBB.out
      have HBW := hid (show Below w.heap.size w wr from HB2.out.trans (hS.but.below HWB.out hbw))
      have HLL := hid hS
      have HPK := hid hPk
      have HPS := hid hPs
      have cE : Calls Try.prog 42 #[.pointer (some ⟨b, 0, none⟩)] wr (field.Gives (.int .i64 (eEnd (takeSs k e1).2 : Int)) wr) := (end_any b _ wr hS.eye).mono (by rintro e w' ⟨rfl, m, rfl⟩; exact ⟨rfl, below_drewN (Below.refl _ _) m⟩)
      unfold field.Gives at cE
      clear HS hS hPk hPs HLS
      by_cases hE : eEnd (takeSs k e1).2 = 0
      · rw [hE] at cE
        have HP2 := HP.out
        rw [if_neg (by rw [hE]; simp)] at HP2
        have HP2 := hid HP2
        have cR := fun w' (hb : Below wr.heap.size wr w') => allRight_any ua uc P w' (HLL.out.list.below hb) (by have := HPK.out; unfold maxLen; omega)
        rw [HPK.out, HPS.out] at cR
        unfold field.Gives at cR
        have hN0 : (((0 : Nat) : Int) == 0) = true := rfl
        clear HP hE
        by_cases hri : Rights (takeSs k e1).1
        · have HP3 : Hid (parsed xs = ((takeSs k e1).1, 0)) := hid (by rw [HP2.out, if_pos hri])
          simp only [decide_eq_true hri] at cR
          clear HP2 hri
          go_wp2_with (first
            | (go_at_call 42; ((with_reducible refine cE.mono ?_); rintro en w5 ⟨rfl, hb5⟩))
            | (go_at_call 32; ((with_reducible refine (cR _ hb5).mono ?_); rintro en w6 ⟨rfl, hb6⟩)))
          go_ret2
          refine ⟨ua, uc, P, by rw [HPK.out, HP3.out]; rfl, by rw [HP3.out]; exact HPS.out, (HLL.out.list.below hb5).below hb6, by rw [HPK.out]; exact hN40, (HBW.out.trans (hb5.mono HBW.out.size)).trans (hb6.mono (Nat.le_trans HBW.out.size hb5.size))⟩
        · have HP3 : Hid (parsed xs = ([], 2)) := hid (by rw [HP2.out, if_neg hri])
          simp only [decide_eq_false hri] at cR
          clear HP2 hri
          go_wp2_with (first
            | (go_at_call 42; ((with_reducible refine cE.mono ?_); rintro en w5 ⟨rfl, hb5⟩))
            | (go_at_call 32; ((with_reducible refine (cR _ hb5).mono ?_); rintro en w6 ⟨rfl, hb6⟩)))
          go_ret2
          exact parse_none HP3.out ((HBW.out.trans (hb5.mono HBW.out.size)).trans (hb6.mono (Nat.le_trans HBW.out.size hb5.size)))
      · have HP2 : Hid (parsed xs = ([], eEnd (takeSs k e1).2)) := hid (by rw [HP.out, if_pos hE])
        have hne : ((eEnd (takeSs k e1).2 : Int) == 0) = false := by rw [beq_eq_false_iff_ne]; omega
        have hne2 : ((eEnd (takeSs k e1).2 : Int) != 0) = true := by simp [hE]
        generalize eEnd (takeSs k e1).2 = E at *
        clear HP hE
        go_wp2_with (go_at_call 42; ((with_reducible refine cE.mono ?_); rintro en w5 ⟨rfl, hb5⟩))
        go_ret2
        exact parse_none HP2.out (HBW.out.trans (hb5.mono HBW.out.size))
end Go.Proofs.Ytpdnfiofjkbeiaa.step
/- Contract of the reference's groups: the number of the varint at the start of a row of bytes. No condition. -/
namespace Go.Proofs.Ytpdnfiofjkbeiaa.pen
open Go.RowKit Go.Proofs.Ytpdnfiofjkbeiaa.texts
set_option linter.unusedVariables false

set_option maxRecDepth 8000 in
theorem groups_any (a : Option Addr) (c : Nat) (xs : List Nat) (w : World) (hr : Reads .u8 w a xs.length xs) (hc : xs.length ≤ c) (hx : ∀ c ∈ xs, c < 256) (hl : xs.length ≤ 140737488355328) :
    Calls Try.prog 68 #[.slice a xs.length c] w (Quiet (grpV (grp 0 0 xs)) w) := by
  have HR := hid hr
  clear hr
  obtain ⟨G, hG⟩ : ∃ G, Hid (grp 0 0 xs = G) := ⟨_, rfl⟩
  rw [hG.out]
  have HD : Hid (grp 0 0 (xs.drop 0) = G) := hG.out
  go_enter Try.func68, Try.ntmps68
  go_wp2
  go_loopw [5, 6, 7] (fun x p i wr => ∃ k U P : Nat, k ≤ xs.length ∧ k ≤ 9 ∧ i = .int .i64 (k : Int) ∧ x = .int .u64 (U : Int) ∧ p = .int .u64 (P : Int) ∧ Hid (P = 2 ^ (7 * k)) ∧ U < P ∧ wr = w ∧ Hid (grp k U (xs.drop k) = G))
    (fun x p i _ => xs.length - (intOf i).toNat)
  case atStart => exact ⟨0, 0, 1, Nat.zero_le _, by omega, rfl, rfl, rfl, rfl, by omega, rfl, HD⟩
  case round =>
    obtain ⟨k, U, P, hkN, hk9, rfl, rfl, rfl, hP, hU, rfl, hg⟩ := hrel
    have hi10 : (k : Int) < 10 := by omega
    by_cases hlt : k < xs.length
    · have hi : (k : Int) < xs.length := by omega
      obtain ⟨g, off, rfl, hgb, hcell⟩ := HR.out.at hlt
      have hcl := hcell k hlt
      have h256 := getD_lt hx k
      have hg2 := hg.out
      rw [drop_next xs k hlt, grp_form] at hg2
      have HG := hid hg2
      obtain ⟨C, hC⟩ : ∃ C, Hid (xs.getD k 0 = C) := ⟨_, rfl⟩
      rw [hC.out] at hcl h256 HG
      clear hcell hg hg2 HR hC
      have p9 : (128 : Nat) ^ k = P := by rw [hP.out, show (128 : Nat) = 2 ^ 7 from rfl, ← Nat.pow_mul]
      rw [p9] at HG
      have hp63 : 2 ^ (7 * k) ≤ 2 ^ 63 := Nat.pow_le_pow_right (by omega) (by omega)
      rw [← hP.out] at hp63
      by_cases h9 : k = 9
      · have q1 : ((k : Int) == 9) = true := by rw [beq_iff_eq]; omega
        have q3 : (0 : Int) < k := by omega
        by_cases h1 : 1 < C
        · have q2 : (1 : Int) < C := by omega
          have HV : Hid (G = (0, 0, 4)) := by show _ = _; rw [← HG.out, if_pos ⟨h9, h1⟩]
          clear h9 h1 p9 hp63 HG hlt hU
          go_wp2
          go_ret3
          exact ⟨by rw [HV.out]; rfl, 0, rfl⟩
        · have q2 : ¬ (1 : Int) < C := by omega
          by_cases h0 : C = 0
          · have q4 : ((C : Int) == 0) = true := by rw [beq_iff_eq]; omega
            have HV : Hid (G = (0, 0, 4)) := by show _ = _; rw [← HG.out, if_neg (by omega), if_pos (by omega)]
            clear h9 h1 p9 hp63 HG hlt h0 hU
            go_wp2
            go_ret3
            exact ⟨by rw [HV.out]; rfl, 0, rfl⟩
          · have q4 : ((C : Int) == 0) = false := by rw [beq_eq_false_iff_ne]; omega
            have q5 : (C : Int) < 128 := by omega
            have HV : Hid (G = (U + C * P, k + 1, 0)) := by show _ = _; rw [← HG.out, if_neg (by omega), if_neg (by omega), if_pos (by omega)]
            obtain rfl : C = 1 := by omega
            have hUP : U + P < 18446744073709551616 := by omega
            rw [show ((1 : Nat) : Int) = 1 from rfl] at hcl
            clear h9 h1 p9 HG hlt h0 q4 h256 q2 q5
            go_wp2
            go_ret3
            exact ⟨by rw [HV.out, Nat.one_mul]; rfl, 0, rfl⟩
      · have q1 : ((k : Int) == 9) = false := by rw [beq_eq_false_iff_ne]; omega
        have hp56 : P ≤ 72057594037927936 := by rw [hP.out]; exact Nat.pow_le_pow_right (show 0 < 2 by omega) (show 7 * k ≤ 56 by omega)
        by_cases hB : 0 < k ∧ C = 0
        · have q3 : (0 : Int) < k := by omega
          have q4 : ((C : Int) == 0) = true := by rw [beq_iff_eq]; omega
          have HV : Hid (G = (0, 0, 4)) := by show _ = _; rw [← HG.out, if_neg (by omega), if_pos hB]
          clear h9 p9 hp63 HG hlt hU hB hp56
          go_wp2
          go_ret3
          exact ⟨by rw [HV.out]; rfl, 0, rfl⟩
        · by_cases h128 : C < 128
          · have q5 : (C : Int) < 128 := by omega
            have hm : C * P ≤ 128 * P := Nat.mul_le_mul_right _ (by omega)
            obtain ⟨Q, hQ⟩ : ∃ Q, C * P = Q := ⟨_, rfl⟩
            have w1 : (C : Int) * (P : Int) = (Q : Int) := by rw [← hQ]; simp
            have w2 : (C : Int) % 128 * (P : Int) = (Q : Int) := by rw [← w1, show (C : Int) % 128 = C by omega]
            have hQ9 : Q ≤ 9223372036854775808 := by omega
            have HV : Hid (G = (U + Q, k + 1, 0)) := by show _ = _; rw [← HG.out, if_neg (by omega), if_neg hB, if_pos h128, hQ]
            by_cases h0 : 0 < k
            · have q3 : (0 : Int) < k := by omega
              have q4 : ((C : Int) == 0) = false := by rw [beq_eq_false_iff_ne]; omega
              clear h9 p9 hp63 HG hlt hB h128 hm h0 hQ
              go_wp2
              go_ret3
              exact ⟨by rw [HV.out]; rfl, 0, rfl⟩
            · have q3 : ¬ (0 : Int) < k := by omega
              clear h9 p9 hp63 HG hlt hB h128 hm h0 hQ
              go_wp2
              go_ret3
              exact ⟨by rw [HV.out]; rfl, 0, rfl⟩
          · have q5 : ¬ (C : Int) < 128 := by omega
            have hm : (C - 128) * P ≤ 127 * P := Nat.mul_le_mul_right _ (by omega)
            obtain ⟨Q, hQ⟩ : ∃ Q, (C - 128) * P = Q := ⟨_, rfl⟩
            have w2 : (C : Int) % 128 * (P : Int) = (Q : Int) := by rw [← hQ, show (C : Int) % 128 = ((C - 128 : Nat) : Int) by omega]; simp
            have hQ9 : Q ≤ 127 * P := by omega
            have HV : Hid (grp (k + 1) (U + Q) (xs.drop (k + 1)) = G) := by show _ = _; rw [← HG.out, if_neg (by omega), if_neg hB, if_neg h128, hQ]
            have HP : Hid (P * 128 = 2 ^ (7 * (k + 1))) := by show _ = _; rw [hP.out, show 7 * (k + 1) = 7 * k + 7 by omega, Nat.pow_add]
            have HU' : Hid (U + Q < P * 128) := by show _ < _; omega
            have q4 : ((C : Int) == 0) = false := by rw [beq_eq_false_iff_ne]; omega
            have HK : Hid (k + 1 ≤ xs.length ∧ k + 1 ≤ 9) := ⟨by omega, by omega⟩
            by_cases h0 : 0 < k
            · have q3 : (0 : Int) < k := by omega
              clear h9 p9 hp63 HG hB h128 hm h0 hQ
              go_wp2
              exact ⟨⟨k + 1, U + Q, P * 128, HK.out.1, HK.out.2, by go_num, by go_num, by go_num, HP, HU'.out, trivial, HV⟩, by simp [intOf]; omega⟩
            · have q3 : ¬ (0 : Int) < k := by omega
              clear h9 p9 hp63 HG hB h128 hm h0 hQ
              go_wp2
              exact ⟨⟨k + 1, U + Q, P * 128, HK.out.1, HK.out.2, by go_num, by go_num, by go_num, HP, HU'.out, trivial, HV⟩, by simp [intOf]; omega⟩
    · have hi : ¬ (k : Int) < xs.length := by omega
      have HV : Hid (G = (0, 0, 5)) := by
        have := hg.out
        rw [List.drop_of_length_le (by omega)] at this
        exact this.symm
      clear hg
      go_wp2
      go_ret3
      exact ⟨by rw [HV.out]; rfl, 0, rfl⟩
end Go.Proofs.Ytpdnfiofjkbeiaa.pen
/- Contract of the reference's eye: End. No condition. -/
namespace Go.Proofs.Ytpdnfiofjkbeiaa.pen
open Go.RowKit Go.Proofs.Ytpdnfiofjkbeiaa.texts
set_option linter.unusedVariables false

theorem Stand.tookTo {t : TypeId} {b : Nat} {r : List Nat} {w : World} {a : Option Addr} {c : Nat} (h : Stand t b r 0 w a c) (n : Nat) (hn : n ≤ r.length) :
    Took t b (r.take n) (r.drop n, 0) w (.returned (.slice (shift a 0 c) n c)) (w.setCell ⟨b, 0, none⟩ (.slice (shift a n c) (r.length - n) (c - n))) :=
  h.took n hn c (Nat.le_trans hn h.room) 0 w rfl
theorem refEnd_any (b : Nat) (s : Sight) (w : World) (h : EyeAt 79 b s w) : Calls Try.prog 45 #[.pointer (some ⟨b, 0, none⟩)] w (Quiet (.int .i64 (eEnd s : Int)) w) := by
  obtain ⟨r, z⟩ := s
  obtain ⟨a, c, st⟩ := h.stand
  have c1 := st.rest
  have c2 := st.err
  have hlen := st.len
  clear h st
  by_cases hz : z = 0
  · have hi : ((z : Int) == 0) = true := by rw [hz]; rfl
    by_cases hl : 0 < r.length
    · have hj : (0 : Int) < r.length := by omega
      rw [show eEnd (r, z) = 6 from if_pos ⟨hz, hl⟩]
      clear hz hl
      go_enter Try.func45, Try.ntmps45
      go_wp2
      go_ret
      exact ⟨rfl, 0, rfl⟩
    · have hj : ¬ (0 : Int) < r.length := by omega
      rw [show eEnd (r, z) = z from if_neg (fun h => hl h.2)]
      clear hz hl
      go_enter Try.func45, Try.ntmps45
      go_wp2
      go_ret
      exact ⟨rfl, 0, rfl⟩
  · have hi : ((z : Int) == 0) = false := by rw [beq_eq_false_iff_ne]; omega
    rw [show eEnd (r, z) = z from if_neg (fun h => hz h.1)]
    clear hz
    go_enter Try.func45, Try.ntmps45
    go_wp2
    go_ret
    exact ⟨rfl, 0, rfl⟩
end Go.Proofs.Ytpdnfiofjkbeiaa.pen
/- Contracts of the reference's eye: Count and Num. No condition. -/
namespace Go.Proofs.Ytpdnfiofjkbeiaa.pen
open Go.RowKit Go.Proofs.Ytpdnfiofjkbeiaa.texts
set_option linter.unusedVariables false

set_option maxRecDepth 20000 in
theorem refSee_any (b : Nat) (s : Sight) (w : World) (h : EyeAt 79 b s w) (most : Int) (h1 : -9223372036854775808 ≤ most) (h2 : most ≤ 9223372036854775807) :
    Calls Try.prog 43 #[.pointer (some ⟨b, 0, none⟩), .int .i64 most] w (Saw 79 b (.int .i64 ((eCount most s).1 : Int)) (eCount most s).2 w) := by
  obtain ⟨r, z⟩ := s
  have HE := hid h
  obtain ⟨a, c, st⟩ := h.stand
  clear h
  unfold eCount eVar
  simp only []
  have d0 := st.rest
  have d1 := st.err
  have f0 := st.block.frozen 0
  have f1 := st.block.frozen 1
  have hlen := st.len
  by_cases hz : z = 0
  · subst hz
    rw [show ((0 : Nat) : Int) = 0 from rfl] at d1
    rw [if_neg (by simp)]
    have c1 : Calls Try.prog 68 #[.slice a r.length c] w (Quiet (grpV (grp 0 0 r)) w) := groups_any a c r _ st.reads st.room st.small st.len
    have d0' : ∀ m, (w.drewN m).cell? ⟨b, 0, none⟩ = some (.slice a r.length c) := fun m => (st.drewN m).rest
    have f0' : ∀ m, (w.drewN m).frozen? ⟨b, 0, none⟩ = false := fun m => (st.drewN m).block.frozen 0
    have d1' : ∀ m, (w.drewN m).cell? ⟨b, 1, none⟩ = some (.int .i64 0) := fun m => (st.drewN m).err
    have f1' : ∀ m, (w.drewN m).frozen? ⟨b, 1, none⟩ = false := fun m => (st.drewN m).block.frozen 1
    obtain ⟨g1, g2, g3, g4⟩ := grp_ok0 r st.small
    unfold grpV at c1
    have HGN := hid g2
    obtain ⟨V, hV⟩ : ∃ V, Hid ((grp 0 0 r).1 = V) := ⟨_, rfl⟩
    obtain ⟨N, hN⟩ : ∃ N, Hid ((grp 0 0 r).2.1 = N) := ⟨_, rfl⟩
    obtain ⟨E, hE⟩ : ∃ E, Hid ((grp 0 0 r).2.2 = E) := ⟨_, rfl⟩
    simp only [hV.out, hN.out, hE.out] at c1 g1 g3 g4 HGN ⊢
    have hF : Hid (∀ m z, Saw 79 b (.int .i64 0) (r, z) w (.returned (.int .i64 0)) ((w.drewN m).setCell ⟨b, 1, none⟩ (.int .i64 (z : Int)))) := fun m z => by
      have := (HE.out.later (below_drewN (Below.refl _ _) m)).fail z
      exact ⟨rfl, this.1, this.2⟩
    have HS := hid st
    clear st g2
    by_cases he : E = 0
    · subst he
      rw [if_neg (by simp)]
      rw [show ((0 : Nat) : Int) = 0 from rfl] at c1
      by_cases h3 : 9223372036854775807 < V
      · rw [if_pos h3]
        have q1 : (9223372036854775808 : Int) ≤ V := by omega
        go_enter Try.func43, Try.ntmps43
        go_wp2_with (go_at_call 68; (with_reducible refine c1.mono ?_); clear c1; rintro e w' ⟨rfl, m1, rfl⟩)
        go_ret
        exact hF.out _ 4
      · rw [if_neg h3]
        have q1 : ¬ (9223372036854775808 : Int) ≤ V := by omega
        have q1d : decide ((9223372036854775808 : Int) ≤ V) = false := decide_eq_false q1
        by_cases h4 : (max most 0).toNat < V
        · rw [if_pos h4]
          have q2 : max most 0 < (V : Int) := by omega
          by_cases h5 : 0 ≤ most
          · have q3 : most < (V : Int) := by omega
            have q3d : decide (most < (V : Int)) = true := decide_eq_true q3
            have em : ∀ ts t W, (Builtin.max_ ts t #[.int .i64 most, .int .i64 0]).run Try.prog W = .ok (.int .i64 most) W := fun ts t W => by rw [run_max_int2, if_neg (by omega)]
            clear q2 h3 h4
            go_enter Try.func43, Try.ntmps43
            go_wp2_with (go_at_call 68; (with_reducible refine c1.mono ?_); clear c1; rintro e w' ⟨rfl, m1, rfl⟩)
            go_ret
            exact hF.out _ 7
          · have q3 : (0 : Int) < (V : Int) := by omega
            have q3d : decide ((0 : Int) < (V : Int)) = true := decide_eq_true q3
            have q3n : 0 < V := by omega
            have q3m : decide (0 < V) = true := decide_eq_true q3n
            have em : ∀ ts t W, (Builtin.max_ ts t #[.int .i64 most, .int .i64 0]).run Try.prog W = .ok (.int .i64 0) W := fun ts t W => by rw [run_max_int2, if_pos (by omega)]
            have q4 : most < 0 := by omega
            clear q2 h3 h4
            go_enter Try.func43, Try.ntmps43
            go_wp2_with (go_at_call 68; (with_reducible refine c1.mono ?_); clear c1; rintro e w' ⟨rfl, m1, rfl⟩)
            go_ret
            exact hF.out _ 7
        · rw [if_neg h4]
          have hnl : N ≤ r.length := by have := HGN.out rfl; omega
          have e2 := fun W => cut_from W a r.length c N hnl
          have HC := hid (fun m => (HS.out.drewN m).cut N hnl)
          obtain ⟨A2, hA2⟩ : ∃ A, Hid (shift a N c = A) := ⟨_, rfl⟩
          rw [hA2.out] at e2 HC
          by_cases h5 : 0 ≤ most
          · have q3 : ¬ most < (V : Int) := by omega
            have q3d : decide (most < (V : Int)) = false := decide_eq_false q3
            have em : ∀ ts t W, (Builtin.max_ ts t #[.int .i64 most, .int .i64 0]).run Try.prog W = .ok (.int .i64 most) W := fun ts t W => by rw [run_max_int2, if_neg (by omega)]
            clear h3 h4
            go_enter Try.func43, Try.ntmps43
            go_wp2_with (go_at_call 68; (with_reducible refine c1.mono ?_); clear c1; rintro e w' ⟨rfl, m1, rfl⟩)
            go_ret
            exact ⟨rfl, (HC.out m1).1, (HC.out m1).2⟩
          · have q3 : ¬ (0 : Int) < (V : Int) := by omega
            have q3d : decide ((0 : Int) < (V : Int)) = false := decide_eq_false q3
            have q3n : ¬ 0 < V := by omega
            have q3m : decide (0 < V) = false := decide_eq_false q3n
            have em : ∀ ts t W, (Builtin.max_ ts t #[.int .i64 most, .int .i64 0]).run Try.prog W = .ok (.int .i64 0) W := fun ts t W => by rw [run_max_int2, if_pos (by omega)]
            have q4 : most < 0 := by omega
            clear h3 h4
            go_enter Try.func43, Try.ntmps43
            go_wp2_with (go_at_call 68; (with_reducible refine c1.mono ?_); clear c1; rintro e w' ⟨rfl, m1, rfl⟩)
            go_ret
            exact ⟨rfl, (HC.out m1).1, (HC.out m1).2⟩
    · rw [if_pos he]
      have q0 : ((E : Int) != 0) = true := by rw [bne_iff_ne]; omega
      have q1 : ((E : Int) == 0) = false := by rw [beq_eq_false_iff_ne]; omega
      clear he
      go_enter Try.func43, Try.ntmps43
      go_wp2_with (go_at_call 68; (with_reducible refine c1.mono ?_); clear c1; rintro e w' ⟨rfl, m1, rfl⟩)
      go_ret
      exact hF.out _ E
  · rw [if_pos hz]
    have hi : ((z : Int) != 0) = true := by rw [bne_iff_ne]; omega
    clear st hz
    go_enter Try.func43, Try.ntmps43
    go_wp2
    go_ret
    exact ⟨rfl, HE.out, But.refl _ _ _⟩
set_option maxRecDepth 8000 in
theorem refInt_any (b : Nat) (s : Sight) (w : World) (h : EyeAt 79 b s w) :
    Calls Try.prog 69 #[.pointer (some ⟨b, 0, none⟩)] w (Saw 79 b (.int .i64 (eInt s).1) (eInt s).2 w) := by
  obtain ⟨r, z⟩ := s
  have HE := hid h
  obtain ⟨a, c, st⟩ := h.stand
  clear h
  unfold eInt eVar
  simp only []
  have d0 := st.rest
  have d1 := st.err
  have f0 := st.block.frozen 0
  have f1 := st.block.frozen 1
  have hlen := st.len
  by_cases hz : z = 0
  · subst hz
    rw [show ((0 : Nat) : Int) = 0 from rfl] at d1
    rw [if_neg (by simp)]
    have c1 : Calls Try.prog 68 #[.slice a r.length c] w (Quiet (grpV (grp 0 0 r)) w) := groups_any a c r _ st.reads st.room st.small st.len
    have d0' : ∀ m, (w.drewN m).cell? ⟨b, 0, none⟩ = some (.slice a r.length c) := fun m => (st.drewN m).rest
    have f0' : ∀ m, (w.drewN m).frozen? ⟨b, 0, none⟩ = false := fun m => (st.drewN m).block.frozen 0
    have d1' : ∀ m, (w.drewN m).cell? ⟨b, 1, none⟩ = some (.int .i64 0) := fun m => (st.drewN m).err
    have f1' : ∀ m, (w.drewN m).frozen? ⟨b, 1, none⟩ = false := fun m => (st.drewN m).block.frozen 1
    obtain ⟨g1, g2, g3, g4⟩ := grp_ok0 r st.small
    unfold grpV at c1
    have HGN := hid g2
    obtain ⟨V, hV⟩ : ∃ V, Hid ((grp 0 0 r).1 = V) := ⟨_, rfl⟩
    obtain ⟨N, hN⟩ : ∃ N, Hid ((grp 0 0 r).2.1 = N) := ⟨_, rfl⟩
    obtain ⟨E, hE⟩ : ∃ E, Hid ((grp 0 0 r).2.2 = E) := ⟨_, rfl⟩
    simp only [hV.out, hN.out, hE.out] at c1 g1 g3 g4 HGN ⊢
    have hF : Hid (∀ m z, Saw 79 b (.int .i64 0) (r, z) w (.returned (.int .i64 0)) ((w.drewN m).setCell ⟨b, 1, none⟩ (.int .i64 (z : Int)))) := fun m z => by
      have := (HE.out.later (below_drewN (Below.refl _ _) m)).fail z
      exact ⟨rfl, this.1, this.2⟩
    have HS := hid st
    clear st g2
    by_cases he : E = 0
    · subst he
      rw [if_neg (by simp), if_neg (by omega), if_neg (by omega)]
      rw [show ((0 : Nat) : Int) = 0 from rfl] at c1
      have hnl : N ≤ r.length := by have := HGN.out rfl; omega
      have e2 := fun W => cut_from W a r.length c N hnl
      have HC := hid (fun m => (HS.out.drewN m).cut N hnl)
      obtain ⟨A2, hA2⟩ : ∃ A, Hid (shift a N c = A) := ⟨_, rfl⟩
      rw [hA2.out] at e2 HC
      by_cases h0 : V % 2 = 1
      · have hz : unzig V = -((V : Int) / 2) - 1 := by unfold unzig; rw [if_pos h0]; omega
        have q : ((V : Int) % 2 == 1) = true := by rw [beq_iff_eq]; omega
        simp only [hz]
        clear hz h0
        go_enter Try.func69, Try.ntmps69
        go_wp2_with (go_at_call 68; (with_reducible refine c1.mono ?_); clear c1; rintro e w' ⟨rfl, m1, rfl⟩)
        go_ret
        exact ⟨rfl, (HC.out m1).1, (HC.out m1).2⟩
      · have hz : unzig V = (V : Int) / 2 := by unfold unzig; rw [if_neg h0]; omega
        have q : ((V : Int) % 2 == 1) = false := by rw [beq_eq_false_iff_ne]; omega
        simp only [hz]
        clear hz h0
        go_enter Try.func69, Try.ntmps69
        go_wp2_with (go_at_call 68; (with_reducible refine c1.mono ?_); clear c1; rintro e w' ⟨rfl, m1, rfl⟩)
        go_ret
        exact ⟨rfl, (HC.out m1).1, (HC.out m1).2⟩
    · rw [if_pos he]
      have q0 : ((E : Int) != 0) = true := by rw [bne_iff_ne]; omega
      simp only [show unzig 0 = 0 from rfl]
      clear he
      go_enter Try.func69, Try.ntmps69
      go_wp2_with (go_at_call 68; (with_reducible refine c1.mono ?_); clear c1; rintro e w' ⟨rfl, m1, rfl⟩)
      go_ret
      exact hF.out _ E
  · rw [if_pos hz]
    have hi : ((z : Int) != 0) = true := by rw [bne_iff_ne]; omega
    simp only [show unzig 0 = 0 from rfl]
    clear st hz
    go_enter Try.func69, Try.ntmps69
    go_wp2
    go_ret
    exact ⟨rfl, HE.out, But.refl _ _ _⟩

end Go.Proofs.Ytpdnfiofjkbeiaa.pen
/- Contract of the reference of layer 15 (step): takeField. No condition. -/
namespace Go.Proofs.Ytpdnfiofjkbeiaa.step
open Go.RowKit Go.Proofs.Ytpdnfiofjkbeiaa.pen
open Go.Proofs.Ytpdnfiofjkbeiaa.schema (eCount_le fd5_info blk_but but_store take_end eye_past)
set_option linter.unusedVariables false

/-- the variable at F holds cs; the eye at b stands at e; what lay before F is as in w0 but for the eye -/
structure FA (b F : Nat) (w0 : World) (cs : List Value) (e : Sight) (wr : World) : Prop where
  f : Block wr F 23 cs
  eye : EyeAt 79 b e wr
  but : But F b w0 wr
  low : b < F
theorem FA.call {b F : Nat} {w0 w w' : World} {cs : List Value} {e e' : Sight} (h : FA b F w0 cs e w) (hE : EyeAt 79 b e' w') (hu : But w.heap.size b w w') : FA b F w0 cs e' w' :=
  ⟨blk_but h.f hu (Nat.ne_of_gt h.low), hE, h.but.trans (hu.mono (Nat.le_of_lt h.f.lt)), h.low⟩
theorem FA.put {b F : Nat} {w0 w : World} {cs : List Value} {e : Sight} (h : FA b F w0 cs e w) (j : Nat) (v : Value) : FA b F w0 (cs.set j v) e (w.setCell ⟨F, j, none⟩ v) :=
  ⟨h.f.setCell j v, eye_past h.eye h.low ((But.refl _ F w).setCell j v), but_store h.but (Nat.le_refl _) j v, h.low⟩
theorem FA.start {b : Nat} {w1 : World} {e : Sight} (hE : EyeAt 79 b e w1) (cs : List Value) : FA b w1.heap.size w1 cs e (w1.alloc (.cells cs.toArray 23)) :=
  ⟨Block.new w1 23 cs, hE.later (field.newB _ _), Below.but (field.newB _ _), hE.lt⟩
set_option maxRecDepth 20000 in
set_option maxHeartbeats 1600000 in
theorem refTakeField_any (b : Nat) (s : Sight) (w : World) (h : EyeAt 79 b s w) : Calls Try.prog 70 #[.pointer (some ⟨b, 0, none⟩)] w (Saw 79 b ((takeA s).1.val) (takeA s).2 w) := by
  obtain ⟨A, s1, hA⟩ : ∃ A s1, eCount 255 s = (A, s1) := ⟨_, _, rfl⟩
  obtain ⟨K, s2, hK⟩ : ∃ K s2, eCount 4 s1 = (K, s2) := ⟨_, _, rfl⟩
  obtain ⟨lo, s3, hl⟩ : ∃ A s, eInt s2 = (A, s) := ⟨_, _, rfl⟩
  obtain ⟨hi, s4, hg⟩ : ∃ A s, eInt s3 = (A, s) := ⟨_, _, rfl⟩
  obtain ⟨M, s5, hM⟩ : ∃ A s, eCount 1000 s4 = (A, s) := ⟨_, _, rfl⟩
  have hT : takeA s = (⟨A, K, lo, hi, M⟩, s5) := by unfold takeA; simp only [hA, hK, hl, hg, hM]
  rw [hT]
  have hlt := h.lt
  have hb0 : Below w.heap.size w (w.alloc (.cells #[.int .i64 0, .int .i64 0, .int .i64 0, .int .i64 0, .int .i64 0] 23)) := (Below.refl _ _).alloc (Nat.le_refl _) _
  have c1 := refSee_any b s _ (h.later hb0) 255 (by omega) (by omega)
  have HR0 := hid (Block.new w 23 [.int .i64 0, .int .i64 0, .int .i64 0, .int .i64 0, .int .i64 0])
  have c2 := fun w' hE => refSee_any b s1 w' hE 4 (by omega) (by omega)
  have c3 := fun w' hE => refInt_any b s2 w' hE
  have c4 := fun w' hE => refInt_any b s3 w' hE
  have c5 := fun w' hE => refSee_any b s4 w' hE 1000 (by omega) (by omega)
  rw [hA] at c1
  rw [hK] at c2
  rw [hl] at c3
  rw [hg] at c4
  rw [hM] at c5
  have HB0 := hid hb0
  clear hT hA hK hl hg hM h hb0
  simp only [field.Fd.val] at c1 c2 c3 c4 c5 ⊢
  unfold Saw at c1 c2 c3 c4 c5 ⊢
  have hne : w.heap.size ≠ b := by omega
  go_enter Try.func70, Try.ntmps70
  go_wp2_with (first
    | (go_at_call 43; ((with_reducible refine c1.mono ?_); clear c1; rintro e w1 ⟨rfl, hE1, hu1⟩; have HR1 := hid (blk_but HR0.out hu1 hne); have HU1 := hid hu1; have HF1 := hid (FA.start hE1 [.int .i64 (A : Int), .int .i64 0, .int .i64 0, .int .i64 0, .int .i64 0]); clear hE1 hu1))
    | (go_at_call 43; ((with_reducible refine (c2 _ HF1.out.eye).mono ?_); clear c2; rintro e w2 ⟨rfl, hE2, hu2⟩; have hF2 := HF1.out.call hE2 hu2; have hf2 := hF2.f; have y1 := hf2.cell 1; have q1 := hf2.frozen 1; have HF2 := hid (hF2.put 1 (.int .i64 (K : Int))); clear hF2 hf2 hE2 hu2))
    | (go_at_call 69; ((with_reducible refine (c3 _ HF2.out.eye).mono ?_); clear c3; rintro e w3 ⟨rfl, hE3, hu3⟩; have hF3 := HF2.out.call hE3 hu3; have hf3 := hF3.f; have y2 := hf3.cell 2; have q2 := hf3.frozen 2; have HF3 := hid (hF3.put 2 (.int .i64 lo)); clear hF3 hf3 hE3 hu3))
    | (go_at_call 69; ((with_reducible refine (c4 _ HF3.out.eye).mono ?_); clear c4; rintro e w4 ⟨rfl, hE4, hu4⟩; have hF4 := HF3.out.call hE4 hu4; have hf4 := hF4.f; have y3 := hf4.cell 3; have q3 := hf4.frozen 3; have HF4 := hid (hF4.put 3 (.int .i64 hi)); clear hF4 hf4 hE4 hu4))
    | (go_at_call 43; ((with_reducible refine (c5 _ HF4.out.eye).mono ?_); clear c5; rintro e w5 ⟨rfl, hE5, hu5⟩; have hF5 := HF4.out.call hE5 hu5; have hf5 := hF5.f; have y4 := hf5.cell 4; have q4 := hf5.frozen 4; have HF5 := hid (hF5.put 4 (.int .i64 (M : Int))); have hR5 := HR1.out.but hF5.but HR1.out.lt hne; have y0 := hf5.cell 0; have y1 := hf5.cell 1; have y2 := hf5.cell 2; have y3 := hf5.cell 3; have x0 := hR5.cell 0; have x1 := hR5.cell 1; have x2 := hR5.cell 2; have x3 := hR5.cell 3; have x4 := hR5.cell 4; have p0 := hR5.frozen 0; have p1 := hR5.frozen 1; have p2 := hR5.frozen 2; have p3 := hR5.frozen 3; have p4 := hR5.frozen 4; have hRF := HR1.out.lt; have hRF2 := Nat.ne_of_lt hRF; clear hF5 hf5 hE5 hu5 hR5)))
  have hb5 := ((Below.but (g := b) HB0.out).trans (HU1.out.mono HB0.out.size)).trans (HF5.out.but.mono (Nat.le_of_lt HR1.out.lt))
  obtain ⟨k1, k2, k3⟩ := take_end (w := w) ⟨A, K, lo, hi, M⟩ HF5.out.eye (HR1.out.but HF5.out.but HR1.out.lt hne) hne (Nat.le_refl _) hb5
  exact bodyPost_ret (results_cell (b := w.heap.size) (o := 0) rfl rfl k2.whole Try.underlying23 rfl (fd5_info _ _ _ _ _)) rfl ⟨rfl, k1, k3⟩
end Go.Proofs.Ytpdnfiofjkbeiaa.step
/- Contract of the reference's eye: Take. No condition. -/
namespace Go.Proofs.Ytpdnfiofjkbeiaa.pen
open Go.RowKit Go.Proofs.Ytpdnfiofjkbeiaa.texts
set_option linter.unusedVariables false
theorem take_any (b : Nat) (s : Sight) (w : World) (h : EyeAt 79 b s w) (n : Nat) (hn : n ≤ 9223372036854775807) :
    Calls Try.prog 87 #[.pointer (some ⟨b, 0, none⟩), .int .i64 (n : Int)] w (Took 79 b (eNext n s).1 (eNext n s).2 w) := by
  obtain ⟨r, z⟩ := s
  have HE := hid h
  obtain ⟨a, c, st⟩ := h.stand
  clear h
  have c1 := st.rest
  have c2 := st.err
  have f0 := st.block.frozen 0
  have f1 := st.block.frozen 1
  have hlen := st.len
  by_cases hz : z = 0
  · subst hz
    rw [show ((0 : Nat) : Int) = 0 from rfl] at c2
    by_cases hs : r.length < n
    · rw [eNext_short n r hs]
      have hi : (r.length : Int) < n := by omega
      have hf := hid (HE.out.fail 5)
      clear st hs
      go_enter Try.func87, Try.ntmps87
      go_wp2
      go_ret
      exact ⟨none, 0, rfl, Nat.le_refl _, Reads.nil, hf.out.1, hf.out.2⟩
    · rw [eNext_take n r (by omega)]
      have hi : ¬ (r.length : Int) < n := by omega
      have hroom := st.room
      have e1 := fun W => cut_to W a r.length c n (by omega)
      have e2 := fun W => cut_from W a r.length c n (by omega)
      have HT := hid (st.tookTo n (by omega))
      obtain ⟨A1, hA1⟩ : ∃ A, Hid (shift a 0 c = A) := ⟨_, rfl⟩
      obtain ⟨A2, hA2⟩ : ∃ A, Hid (shift a n c = A) := ⟨_, rfl⟩
      rw [hA1.out] at e1 HT
      rw [hA2.out] at e2 HT
      clear st hs
      go_enter Try.func87, Try.ntmps87
      go_wp2
      go_ret
      exact HT.out
  · rw [eNext_bad n r z hz]
    have hi : ((z : Int) != 0) = true := by rw [bne_iff_ne]; omega
    have hi2 : ((z : Int) == 0) = false := by rw [beq_eq_false_iff_ne]; omega
    clear st hz
    go_enter Try.func87, Try.ntmps87
    go_wp2
    go_ret
    exact ⟨none, 0, rfl, Nat.le_refl _, Reads.nil, HE.out, But.refl _ _ _⟩
end Go.Proofs.Ytpdnfiofjkbeiaa.pen
/- Contracts of the reference's eye: Count, Num and Text. No condition. -/
namespace Go.Proofs.Ytpdnfiofjkbeiaa.pen
open Go.RowKit Go.Proofs.Ytpdnfiofjkbeiaa.texts
set_option linter.unusedVariables false
set_option maxRecDepth 8000 in
theorem refSay_any (b : Nat) (s : Sight) (w : World) (h : EyeAt 79 b s w) (most : Int) (h1 : -9223372036854775808 ≤ most) (h2 : most ≤ 9223372036854775807) :
    Calls Try.prog 71 #[.pointer (some ⟨b, 0, none⟩), .int .i64 most] w (Saw 79 b (.string (strOf (eText most s).1)) (eText most s).2 w) := by
  have c0 := refSee_any b s w h most h1 h2
  have hle := (eVar_le 9223372036854775807 (max most 0).toNat s).1
  have hle' : (eCount most s).1 ≤ 9223372036854775807 := hle
  obtain ⟨r, z⟩ := s
  obtain ⟨a, c, st⟩ := h.stand
  unfold eText
  obtain ⟨x, hx⟩ : ∃ x, Hid ((eCount most (r, z)).1 = x) := ⟨_, rfl⟩
  obtain ⟨s1, hs1⟩ : ∃ s', Hid ((eCount most (r, z)).2 = s') := ⟨_, rfl⟩
  simp only [hx.out, hs1.out] at c0 hle' ⊢
  have c1 : Hid (∀ w1, EyeAt 79 b s1 w1 → Calls Try.prog 87 #[.pointer (some ⟨b, 0, none⟩), .int .i64 (x : Int)] w1 (Took 79 b (eNext x s1).1 (eNext x s1).2 w1)) := fun w1 hE => take_any b s1 w1 hE x hle'
  obtain ⟨t, ht⟩ : ∃ t, Hid ((eNext x s1).1 = t) := ⟨_, rfl⟩
  obtain ⟨⟨r2, z2⟩, hs2⟩ : ∃ s', Hid ((eNext x s1).2 = s') := ⟨_, rfl⟩
  simp only [ht.out, hs2.out] at c1 ⊢
  obtain ⟨T, hT⟩ : ∃ T, Hid (strOf t = T) := ⟨_, rfl⟩
  rw [hT.out]
  have d0 := st.rest
  have ST := hid st
  clear h st hx hs1 ht hs2 hle hle'
  by_cases hz : z2 = 0
  · rw [if_neg (by simpa using hz)]
    subst hz
    go_enter Try.func71, Try.ntmps71
    go_wp2_with (first
      | (go_at_call 43; (with_reducible refine c0.mono ?_); clear c0; rintro e w1 ⟨rfl, hE1, hB1⟩)
      | (go_at_call 87; (with_reducible refine (c1.out _ hE1).mono ?_); clear c1 hE1; rintro e w2 ⟨a', c', rfl, _, hrd, hE2, hB2⟩; have hcv := Reads.str (P := Try.prog) hrd 35 5 Try.underlying35 Try.underlying5 c' 9 Try.underlying9; rw [hT.out] at hcv; obtain ⟨a2, k2, st2⟩ := hE2.stand; have e2 := st2.err; clear st2; have HRD := hid hrd; have HE2 := hid hE2; have HB := hid (And.intro hB1 hB2); clear hrd hE2 hB1 hB2))
    go_ret
    exact ⟨rfl, HE2.out, HB.out.1.trans (HB.out.2.mono HB.out.1.2.2.2.1)⟩
  · rw [if_pos hz]
    have q : ((z2 : Int) != 0) = true := by rw [bne_iff_ne]; omega
    clear hz
    go_enter Try.func71, Try.ntmps71
    go_wp2_with (first
      | (go_at_call 43; (with_reducible refine c0.mono ?_); clear c0; rintro e w1 ⟨rfl, hE1, hB1⟩)
      | (go_at_call 87; (with_reducible refine (c1.out _ hE1).mono ?_); clear c1 hE1; rintro e w2 ⟨a', c', rfl, _, hrd, hE2, hB2⟩; have hcv := Reads.str (P := Try.prog) hrd 35 5 Try.underlying35 Try.underlying5 c' 9 Try.underlying9; rw [hT.out] at hcv; obtain ⟨a2, k2, st2⟩ := hE2.stand; have e2 := st2.err; have e3 := st2.rest; have e4 := st2.block.frozen 0; have ST2 := hid st2; clear st2; have HRD := hid hrd; have HE2 := hid hE2; have HB := hid (And.intro hB1 hB2); clear hrd hE2 hB1 hB2))
    go_ret
    have hB : But w.heap.size b w w2 := HB.out.1.trans (HB.out.2.mono HB.out.1.2.2.2.1)
    have hB' := hB.setCell 0 (.slice a r.length c)
    have s0 := ST.out
    exact ⟨rfl, ⟨s0.small, s0.len, a, c, ST2.out.block.setCell 0 _, s0.room, reads_low s0.reads hB' s0.off, s0.off⟩, hB'⟩
end Go.Proofs.Ytpdnfiofjkbeiaa.pen
