/- Contracts and lemmas that the claims of this seat share: TypingCloned, InsertM, DeleteM. Each says its own conditions. -/
import Derived.Test.YtiajpjkkopdmgaaCmF
import Derived.Laws.OwnMore
import Derived.Deep.RegionHeld3
import Derived.Conc.WalkWords
import Derived.Test.YtiajpjkkopdmgaaCmA
import Derived.Test.YtiajpjkkopdmgaaCmE
import Derived.Test.YtiajpjkkopdmgaaCmB

namespace Go.Proofs.Ytiajpjkkopdmgaa.typing
open Go.RowKit Go.Proofs.Ytiajpjkkopdmgaa.schema
open Go.Proofs.Ytiajpjkkopdmgaa.field (Gives newB gives_from)
set_option linter.unusedVariables false

theorem fmV_set : ∀ (L : List Fm) (k : Nat) (p q : Fm) (v : Value), L[k]? = some p → q.id = p.id → v = .slice q.f q.fL.length q.fCap → (fmV L).set (k * 2 + 1) v = fmV (L.set k q)
  | [], k, p, q, v, h, _, _ => by simp at h
  | r :: L, 0, p, q, v, h, hi, hv => by
    simp at h; subst h
    subst hv
    simp [fmV, fmC, hi]
  | r :: L, k + 1, p, q, v, h, hi, hv => by
    have := fmV_set L k p q v (by simpa using h) hi hv
    rw [List.set_cons_succ]
    unfold fmV
    rw [← this, show (k + 1) * 2 + 1 = (fmC r).length + (k * 2 + 1) by simp [fmC]; omega, List.set_append_right _ _ (by omega)]
    simp
/-- forms whose fields are short and lie in memory -/
def Small (w : World) (F : List Fm) : Prop := F.length ≤ 40 ∧ ∀ p ∈ F, field.Fds w p.f p.fL ∧ p.fL.length ≤ 40
theorem Small.below {w w' : World} {F : List Fm} (h : Small w F) (hb : Below w.heap.size w w') : Small w' F := ⟨h.1, fun p hp => ⟨(h.2 p hp).1.below hb, (h.2 p hp).2⟩⟩
/-- while the forms are cloned: the variable at B, the result's behind it; the row u; the first k forms have rows of their own -/
structure Cl (B : Nat) (v : Int) (P : List schema.Form) (n : Nat) (u : Value) (k : Nat) (G : List Fm) (w0 wr : World) : Prop where
  box : Block wr B 24 [.int .i64 v, u]
  res : Block wr (B + 1) 24 [.int .i64 0, .slice none 0 0]
  row : wr.ownsRow (B + 2) 52 2 u n (fmV G)
  each : ∀ i p, i < k → G[i]? = some p → OwnM B wr p
  rest : ∀ i p, k ≤ i → G[i]? = some p → field.Fds w0 p.f p.fL ∧ p.fL.length ≤ 40
  eq : forms G = P
  below : Below B w0 wr
theorem set_forms {G : List Fm} {k : Nat} {p q : Fm} (h : G[k]? = some p) (hq : q.p = p.p) : forms (G.set k q) = forms G := by
  unfold forms
  rw [List.map_set, hq]
  apply List.ext_getElem?
  intro i
  rw [List.getElem?_set]
  split
  · rename_i e
    subst e
    have hk := (List.getElem?_eq_some_iff.1 h).1
    simp [hk]
    exact ((List.getElem?_eq_some_iff.1 h).2 ▸ rfl)
  · rfl
theorem Cl.step {B : Nat} {v : Int} {P : List schema.Form} {n cap g k : Nat} {G : List Fm} {w0 wr w1 w3 : World} {p q : Fm} (h : Cl B v P n (.slice (some ⟨g, 0, none⟩) n cap) k G w0 wr) (hw0 : B ≤ w0.heap.size)
    (h1 : Below wr.heap.size wr w1) (h3 : Below w1.heap.size w1 w3) (hp : G[k]? = some p) (hq : q.p = p.p) (ho : w3.ownsRow w1.heap.size 26 5 (.slice q.f q.fL.length q.fCap) q.fL.length (fdV q.fL)) :
    Cl B v P n (.slice (some ⟨g, 0, none⟩) n cap) (k + 1) (G.set k q) w0 (w3.setCell ⟨g, k * 2 + 1, none⟩ (.slice q.f q.fL.length q.fCap)) := by
  have hb13 := h1.trans (h3.mono h1.size)
  have hg := World.ownsRow.lt h.row g rfl
  have hrow := ownsRow_later h.row hb13
  have hst := hrow.stored (k * 2 + 1) (.slice q.f q.fL.length q.fCap)
  have hid : q.id = p.id := by have := congrArg Prod.fst hq; exact this
  rw [fmV_set G k p q _ hp hid rfl] at hst
  have hsy : StayT 26 w3 (w3.setCell ⟨g, k * 2 + 1, none⟩ (.slice q.f q.fL.length q.fCap)) := by
    rcases hrow.2 with ⟨hv, _⟩ | ⟨g', cap', cur, hv, _, hh, _⟩
    · cases hv
    · cases hv
      exact stay_store 26 (g := g) (t := 52) (cs := cur.toList) (by show _ = _; simpa using hh) fd_fm _ _
  refine ⟨?_, ?_, hst.1, ?_, ?_, ?_, ?_⟩
  · exact (h.box.later hb13).apart _ _ _ (by omega)
  · exact (h.res.later hb13).apart _ _ _ (by omega)
  · intro i r hi hr
    rw [List.getElem?_set] at hr
    split at hr
    · rename_i e
      split at hr
      · cases hr
        have := h1.size
        have hlt := h.box.lt
        exact hsy.row (own_low ho (by omega))
      · cases hr
    · exact hsy.row (ownsRow_later (h.each i r (by omega) hr) hb13)
  · intro i r hi hr
    rw [List.getElem?_set, if_neg (by omega)] at hr
    exact h.rest i r (by omega) hr
  · rw [set_forms hp hq, h.eq]
  · exact below_setCells (h.below.trans (hb13.mono (by have := h.box.lt; omega))) (by omega) _ [_]
theorem sc_info2 (x y : Value) : (Try.prog.info? 24).map (·.size) = some [x, y].length := by kernel_rfl
theorem sc_fd : (24 : TypeId) ≠ 26 := by decide
theorem own_past' {w : World} {B e sz n S o : Nat} {u v : Value} {xs : List Value} (h : w.ownsRow B e sz u n xs) (hS : S < B) : (w.setCell ⟨S, o, none⟩ v).ownsRow B e sz u n xs :=
  ownsRow_heap h (fun g hg => by have := World.ownsRow.lt h g hg; exact Below.heap_setCell w ⟨S, o, none⟩ v g (by show g ≠ S; omega))
/-- the call returns a schema whose lists are rows of its own -/
def ClonedAs (v : Int) (P : List schema.Form) (w : World) (e : Ending) (w' : World) : Prop :=
  ∃ u G, e = .returned (.agg #[.int .i64 v, u]) ∧ w'.ownsRow w.heap.size 52 2 u G.length (fmV G) ∧ (∀ p ∈ G, OwnM w.heap.size w' p) ∧ forms G = P ∧ Below w.heap.size w w'
set_option maxRecDepth 20000 in
set_option maxHeartbeats 1600000 in
theorem cloned_any (v : Int) (a : Option Addr) (c : Nat) (F : List Fm) (w : World) (h : Fms w a F) (hF : Small w F) :
    Calls Try.prog 30 #[.agg #[.int .i64 v, .slice a F.length c]] w (ClonedAs v (forms F) w) := by
  have h40 := hF.1
  have hml : (F.length : Int) ≤ 40 := by omega
  obtain ⟨W2, hW2⟩ : ∃ W2, W2 = ((w.alloc (.cells #[.int .i64 v, .slice a F.length c] 24))).alloc (.cells #[.int .i64 0, .slice none 0 0] 24) := ⟨_, rfl⟩
  have hb2 : Below w.heap.size w W2 := by rw [hW2]; exact (((Below.refl _ _).alloc (Nat.le_refl _) _).alloc (by simp) _)
  have hs2 : W2.heap.size = w.heap.size + 2 := by rw [hW2]; simp
  have hB1 : Block W2 w.heap.size 24 [.int .i64 v, .slice a F.length c] := by rw [hW2]; exact (Block.new w _ _).alloc _
  have hB2 : Block W2 (w.heap.size + 1) 24 [.int .i64 0, .slice none 0 0] := by rw [hW2]; have := Block.new ((w.alloc (.cells #[.int .i64 v, .slice a F.length c] 24))) 24 [.int .i64 0, .slice none 0 0]; simpa using this
  have cM := cloneM_any a c F W2 (h.below hb2) (by omega)
  have r0 := hB1.cell 0
  have r1 := hB1.cell 1
  have HB1 := hid hB1
  have HB2 := hid hB2
  have HW := hid hb2
  have HF := hid hF
  have HS2 := hid hs2
  have hne : w.heap.size ≠ w.heap.size + 1 := by omega
  have HK : Hid (∀ (W : World) (u : Value) (G : List Fm), Below W2.heap.size W2 W → W.ownsRow W2.heap.size 52 2 u F.length (fmV F) → Cl w.heap.size v (forms F) F.length u 0 F w (W.setCell ⟨w.heap.size, 1, none⟩ u)) := hid (fun W u G hb ho => by
    refine ⟨?_, ?_, ?_, fun i p hi => absurd hi (by omega), fun i p _ hp => hF.2 p (List.mem_of_getElem? hp), rfl, ?_⟩
    · have := (hB1.later hb).setCell 1 u
      simpa using this
    · exact (hB2.later hb).apart _ _ _ (by omega)
    · rw [← hs2]
      exact ownsRow_heap ho (fun g hg => by have := World.ownsRow.lt ho g hg; exact Below.heap_setCell W ⟨w.heap.size, 1, none⟩ u g (by show g ≠ w.heap.size; omega))
    · exact below_setCells (hb2.trans (hb.mono (by omega))) (Nat.le_refl _) 1 [u])
  have HR : Hid (∀ W, Below W2.heap.size W2 W → W.cell? ⟨w.heap.size, 1, none⟩ = some (.slice a F.length c) ∧ W.frozen? ⟨w.heap.size, 1, none⟩ = false) := hid (fun W hb => ⟨(hB1.later hb).cell 1, (hB1.later hb).frozen 1⟩)
  clear h hF hB1 hB2 hb2 h40 hs2
  subst hW2
  go_enter Try.func30, Try.ntmps30
  go_wp2_with (go_at_call 62; ((with_reducible refine cM.mono ?_); rintro e w1 ⟨u, rfl, ho, hb1⟩; obtain ⟨x, xc, rfl, hxc⟩ := ownsRow_slice ho; obtain ⟨k1, k2⟩ := HR.out _ hb1; have HCL := hid (HK.out _ _ F hb1 ho); clear ho hb1))
  clear cM r0 r1 HB1 HB2 HW HS2 HK HR
  obtain ⟨B, hB⟩ : ∃ B, Hid (w.heap.size = B) := ⟨_, rfl⟩
  rw [hB.out] at HCL k1 k2 hne ⊢
  generalize w1.setCell ⟨B, 1, none⟩ (.slice x F.length xc) = w2 at *
  clear k1 k2
  go_loopw [12] (fun n wr => ∃ k G, k ≤ F.length ∧ n = .int .i64 (k : Int) ∧ Hid (Cl B v (forms F) F.length (.slice x F.length xc) k G w wr)) (fun n _ => F.length - (intOf n).toNat)
  case atStart => exact ⟨0, F, Nat.zero_le _, rfl, HCL⟩
  case round =>
    obtain ⟨k, G, hk, rfl, HC⟩ := hrel
    have z1 := HC.out.box.cell 1
    have z0 := HC.out.box.cell 0
    have y0 := HC.out.res.cell 0
    have y1 := HC.out.res.cell 1
    have f0 := HC.out.res.frozen 0
    have f1 := HC.out.res.frozen 1
    by_cases hlt : k < F.length
    · have hGl : G.length = F.length := by have := congrArg List.length HC.out.eq; rwa [forms_length, forms_length] at this
      obtain ⟨g, rfl⟩ : ∃ g, x = some ⟨g, 0, none⟩ := by
        rcases HC.out.row.2 with ⟨hv, h0⟩ | ⟨g, _, _, hv, _⟩
        · omega
        · cases hv; exact ⟨g, rfl⟩
      obtain ⟨p, hp⟩ : ∃ p, G[k]? = some p := ⟨_, List.getElem?_eq_getElem (by omega)⟩
      have i1 : (k : Int) < F.length := by omega
      have c0 : wr.cell? ⟨g, k * 2, none⟩ = some (.int .i64 p.id) := by
        have := HC.out.row.cells (g := g) rfl (k * 2) _ (fmV_at G k p 0 hp (by omega))
        rwa [Addr.add_lit, Nat.zero_add] at this
      have c1 : wr.cell? ⟨g, k * 2 + 1, none⟩ = some (.slice p.f p.fL.length p.fCap) := by
        have := HC.out.row.cells (g := g) rfl (k * 2 + 1) _ (fmV_at G k p 1 hp (by omega))
        rwa [Addr.add_lit, Nat.zero_add] at this
      have HP := hid hp
      have hrp := HC.out.rest k p (Nat.le_refl _) hp
      clear hp
      obtain ⟨pi, pf, pc, pL⟩ := p
      simp only at c0 c1 hrp
      have HW1 : Hid (Below wr.heap.size wr ((wr.alloc (.cells #[.int .i64 pi, .slice pf pL.length pc] 52)))) := hid (newB _ _)
      have HV : Hid (Block ((wr.alloc (.cells #[.int .i64 pi, .slice pf pL.length pc] 52))) wr.heap.size 52 [.int .i64 pi, .slice pf pL.length pc]) := hid (Block.new _ _ _)
      have hgw := World.ownsRow.lt HC.out.row g rfl
      have hBw := HC.out.box.lt
      have hg1 : g ≠ wr.heap.size := by omega
      have hg2 : wr.heap.size ≠ g := by omega
      have hg3 : B ≠ wr.heap.size := by omega
      have hg4 : wr.heap.size ≠ B := by omega
      have hg5 : B ≠ g := by omega
      have hg6 : g ≠ B := by omega
      have HW0 : Hid (Below w.heap.size w ((wr.alloc (.cells #[.int .i64 pi, .slice pf pL.length pc] 52)))) := hid (by have h1 := HC.out.below; rw [← hB.out] at h1 hBw; exact h1.trans (HW1.out.mono (Nat.le_of_lt hBw)))
      have cC := fun (W : World) (hb : Below ((wr.alloc (.cells #[.int .i64 pi, .slice pf pL.length pc] 52))).heap.size ((wr.alloc (.cells #[.int .i64 pi, .slice pf pL.length pc] 52))) W) => cloneF_any pf pc pL W (hrp.1.below (HW0.out.trans (hb.mono HW0.out.size))) (by omega)
      have HST : Hid (∀ (W : World) (y : Option Addr) (yc : Nat), Below ((wr.alloc (.cells #[.int .i64 pi, .slice pf pL.length pc] 52))).heap.size ((wr.alloc (.cells #[.int .i64 pi, .slice pf pL.length pc] 52))) W → W.ownsRow ((wr.alloc (.cells #[.int .i64 pi, .slice pf pL.length pc] 52))).heap.size 26 5 (.slice y pL.length yc) pL.length (fdV pL) →
          Cl B v (forms F) F.length (.slice (some ⟨g, 0, none⟩) F.length xc) (k + 1) (G.set k ⟨pi, y, yc, pL⟩) w (W.setCell ⟨g, k * 2 + 1, none⟩ (.slice y pL.length yc))) := hid (fun W y yc hb ho => HC.out.step (Nat.le_of_eq hB.out.symm) HW1.out hb HP.out rfl ho)
      have HFC : Hid (∀ (W : World), Below ((wr.alloc (.cells #[.int .i64 pi, .slice pf pL.length pc] 52))).heap.size ((wr.alloc (.cells #[.int .i64 pi, .slice pf pL.length pc] 52))) W → W.cell? ⟨B, 1, none⟩ = some (.slice (some ⟨g, 0, none⟩) F.length xc) ∧ W.cell? ⟨wr.heap.size, 1, none⟩ = some (.slice pf pL.length pc) ∧ W.cell? ⟨g, k * 2 + 1, none⟩ = some (.slice pf pL.length pc) ∧ W.frozen? ⟨g, k * 2 + 1, none⟩ = false) := hid (fun W hb => by
        have hbw := HW1.out.trans (hb.mono HW1.out.size)
        refine ⟨(HC.out.box.later hbw).cell 1, (HV.out.later hb).cell 1, ?_, ?_⟩
        · rw [hbw.cell (p := ⟨g, k * 2 + 1, none⟩) hgw.2]; exact c1
        · exact (ownsRow_later HC.out.row hbw).frozenAt _)
      clear hrp
      go_wp2
      have hbd : Below ((wr.alloc (.cells #[.int .i64 pi, .slice pf pL.length pc] 52))).heap.size ((wr.alloc (.cells #[.int .i64 pi, .slice pf pL.length pc] 52))) ((wr.alloc (.cells #[.int .i64 pi, .slice pf pL.length pc] 52))).drew := below_drew (Below.refl _ _)
      obtain ⟨q1, q2, q3, q4⟩ := HFC.out _ hbd
      go_region_held3 (fun w' => w'.cell? ⟨B, 1, none⟩ = some (.slice (some ⟨g, 0, none⟩) F.length xc) ∧ w'.cell? ⟨wr.heap.size, 1, none⟩ = some (.slice pf pL.length pc)) (first | assumption | go_keep) (first
        | (go_at_call 50; (with_reducible refine (cC _ hbd).mono ?_); rintro e w3 ⟨y, rfl, ho3, hb3⟩; obtain ⟨ya, yc, rfl, _⟩ := ownsRow_slice ho3; have hb13 := hbd.trans (hb3.mono hbd.size); obtain ⟨q1, q2, q3, q4⟩ := HFC.out w3 hb13; have HO3 := hid ho3; clear ho3))
      go_wp2
      exact ⟨⟨k + 1, _, by omega, by go_num, hid (HST.out w3 ya yc hb13 HO3.out)⟩, by simp [intOf]; omega⟩
    · obtain rfl : k = F.length := by omega
      have hGl : G.length = F.length := by have := congrArg List.length HC.out.eq; rwa [forms_length, forms_length] at this
      go_wp2
      have hR := (HC.out.res.setCell 0 (.int .i64 v)).setCell 1 (.slice x F.length xc)
      have hBw := HC.out.box.lt
      refine bodyPost_ret (results_cell (b := B + 1) (o := 0) rfl rfl hR.whole Try.underlying24 rfl (sc_info2 _ _)) rfl ?_
      refine ⟨_, G, rfl, ?_, fun p hp => ?_, HC.out.eq, ?_⟩
      · rw [hB.out, hGl]; exact own_low (own_past' (own_past' HC.out.row (by omega)) (by omega)) (by omega)
      · obtain ⟨i, hi⟩ := List.mem_iff_getElem?.1 hp
        have := HC.out.each i p (by have := (List.getElem?_eq_some_iff.1 hi).1; omega) hi
        rw [hB.out]
        have hsy := (stay_store 26 HC.out.res sc_fd 0 (.int .i64 v)).trans (stay_store 26 (HC.out.res.setCell 0 (.int .i64 v)) sc_fd 1 (.slice x F.length xc))
        exact hsy.row this
      · have h1 := HC.out.below
        rw [← hB.out] at h1 ⊢
        exact below_setCells (below_setCells h1 (by omega) 0 [_]) (by omega) 1 [_]
end Go.Proofs.Ytiajpjkkopdmgaa.typing

namespace Go.Proofs.Ytiajpjkkopdmgaa.schema
open Go.RowKit Go.Proofs.Ytiajpjkkopdmgaa.rows
set_option linter.unusedVariables false

/-- the call returns a row of its own that holds ys; but for the block of v all stands -/
def MadeM (base : Nat) (ob : Option Nat) (n : Nat) (ys : List Value) (w : World) (e : Ending) (w' : World) : Prop := ∃ v', e = .returned v' ∧ w'.ownsRow base 52 2 v' n ys ∧ w.grownBy w' ob
set_option maxRecDepth 20000 in
theorem insertM_any (base n i g goff vc : Nat) (gC : List Value) (gt : TypeId) (v : Value) (xs news : List Value) (w : World) (hown : w.ownsRow base 52 2 v n xs) (hbase : base ≤ w.heap.size) (hi : i ≤ n)
    (hl : news.length = 2) (hG : Block w g gt gC) (hgo : goff + 2 ≤ gC.length) (hgv : v.ownBlock ≠ some g) (hnews : ∀ j u, news[j]? = some u → gC[goff + j]? = some u) (h1 : ∀ u ∈ news, u.oneCell' = true) (hx1 : ∀ u ∈ xs, u.oneCell' = true) (hn : n ≤ 1000) :
    Calls Try.prog 49 #[v, .int .i64 i, .slice (some ⟨g, goff, none⟩) 1 vc] w (MadeM base v.ownBlock (n + 1) (xs.take (i * 2) ++ (news ++ xs.drop (i * 2))) w) := by
  obtain ⟨i0, hi0, hz0, hz1, hz2⟩ := fm_info_parts
  have hxl := hown.1
  have hcell : ∀ j u, news[j]? = some u → w.cell? ((⟨g, goff, none⟩ : Addr).add j) = some u := fun j u hj => by rw [Addr.add_lit, hG.cell]; exact hnews j u hj
  have b1 : (i : Int) ≤ n := by omega
  have b2 : (n : Int) ≤ 1000 := by omega
  by_cases hin : i = n
  · subst hin
    have e1 : xs.take (i * 2) = xs := List.take_of_length_le (by omega)
    have e2 : xs.drop (i * 2) = [] := List.drop_of_length_le (by omega)
    rw [e1, e2, List.append_nil]
    obtain ⟨bp, cp, rfl, hcp⟩ := ownsRow_slice hown
    have HO := hid hown
    have HC := hid hcell
    have HN2 : Hid (i + 1 ≤ maxLen) := by show _ ≤ _; unfold maxLen; omega
    have HN3 : Hid ((i + 1) * 32 ≤ 140737488355328) := by show _ ≤ _; omega
    have HL := hid hl
    have H1 := hid h1
    have HB := hid hbase
    obtain ⟨OB, hOB⟩ : ∃ OB, (Value.slice bp i cp).ownBlock = OB := ⟨_, rfl⟩
    have HOB := hid hOB
    rw [hOB]
    clear hOB hown hcell hxl hG hgo hnews h1 hx1 e1 e2 hl hbase hgv
    by_cases hci : i = cp
    · subst hci
      go_enter Try.func49, Try.ntmps49
      go_wp2_with (at_builtin; refine wpList_append_fromN rfl _ _ 22 rfl base 52 i0 _ 2 32 Try.underlying22 hi0 hz0 hz1 hz2 (by simp [Value.cells]) (by omega) _ i xs rfl HO.out (some ⟨g, goff, none⟩) 1 vc news rfl (by rw [HL.out]) (.inr ⟨_, rfl, HC.out⟩) H1.out HN2.out HN3.out HB.out ?_)
      intro v' w1 ho hg
      have HO2 := hid ho
      have HG2 := hid hg
      rw [HOB.out] at HG2
      clear ho hg
      go_wp2
      go_ret
      exact ⟨_, rfl, HO2.out, HG2.out⟩
    · go_enter Try.func49, Try.ntmps49
      go_wp2_with (at_builtin; refine wpList_append_fromN rfl _ _ 22 rfl base 52 i0 _ 2 32 Try.underlying22 hi0 hz0 hz1 hz2 (by simp [Value.cells]) (by omega) _ i xs rfl HO.out (some ⟨g, goff, none⟩) 1 vc news rfl (by rw [HL.out]) (.inr ⟨_, rfl, HC.out⟩) H1.out HN2.out HN3.out HB.out ?_)
      intro v' w1 ho hg
      have HO2 := hid ho
      have HG2 := hid hg
      rw [HOB.out] at HG2
      clear ho hg
      go_wp2
      go_ret
      exact ⟨_, rfl, HO2.out, HG2.out⟩
  · rcases hown.2 with ⟨rfl, h0⟩ | ⟨b, cap, cur, rfl, hbb, hB, hnc, hcm, hcs, htake⟩
    · omega
    · obtain ⟨C, rfl⟩ : ∃ C : List Value, cur = C.toArray := ⟨cur.toList, by simp⟩
      simp only [List.size_toArray] at hcs
      have htk : C.take (n * 2) = xs := by simpa using htake
      have hbg : g ≠ b := by intro h; subst h; exact hgv rfl
      have hX1 : C.take (i * 2) = xs.take (i * 2) := by rw [← htk, List.take_take, Nat.min_eq_left (Nat.mul_le_mul_right _ hi)]
      have hX2l : (xs.drop (i * 2)).length = (n - i) * 2 := by rw [List.length_drop, hxl, Nat.sub_mul]
      have hX2c : ∀ j u, (xs.drop (i * 2))[j]? = some u → C[i * 2 + j]? = some u := fun j u hj => by
        rw [List.getElem?_drop, ← htk, List.getElem?_take] at hj
        split at hj
        · exact hj
        · cases hj
      have hX21 : ∀ u ∈ xs.drop (i * 2), u.oneCell' = true := fun u hu => hx1 u (List.mem_of_mem_drop hu)
      obtain ⟨X2, hX2⟩ : ∃ X2, xs.drop (i * 2) = X2 := ⟨_, rfl⟩
      rw [hX2] at hX2l hX2c hX21 ⊢
      rw [← hX1]
      have hlt : i < n := by omega
      have c1 : (i : Int) < n := by omega
      have c2 : ¬ ((i : Int) = (n : Int)) := by omega
      have c3 : ¬ (cap = i) := by omega
      have hcm' : cap ≤ 9223372036854775807 := by unfold maxLen at hcm; omega
      have w1 : IntKind.i64.wrap ((i : Int) + 1) = (i : Int) + 1 := by rw [IntKind.wrap_i64]; omega
      have w2 : IntKind.i64.wrap ((n : Int) + 1) = (n : Int) + 1 := by rw [IntKind.wrap_i64]; omega
      have t1 : ((i : Int) + 1).toNat = i + 1 := by omega
      have t2 : ((n : Int) + 1).toNat = n + 1 := by omega
      have p1 : (0 : Int) ≤ (i : Int) + 1 := by omega
      have p2 : (i : Int) + 1 ≤ (n : Int) + 1 := by omega
      have hBB : Block w b 52 C := hB
      have hOB : (Value.slice (some ⟨b, 0, none⟩) n cap).ownBlock = some b := rfl
      rw [hOB]
      clear hOB
      by_cases hroom : n + 1 ≤ cap
      · have c4 : ¬ ((cap : Int) < (n : Int) + 1) := by omega
        have c5 : ¬ (cap = i + 1) := by omega
        have c6 : (n : Int) + 1 ≤ (cap : Int) := by omega
        have hov : ∀ lb cb, (callFunc 82 #[.slice (some ⟨g, goff, none⟩) 1 vc, .slice (some ⟨b, (i + 1) * 2, none⟩) lb cb]).run Try.prog w = .ok (.value (.bool false)) w := fun lb cb => by
          rw [run_callFunc_extern Try.func82 (by kernel_rfl) (by kernel_rfl) (by kernel_rfl) (e := Extern.SlicesOverlaps.overlaps #[22, 22] #[4]) (by kernel_rfl),
            run_overlapsN w 22 4 52 Try.underlying22 i0 hi0 ⟨g, goff, none⟩ ⟨b, (i + 1) * 2, none⟩ 1 vc lb cb hbg gt 52 gC C hG hBB (by intro h; subst h; simp at hcs; omega)]
          rfl
        have HB := hid hBB
        have HG := hid hG
        have HCS := hid hcs
        have HL := hid hl
        have HX2l := hid hX2l
        have HX2c := hid hX2c
        have HX21 := hid hX21
        have H1 := hid h1
        have HNW := hid hnews
        have HGO := hid hgo
        have HCM := hid hcm
        have HBB := hid hbb
        clear hown hcell hxl hG hgo hnews h1 hx1 hl hbase hgv htake htk hX1 hX2 hX2l hX2c hX21 hB hBB hcs hcm hbb
        go_enter Try.func49, Try.ntmps49
        go_wp2_with (simp only [hov])
        refine tail.region 8 (by kernel_rfl) (by kernel_rfl) ?_
        simp only [List.take_succ_cons, List.take_zero, List.drop_succ_cons, List.drop_zero]
        repeat (go_big_quiet_step (fail))
        refine wpQuiet_nil ?_
        rintro _ ⟨nq, rfl⟩
        refine wpList_copyN rfl _ _ 22 22 rfl 52 i0 2 Try.underlying22 hi0 hz1 _ _ _ _ _ _ rfl rfl b ((i + 1) * 2) C 52 (HB.out.drewN nq) (n - i) (by simp only [Nat.min_def]; split <;> omega) X2 HX2l.out (fun _ => ⟨rfl, ⟨b, i * 2, none⟩, rfl, fun j u hj => by rw [Addr.add_lit, (HB.out.drewN nq).cell]; exact HX2c.out j u hj⟩) (by rw [HX2l.out, HCS.out, ← Nat.add_mul]; exact Nat.mul_le_mul_right _ (by omega)) HX21.out ?_
        intro w3 h3
        have hG3 : Block w3 g gt gC := HG.out.but h3.out.2.1 HG.out.lt hbg
        have HG3 := hid hG3
        have hs3 := h3.out.2.2
        clear hG3
        go_wp2_with (refine wpList_copyN rfl _ _ 22 22 rfl 52 i0 2 Try.underlying22 hi0 hz1 _ _ _ _ _ _ rfl rfl b (i * 2) (splice C ((i + 1) * 2) X2) 52 h3.out.1 1 (by simp only [Nat.min_def]; split <;> omega) news (by rw [HL.out]) (fun _ => ⟨rfl, ⟨g, goff, none⟩, rfl, fun j u hj => by rw [Addr.add_lit, HG3.out.cell]; exact HNW.out j u hj⟩) (by rw [length_splice _ _ _ (by rw [HX2l.out, HCS.out, ← Nat.add_mul]; exact Nat.mul_le_mul_right _ (by omega)), HL.out, HCS.out]; exact (by omega : i * 2 + 2 ≤ cap * 2)) H1.out ?_)
        intro w4 h4
        go_wp2
        go_ret
        have hl2 := two C (i * 2) news X2 (by rw [HL.out, HX2l.out, HCS.out]; omega)
        rw [HL.out, HX2l.out, show i * 2 + 2 = (i + 1) * 2 by omega, show (i + 1) * 2 + (n - i) * 2 = (n + 1) * 2 by omega, List.append_assoc] at hl2
        refine ⟨_, rfl, own_of h4.out.1 HBB.out hroom HCM.out ?_ hl2, ?_⟩
        · rw [length_splice, length_splice, HCS.out]
          · rw [HX2l.out, HCS.out]; omega
          · rw [length_splice, HL.out, HCS.out]
            · omega
            · rw [HX2l.out, HCS.out]; omega
        · have e3 := h3.out.2.1
          have e4 := h4.out.2.1
          exact grown_of_but (v := .slice (some ⟨b, 0, none⟩) n cap) (But.trans (But.drewN e3 0) e4) rfl
      · obtain rfl : n = cap := by omega
        have c4 : (n : Int) < (n : Int) + 1 := by omega
        have k1 : IntKind.i64.wrap ((n : Int) + 1 - (i : Int)) = (n : Int) + 1 - (i : Int) := by rw [IntKind.wrap_i64]; omega
        have HB := hid hBB
        have HG := hid hG
        have HCS := hid hcs
        have HL := hid hl
        have HX2l := hid hX2l
        have HX2c := hid hX2c
        have HX21 := hid hX21
        have H1 := hid h1
        have HNW := hid hnews
        have HGO := hid hgo
        have HCM := hid hcm
        have HBB := hid hbb
        have HBW := hid hbase
        have hsz0 : 0 < 2 := by omega
        have HN3 : Hid ((i + (n + 1 - i)) * 32 ≤ 140737488355328) := by show _ ≤ _; omega
        have HN2 : Hid (i + (n + 1 - i) ≤ maxLen) := by show _ ≤ _; unfold maxLen; omega
        have HF0 : Hid (i * 2 ≤ C.length) := by show _ ≤ _; rw [hcs]; omega
        clear hown hcell hxl hG hgo hnews h1 hx1 hl hbase hgv htake htk hX1 hX2 hX2l hX2c hX21 hB hBB hcs hcm hbb
        go_enter Try.func49, Try.ntmps49
        go_wp2_with (at_builtin; refine wpList_append_zerosN rfl _ _ 22 3 rfl 52 i0 _ 2 32 Try.underlying22 Try.underlying3 hi0 hz0 hz1 hz2 (by simp [Value.cells]) hsz0 b i n rfl (n + 1 - i) _ rfl (by omega) (by omega) C HB.out HF0.out (by omega) (by omega) HN3.out HN2.out ?_)
        intro G R w3 h3
        have hs3 : w.heap.size < w3.heap.size := h3.out.2.2.2.2.2
        have g1 : ¬ (G = i) := by have := h3.out.2.2.1; omega
        have g2 : ¬ (G = i + 1) := by have := h3.out.2.2.1; omega
        have g3 : i + (n + 1 - i) = n + 1 := by omega
        have HG1 := hid h3.out.2.2.1
        have HG2 := hid h3.out.2.2.2.1
        have HRl := hid h3.out.2.1
        have HLT := hid HB.out.lt
        have HLG := hid HG.out.lt
        have HB3 : Hid (Block w3 b 52 C) := hid (HB.out.later h3.out.2.2.2.2.1)
        have HG3 : Hid (Block w3 g gt gC) := hid (HG.out.later h3.out.2.2.2.2.1)
        have HCL : Hid ((C.take (i * 2) ++ R).length = G * 2) := by
          show _ = _
          rw [List.length_append, List.length_take, Nat.min_eq_left HF0.out, HRl.out, ← Nat.add_mul]
          congr 1
          have := HG1.out
          omega
        rw [g3]
        go_wp2_with (refine wpList_copyN rfl _ _ 22 22 rfl 52 i0 2 Try.underlying22 hi0 hz1 _ _ _ _ _ _ rfl rfl w.heap.size (i * 2) (C.take (i * 2) ++ R) 52 h3.out.1 1 (by simp only [Nat.min_def]; split <;> omega) news (by rw [HL.out]) (fun _ => ⟨rfl, ⟨g, goff, none⟩, rfl, fun j u hj => by rw [Addr.add_lit, HG3.out.cell]; exact HNW.out j u hj⟩) (by rw [HCL.out, HL.out]; have := HG1.out; omega) H1.out ?_)
        intro w4 h4
        have HB4 : Hid (Block w4 b 52 C) := hid (HB3.out.but h4.out.2.1 HB3.out.lt (by have := HLT.out; omega))
        have hs4 := h4.out.2.2
        have HL4 : Hid ((splice (C.take (i * 2) ++ R) (i * 2) news).length = G * 2) := hid (by rw [length_splice _ _ _ (by rw [HCL.out, HL.out]; have := HG1.out; omega), HCL.out])
        go_wp2
        refine tail.region 8 (by kernel_rfl) (by kernel_rfl) ?_
        simp only [List.take_succ_cons, List.take_zero, List.drop_succ_cons, List.drop_zero]
        repeat (go_big_quiet_step (fail))
        refine wpQuiet_nil ?_
        rintro _ ⟨nq, rfl⟩
        refine wpList_copyN rfl _ _ 22 22 rfl 52 i0 2 Try.underlying22 hi0 hz1 _ _ _ _ _ _ rfl rfl w.heap.size ((i + 1) * 2) (splice (C.take (i * 2) ++ R) (i * 2) news) 52 (h4.out.1.drewN nq) (n - i) (by simp only [Nat.min_def]; split <;> omega) X2 HX2l.out (fun _ => ⟨rfl, ⟨b, i * 2, none⟩, rfl, fun j u hj => by rw [Addr.add_lit, (HB4.out.drewN nq).cell]; exact HX2c.out j u hj⟩) (by rw [HL4.out, HX2l.out]; have := HG1.out; omega) HX21.out ?_
        intro w5 h5
        go_wp2
        go_ret
        have hl2 := two' (C.take (i * 2) ++ R) (i * 2) news X2 (by rw [HL.out, HX2l.out, HCL.out]; have := HG1.out; omega)
        rw [HL.out, HX2l.out, show i * 2 + 2 = (i + 1) * 2 by omega, show (i + 1) * 2 + (n - i) * 2 = (n + 1) * 2 by omega, List.append_assoc, List.take_left' (by rw [List.length_take, Nat.min_eq_left HF0.out])] at hl2
        refine ⟨_, rfl, own_of h5.out.1 HBW.out (by have := HG1.out; omega) HG2.out ?_ hl2, ?_⟩
        · rw [length_splice, HL4.out]
          rw [HX2l.out, HL4.out]; have := HG1.out; omega
        · exact grown_of_below (h3.out.2.2.2.2.1.trans ((But.trans (But.drewN h4.out.2.1 0) (by have := h5.out.2.1; exact this.mono (by simp [hs4]))).below (by omega) (Nat.le_refl _)))
end Go.Proofs.Ytiajpjkkopdmgaa.schema

namespace Go.Proofs.Ytiajpjkkopdmgaa.schema
open Go.RowKit Go.Proofs.Ytiajpjkkopdmgaa.rows
set_option linter.unusedVariables false

/-- as Made, in place -/
def LessM (base : Nat) (ob : Option Nat) (n : Nat) (ys : List Value) (w : World) (e : Ending) (w' : World) : Prop := ∃ v', e = .returned v' ∧ w'.ownsRow base 52 2 v' n ys ∧ w.grownBy w' ob ∧ v'.ownBlock = ob
set_option maxRecDepth 20000 in
theorem deleteM_any (base N i : Nat) (v : Value) (xs : List Value) (w : World) (hown : w.ownsRow base 52 2 v (N + 1) xs) (hi : i ≤ N) (hx1 : ∀ u ∈ xs, u.oneCell' = true) (hn : N ≤ 1000) :
    Calls Try.prog 51 #[v, .int .i64 i, .int .i64 ((i : Int) + 1)] w (LessM base v.ownBlock N (xs.take (i * 2) ++ xs.drop ((i + 1) * 2)) w) := by
  obtain ⟨i0, hi0, hz0, hz1, hz2⟩ := fm_info_parts
  have hxl := hown.1
  rcases hown.2 with ⟨_, h0⟩ | ⟨b, cap, cur, rfl, hbb, hB, hnc, hcm, hcs, htake⟩
  · omega
  · obtain ⟨C, rfl⟩ : ∃ C : List Value, cur = C.toArray := ⟨cur.toList, by simp⟩
    simp only [List.size_toArray] at hcs
    have htk : C.take ((N + 1) * 2) = xs := by simpa using htake
    have hX1 : C.take (i * 2) = xs.take (i * 2) := by rw [← htk, List.take_take, Nat.min_eq_left (Nat.mul_le_mul_right _ (by omega))]
    have hX2l : (xs.drop ((i + 1) * 2)).length = (N - i) * 2 := by rw [List.length_drop, hxl, ← Nat.sub_mul]; congr 1; omega
    have hX2c : ∀ j u, (xs.drop ((i + 1) * 2))[j]? = some u → C[(i + 1) * 2 + j]? = some u := fun j u hj => by
      rw [List.getElem?_drop, ← htk, List.getElem?_take] at hj
      split at hj
      · exact hj
      · cases hj
    have hX21 : ∀ u ∈ xs.drop ((i + 1) * 2), u.oneCell' = true := fun u hu => hx1 u (List.mem_of_mem_drop hu)
    obtain ⟨X2, hX2⟩ : ∃ X2, xs.drop ((i + 1) * 2) = X2 := ⟨_, rfl⟩
    rw [hX2] at hX2l hX2c hX21 ⊢
    rw [← hX1]
    have hOB : (Value.slice (some ⟨b, 0, none⟩) (N + 1) cap).ownBlock = some b := rfl
    rw [hOB]
    clear hOB
    have c1 : (i : Int) ≤ N := by omega
    have c2 : ¬ ((i : Int) = (i : Int) + 1) := by omega
    have c3 : ¬ (cap = N) := by omega
    have c4 : ¬ (cap = i) := by omega
    have hcm' : cap ≤ 9223372036854775807 := by unfold maxLen at hcm; omega
    have b2 : (N : Int) ≤ 1000 := by omega
    have t1 : ((i : Int) + 1).toNat = i + 1 := by omega
    have t2 : ((N : Int) + 1).toNat = N + 1 := by omega
    have p1 : (0 : Int) ≤ (i : Int) + 1 := by omega
    have hBB : Block w b 52 C := hB
    have hz1c : ∀ u ∈ (Value.cells (.agg #[.int .i64 0, .slice none 0 0])).toList, u.oneCell' = true := by simp [Value.cells]; try decide
    have h0z : 0 < 2 := by omega
    have g3 : i + (N - i) = N := by omega
    have HB := hid hBB
    have HCS := hid hcs
    have HX2l := hid hX2l
    have HX2c := hid hX2c
    have HX21 := hid hX21
    have HCM := hid hcm
    have HBB := hid hbb
    have HNC : Hid ((N + 1) * 2 ≤ cap * 2) := Nat.mul_le_mul_right _ hnc
    clear hown hxl hx1 htake htk hX1 hX2 hX2l hX2c hX21 hB hBB hcs hcm hbb
    by_cases c5 : cap = i + 1
    · obtain rfl : i = N := by omega
      subst c5
      go_enter Try.func51, Try.ntmps51
      go_wp2
      refine tail.region 6 (by kernel_rfl) (by kernel_rfl) ?_
      simp only [List.take_succ_cons, List.take_zero, List.drop_succ_cons, List.drop_zero]
      repeat (go_big_quiet_step (fail))
      refine wpQuiet_nil ?_
      rintro _ ⟨nq, rfl⟩
      refine wpList_append_inN rfl _ _ 22 rfl 52 i0 2 Try.underlying22 hi0 hz1 b _ _ rfl C (HB.out.drewN nq) _ 0 _ rfl X2 (by have := HX2l.out; simpa using this) (fun h => absurd h (by omega)) HX21.out (by omega) (by rw [HX2l.out, HCS.out]; have := HNC.out; omega) ?_
      intro w3 h3
      have HL3 : Hid ((splice C (i * 2) X2).length = (i + 1) * 2) := hid (by rw [length_splice _ _ _ (by rw [HX2l.out, HCS.out]; have := HNC.out; omega), HCS.out])
      go_wp2_with (refine wpList_clearN rfl _ 22 rfl 52 i0 _ 2 Try.underlying22 hi0 hz0 (by simp [Value.cells]) hz1c h0z _ 1 _ rfl b (i * 2) (splice C (i * 2) X2) 52 h3.out.1 (fun _ => by simp) (by rw [HL3.out]; have := HNC.out; omega) ?_)
      intro Z w4 h4
      go_wp2
      go_ret
      have hl2 : (splice (splice C (i * 2) X2) (i * 2) Z).take (i * 2) = C.take (i * 2) ++ X2 := by
        rw [splice_head _ _ _ _ (Nat.le_refl _) (by rw [HL3.out]; have := HNC.out; omega)]
        have := splice_take C (i * 2) X2 (by rw [HCS.out]; have := HNC.out; omega)
        rw [HX2l.out, ← Nat.add_mul, g3] at this
        exact this
      refine ⟨_, rfl, own_of h4.out.2.1 HBB.out (by omega) HCM.out (by rw [length_splice _ _ _ (by rw [HL3.out, h4.out.1]; have := HNC.out; omega), HL3.out]) hl2, ?_, rfl⟩
      exact grown_of_but (v := .slice (some ⟨b, 0, none⟩) i (i + 1)) (But.trans (But.drewN h3.out.2.1 0) (h4.out.2.2.1.mono (by have := h3.out.2.2; simp at this; omega))) rfl
    · go_enter Try.func51, Try.ntmps51
      go_wp2
      refine tail.region 6 (by kernel_rfl) (by kernel_rfl) ?_
      simp only [List.take_succ_cons, List.take_zero, List.drop_succ_cons, List.drop_zero]
      repeat (go_big_quiet_step (fail))
      refine wpQuiet_nil ?_
      rintro _ ⟨nq, rfl⟩
      refine wpList_append_inN rfl _ _ 22 rfl 52 i0 2 Try.underlying22 hi0 hz1 b _ _ rfl C (HB.out.drewN nq) _ (N - i) _ (by rfl) X2 HX2l.out (fun h => ⟨⟨b, (i + 1) * 2, none⟩, rfl, fun j u hj => by rw [Addr.add_lit, (HB.out.drewN nq).cell]; exact HX2c.out j u hj⟩) HX21.out (by omega) (by rw [HX2l.out, HCS.out]; have := HNC.out; omega) ?_
      intro w3 h3
      rw [g3]
      have HL3 : Hid ((splice C (i * 2) X2).length = cap * 2) := hid (by rw [length_splice _ _ _ (by rw [HX2l.out, HCS.out]; have := HNC.out; omega), HCS.out])
      go_wp2_with (refine wpList_clearN rfl _ 22 rfl 52 i0 _ 2 Try.underlying22 hi0 hz0 (by simp [Value.cells]) hz1c h0z _ 1 _ rfl b (N * 2) (splice C (i * 2) X2) 52 h3.out.1 (fun _ => by simp) (by rw [HL3.out]; have := HNC.out; omega) ?_)
      intro Z w4 h4
      go_wp2
      go_ret
      have hl2 : (splice (splice C (i * 2) X2) (N * 2) Z).take (N * 2) = C.take (i * 2) ++ X2 := by
        rw [splice_head _ _ _ _ (Nat.le_refl _) (by rw [HL3.out]; have := HNC.out; omega)]
        have := splice_take C (i * 2) X2 (by rw [HCS.out]; have := HNC.out; omega)
        rw [HX2l.out, ← Nat.add_mul, g3] at this
        exact this
      refine ⟨_, rfl, own_of h4.out.2.1 HBB.out (by omega) HCM.out (by rw [length_splice _ _ _ (by rw [HL3.out, h4.out.1]; have := HNC.out; omega), HL3.out]) hl2, ?_, rfl⟩
      exact grown_of_but (v := .slice (some ⟨b, 0, none⟩) N cap) (But.trans (But.drewN h3.out.2.1 0) (h4.out.2.2.1.mono (by have := h3.out.2.2; simp at this; omega))) rfl
end Go.Proofs.Ytiajpjkkopdmgaa.schema
