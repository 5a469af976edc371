/- Lemmas of the claim HJournalKeeps. Each says its own conditions. -/
import Derived.Test.YtphifanacehppaaGreatClHJournalKeepsB
import Derived.Test.YtphifanacehppaaGreatClHJournalKeepsE
import Derived.Test.YtphifanacehppaaGreatCmD
import Derived.Test.YtphifanacehppaaGreatCmA
import Derived.Test.YtphifanacehppaaGreatCmB
import Derived.Test.YtphifanacehppaaGreatCmC
import Derived.Handy
/- Contract of the reference's add of layer 11. No condition. -/
namespace Go.Proofs.YtphifanacehppaaGreat.journal
open Go Go.RowKit Go.Proofs.YtphifanacehppaaGreat.flash Go.Proofs.YtphifanacehppaaGreat.geom
set_option linter.unusedVariables false

section
variable {o : Oper} {a : Act} {w : World}
theorem exec_loads {x : Operand} {ad : Addr} {p : Option Addr} {n c : Nat} (ho : o.op = .load 46 x) (hx : a.eval x = .pointer (some ad)) (hc : w.cell? ad = some (.slice p n c)) : (execOp a.eval o).run Tryz.prog w = .ok (.value (.slice p n c)) w := by
  unfold execOp
  rw [ho]
  simp only [hx]
  go_simp
theorem exec_load1 {x : Operand} {ad : Addr} {p : Option Addr} {n c : Nat} (ho : o.op = .load 24 x) (hx : a.eval x = .pointer (some ad)) (hc : w.cell? ad = some (.slice p n c)) : (execOp a.eval o).run Tryz.prog w = .ok (.value (.slice p n c)) w := by
  unfold execOp
  rw [ho]
  simp only [hx]
  go_simp
theorem exec_put1 {x y : Operand} {ad : Addr} {v : Value} {p : Option Addr} {n c : Nat} (ho : o.op = .store 46 x y) (hx : a.eval x = .pointer (some ad)) (hy : a.eval y = .slice p n c) (hc : w.cell? ad = some v) (hf : w.frozen? ad = false) : (execOp a.eval o).run Tryz.prog w = .ok .skip (w.setCell ad (.slice p n c)) := by
  unfold execOp
  rw [ho]
  simp only [hx, hy]
  go_simp
theorem exec_join {x y : Operand} {base : Nat} {v : Value} {n : Nat} {xs news : List Value} {ap : Option Addr} {m c : Nat} (ho : o.op = .call { callee := .builtin .append, args := #[x, y], argTypes := #[46, 46] }) (hx : a.eval x = v) (hy : a.eval y = .slice ap m c)
    (hown : w.ownsRow base 24 1 v n xs) (hl : news.length = m) (hnews : m = 0 ∨ ∃ ad, ap = some ad ∧ ∀ j u, news[j]? = some u → w.cell? (ad.add j) = some u) (h1 : ∀ u ∈ news, u.oneCell' = true) (hn : n + m ≤ 1048576) (hbase : base ≤ w.heap.size) :
    ∃ v' w', (execOp a.eval o).run Tryz.prog w = .ok (.value v') w' ∧ w'.ownsRow base 24 1 v' (n + m) (xs ++ news) ∧ w.grownBy w' v.ownBlock := by
  obtain ⟨j0, hj, hy0, hy1, hy2⟩ := info_parts slice_info
  by_cases hm : m = 0
  · subst hm
    obtain rfl : news = [] := List.eq_nil_of_length_eq_zero hl
    obtain ⟨bp, cp, rfl, hcp⟩ := ownsRow_slice hown
    have hsrc : Src Tryz.prog j0.size 46 (.slice ap 0 c) 0 [] w := by
      cases ap with
      | none => exact Src.ofNil w Tryz.underlying46 c
      | some ad => exact Src.ofSlice w Tryz.underlying46 ad 0 c [] (by simp) (by simp) (by simp)
    have hrun := run_append_nothing w 46 46 o.type 24 j0 Tryz.underlying46 hj bp n cp hcp _ hsrc
    refine ⟨_, w, ?_, by simpa using hown, grown_refl _ _⟩
    unfold execOp
    simp [ho, resolve, invoke, builtin, hx, hy, hrun, Result.andThen]
  · rcases hnews with h0 | ⟨ad, rfl, hc⟩
    · exact absurd h0 hm
    · obtain ⟨v', w', h2, h3, h4, _, _⟩ := run_append_own_at w base 46 o.type 24 j0 (.slice none 0 0) 1 24 Tryz.underlying46 hj hy0 hy1 hy2 rfl (by decide) v n xs hown ad m c news (by omega) hc h1 (by unfold maxLen; omega) (by omega) hbase
      refine ⟨v', w', ?_, h3, h4⟩
      unfold execOp
      simp [ho, resolve, invoke, builtin, hx, hy, h2, Result.andThen]
theorem exec_joined {x y : Operand} {n : Nat} {news : List Value} {ap : Option Addr} {c B : Nat} (ho : o.op = .call { callee := .builtin .append, args := #[x, y], argTypes := #[46, 46] }) (hx : a.eval x = .slice none 0 0) (hy : a.eval y = .slice ap n c)
    (hl : news.length = n) (hnews : n = 0 ∨ ∃ ad, ap = some ad ∧ ∀ j u, news[j]? = some u → w.cell? (ad.add j) = some u) (h1 : ∀ u ∈ news, u.oneCell' = true) (hn : n ≤ 1048576) (hB : B ≤ w.heap.size) :
    ∃ v' w', (execOp a.eval o).run Tryz.prog w = .ok (.value v') w' ∧ Below w.heap.size w w' ∧ w'.ownsRow B 24 1 v' n news := by
  obtain ⟨v', w', k1, k2, k3⟩ := exec_join (base := B) ho hx hy (World.ownsRow_nil _ _ _ _) hl hnews h1 (by omega) hB
  rw [Nat.zero_add, List.nil_append] at k2
  exact ⟨v', w', k1, (Below.refl _ _).grown k3 (Nat.le_refl _) (fun k hk => by cases hk), k2⟩
end
/-- what add leaves -/
def Added (X : Nat → Prop) (j g : Nat) (c0 c1 c3 : Value) (R : Part) (w w' : World) : Prop :=
  ∃ wv cv, Block w' j 48 [c0, c1, .int .i64 (R.tail : Int), c3, .int .i64 (R.seq : Int), wv, cv] ∧ LoadAt (fun y => (X y ∨ y = g ∨ w.heap.size ≤ y) ∧ y < w'.heap.size) w' wv R.whole ∧ LoadsAt (fun y => (X y ∨ y = g ∨ w.heap.size ≤ y) ∧ y < w'.heap.size) w' cv R.changes ∧ Only (fun y => y = j) w w'
theorem reads_cells {w : World} {a : Option Addr} {Ls : List (List Nat)} {vs : List Value} {e : TypeId} {c : Nat} (h : w.ownsRow 0 e 1 (.slice a Ls.length c) Ls.length vs) : Ls.length = 0 ∨ ∃ ad, a = some ad ∧ ∀ j u, vs[j]? = some u → w.cell? (ad.add j) = some u := by
  by_cases hz : Ls.length = 0
  · exact .inl hz
  · obtain ⟨q, cap, he, _⟩ := ownsRow_form h (by omega)
    cases he
    refine .inr ⟨_, rfl, fun j u hu => ?_⟩
    rcases (Vals.own h).2 with hv | ⟨b, off, hb, _, hv⟩
    · omega
    · cases hb
      have := hv j _ hu
      rw [Addr.add_lit]
      exact this
set_option maxHeartbeats 3200000 in
theorem refAdd_any {X : Nat → Prop} {j g c n k s : Nat} {c0 c1 c3 wv cv : Value} {L : List Nat} {w : World} (p : Part)
    (hB : Block w j 48 [c0, c1, .int .i64 (p.tail : Int), c3, .int .i64 (p.seq : Int), wv, cv]) (hw : LoadAt X w wv p.whole) (hc : LoadsAt X w cv p.changes) (hX : ¬ X j) (hrow : Row w 43 .u32 g c L) (hgj : g ≠ j) (hn : L.length + 3 = n) (ht : p.tail + n ≤ 8192) (hlen : p.changes.length ≤ 8192) :
    Calls Tryz.prog 65 #[.pointer (some ⟨j, 0, none⟩), .agg #[.int .i64 (k : Int), .int .i64 (s : Int), .slice (some ⟨g, 0, none⟩) L.length c], .int .i64 (n : Int)] w fun e w' => e = .returned (.tuple #[]) ∧ Added X j g c0 c1 c3 (p.add k s L) w w' := by
  have hlt := hB.lt
  have hglt := hrow.lt
  have hb1 : Below w.heap.size w (w.alloc (.cells #[.int .i64 (k : Int), .int .i64 (s : Int), .slice (some ⟨g, 0, none⟩) L.length c] 118)) := (Below.refl _ _).alloc (Nat.le_refl _) _
  have hF : Block (w.alloc (.cells #[.int .i64 (k : Int), .int .i64 (s : Int), .slice (some ⟨g, 0, none⟩) L.length c] 118)) w.heap.size 118 [.int .i64 (k : Int), .int .i64 (s : Int), .slice (some ⟨g, 0, none⟩) L.length c] := Block.new w 118 [.int .i64 (k : Int), .int .i64 (s : Int), .slice (some ⟨g, 0, none⟩) L.length c]
  have hB1 := hB.later hb1
  have i1 : (p.tail : Int) + (n : Int) ≤ 8192 := by omega
  have k2 : w.cell? ⟨j, 2, none⟩ = some (.int .i64 (p.tail : Int)) := hB.cell 2
  have k4 : w.cell? ⟨j, 4, none⟩ = some (.int .i64 (p.seq : Int)) := hB.cell 4
  obtain ⟨wa, wc, rfl, _⟩ := hw.reads
  obtain ⟨ca, cc, rfl, hcc⟩ := hc.slice
  have k5 : w.cell? ⟨j, 5, none⟩ = some (.slice wa p.whole.length wc) := hB.cell 5
  have k6 : w.cell? ⟨j, 6, none⟩ = some (.slice ca p.changes.length cc) := hB.cell 6
  have f2 := hB.frozen 2
  have f4 := hB.frozen 4
  have f5 := hB.frozen 5
  have f6 := hB.frozen 6
  have hne : w.heap.size ≠ j := by omega
  have hne2 : j ≠ w.heap.size := by omega
  have HF := hid hF
  have HB1 := hid hB1
  have HB := hid hB
  have HW := hid hw
  have HC := hid hc
  have HX := hid hX
  have HROW := hid hrow
  have HN := hid hn
  have HBL := hid hb1
  have HLT := hid hlt
  have HGLT := hid hglt
  have HGJ := hid hgj
  have HLEN := hid hlen
  have d0 := hF.cell 0
  have d1 := hF.cell 1
  have d2 := hF.cell 2
  obtain ⟨R, hR⟩ : ∃ R, Hid (p.add k s L = R) := ⟨_, rfl⟩
  rw [hR.out]
  have hR2 := hR.out
  unfold Part.add at hR2
  rw [hn] at hR2
  by_cases hk1 : k = 1
  · rw [if_pos hk1] at hR2
    have HR := hid hR2
    have hkb : ((k : Int) == 1) = true := by simp; omega
    clear hB hB1 hF hw hc hX hrow hn hb1 hlen hR2 hk1 hglt hgj ht
    go_enter Tryz.func65, Tryz.ntmps65
    go_wp2
    refine ret0 rfl rfl ⟨rfl, ?_⟩
    have hO : Only (fun y => y = j) w (((((w.setCell ⟨j, 4, none⟩ (.int .i64 (s : Int))).setCell ⟨j, 2, none⟩ (.int .i64 ((p.tail : Int) + (n : Int)))).setCell ⟨j, 5, none⟩ (.slice (some ⟨g, 0, none⟩) L.length c)).setCell ⟨j, 6, none⟩ (.slice none 0 0)).alloc
      (.cells #[.int .i64 (k : Int), .int .i64 (s : Int), .slice (some ⟨g, 0, none⟩) L.length c] 118)) :=
      (((((Only.refl (fun y => y = j) w).setCell (g := j) (.inl rfl) 4 _).setCell (g := j) (.inl rfl) 2 _).setCell (g := j) (.inl rfl) 5 _).setCell (g := j) (.inl rfl) 6 _).alloc _
    rw [← HR.out]
    refine ⟨.slice (some ⟨g, 0, none⟩) L.length c, .slice none 0 0, ((((HB.out.setCell 4 (.int .i64 (s : Int))).setCell 2 (.int .i64 ((p.tail : Int) + (n : Int)))).setCell 5 (.slice (some ⟨g, 0, none⟩) L.length c)).setCell 6 (.slice none 0 0)).alloc _, ?_, .nil, hO⟩
    have hr := HROW.out.only hO HGJ.out
    exact LoadAt.row hr ⟨.inr (.inl rfl), hr.lt⟩
  · rw [if_neg hk1] at hR2
    have HR := hid hR2
    have hkb : ((k : Int) == 1) = false := by simp; omega
    clear hB hB1 hF hw hc hX hrow hn hb1 hlen hR2 hk1 hglt hgj ht
    go_enter Tryz.func65, Tryz.ntmps65
    go_wp2
    obtain ⟨W, hW⟩ : ∃ x, Hid (((w.setCell ⟨j, 4, none⟩ (.int .i64 (s : Int))).setCell ⟨j, 2, none⟩ (.int .i64 ((p.tail : Int) + (n : Int)))).alloc (.cells #[.int .i64 (k : Int), .int .i64 (s : Int), .slice (some ⟨g, 0, none⟩) L.length c] 118) = x) := ⟨_, rfl⟩
    rw [hW.out]
    have hO : Only (fun y => y = j) w W := by
      rw [← hW.out]
      exact (((Only.refl (fun y => y = j) w).setCell (g := j) (.inl rfl) 4 _).setCell (g := j) (.inl rfl) 2 _).alloc _
    have hBJ : Block W j 48 [c0, c1, .int .i64 ((p.tail : Int) + (n : Int)), c3, .int .i64 (s : Int), .slice wa p.whole.length wc, .slice ca p.changes.length cc] := by
      rw [← hW.out]
      exact ((HB.out.setCell 4 (.int .i64 (s : Int))).setCell 2 (.int .i64 ((p.tail : Int) + (n : Int)))).alloc _
    have hBF : Block W w.heap.size 118 [.int .i64 (k : Int), .int .i64 (s : Int), .slice (some ⟨g, 0, none⟩) L.length c] := by
      rw [← hW.out]
      have := Block.new ((w.setCell ⟨j, 4, none⟩ (.int .i64 (s : Int))).setCell ⟨j, 2, none⟩ (.int .i64 ((p.tail : Int) + (n : Int)))) 118 [.int .i64 (k : Int), .int .i64 (s : Int), .slice (some ⟨g, 0, none⟩) L.length c]
      simpa using this
    obtain ⟨vs, hv1, hv2, hv3⟩ := HC.out
    have hv1' : W.ownsRow 0 24 1 (.slice ca p.changes.length cc) p.changes.length vs := ownsRow_same hv1 fun y hy => hO.block y (World.ownsRow.lt hv1 y hy).2 (fun e => HX.out (e ▸ hv2 y hy))
    have hcells : ∀ w', Below W.heap.size W w' → p.changes.length = 0 ∨ ∃ ad, ca = some ad ∧ ∀ i u, vs[i]? = some u → w'.cell? (ad.add i) = some u := fun w' hb => reads_cells (ownsRow_same hv1' fun y hy => hb.block y (World.ownsRow.lt hv1' y hy).2)
    have hvl : vs.length = p.changes.length := by have := hv1.1; omega
    have hv1o : ∀ u ∈ vs, u.oneCell' = true := fun u hu => by
      obtain ⟨i, hi, rfl⟩ := List.mem_iff_getElem.1 hu
      obtain ⟨x, hx, hl⟩ := hv3 i (by omega)
      rw [List.getElem?_eq_getElem hi] at hx
      cases hx
      exact hl.one
    have HO := hid hO
    have HBJ := hid hBJ
    have HBF := hid hBF
    have HV3 := hid hv3
    have HV2 := hid hv2
    have HV1 := hid hv1
    have HCELL := hid hcells
    have HVL := hid hvl
    have HV1O := hid hv1o
    have HVB : Hid (∀ b, (Value.slice ca p.changes.length cc).ownBlock = some b → b < W.heap.size) := hid fun b hb => (World.ownsRow.lt hv1' b hb).2
    clear hO hBJ hBF hv1 hv2 hv3 hv1' hcells hvl hv1o
    refine plan.regionT (by kernel_rfl) ?_
    refine plan.free 0 _ (.pointer (some ⟨j, 0, none⟩)) rfl (by kernel_rfl) (by kernel_rfl) (by kernel_rfl) (by kernel_rfl) (fun w' => (by kernel_rfl)) ?_
    refine plan.free 1 _ (.pointer (some ⟨j, 0, none⟩)) rfl (by kernel_rfl) (by kernel_rfl) (by kernel_rfl) (by kernel_rfl) (fun w' => (by kernel_rfl)) ?_
    refine plan.free 2 _ (.pointer (some ⟨j, 0, none⟩)) rfl (by kernel_rfl) (by kernel_rfl) (by kernel_rfl) (by kernel_rfl) (fun w' => (by kernel_rfl)) ?_
    refine plan.free 3 _ (.pointer (some ⟨j, 6, none⟩)) rfl (by kernel_rfl) (by kernel_rfl) (by kernel_rfl) (by kernel_rfl) (fun w' => (by kernel_rfl)) ?_
    refine plan.free 6 _ (.pointer (some ⟨w.heap.size, 2, none⟩)) rfl (by kernel_rfl) (by kernel_rfl) (by kernel_rfl) (by kernel_rfl) (fun w' => (by kernel_rfl)) ?_
    refine plan.to4 35 36 38 39 4 (fun p q r s => #[true, true, true, true, p, q, true, r, s, false, false, false, false]) (by kernel_rfl) (by kernel_rfl) (by kernel_rfl) ?_
    refine plan.cross _ _ 4 7 5 8 35 36 38 39 4 (by decide) (by decide) (by decide) (by decide) (by decide) (by decide) _ _ _ _ (fun p q r s => #[true, true, true, true, p, q, true, r, s, false, false, false, false])
      rfl rfl rfl rfl rfl rfl rfl rfl rfl rfl rfl rfl (fun _ _ _ => rfl) (fun _ _ _ => rfl) (fun _ _ _ => rfl) (fun _ _ _ => rfl) (by kernel_rfl) (by kernel_rfl) (by kernel_rfl) (by kernel_rfl) (by kernel_rfl) (by kernel_rfl) (by kernel_rfl) (by kernel_rfl)
      (.slice ca p.changes.length cc) (.slice (some ⟨g, 0, none⟩) L.length c)
      (fun v w' => w'.ownsRow W.heap.size 24 1 v p.changes.length vs) (fun v w' => ∃ q, v = .slice (some ⟨q, 0, none⟩) 1 1 ∧ Block w' q 24 [.slice (some ⟨g, 0, none⟩) L.length c])
      (fun x w1 w2 h k => ownsRow_same h fun y hy => k.block y (World.ownsRow.lt h y hy).2) (fun x w1 w2 h k => h.imp fun q h => ⟨h.1, h.2.later k⟩)
      ?rA ?rB ?yA ?yB ?rest undef undef undef undef
    case rA =>
      intro u v x y w' hb'
      replace hb' : Below W.heap.size W w' := (below_drewN (Below.refl _ _) 1).trans hb'
      exact exec_loads (ad := ⟨j, 6, none⟩) rfl (by kernel_rfl) ((HBJ.out.later hb').cell 6)
    case rB =>
      intro u v x y w' hb'
      replace hb' : Below W.heap.size W w' := (below_drewN (Below.refl _ _) 1).trans hb'
      exact exec_load1 (ad := ⟨w.heap.size, 2, none⟩) rfl (by kernel_rfl) ((HBF.out.later hb').cell 2)
    case yA =>
      intro v x y w' hb'
      replace hb' : Below W.heap.size W w' := (below_drewN (Below.refl _ _) 1).trans hb'
      exact exec_joined (ap := ca) (c := cc) rfl (by kernel_rfl) (by kernel_rfl) HVL.out (HCELL.out w' hb') HV1O.out (by have := HLEN.out; omega) hb'.size
    case yB =>
      intro u v y w' hb'
      exact ⟨_, w'.alloc (.cells #[.slice (some ⟨g, 0, none⟩) L.length c] 24), by kernel_rfl, (Below.refl _ _).alloc (Nat.le_refl _) _, _, rfl, Block.new w' 24 [.slice (some ⟨g, 0, none⟩) L.length c]⟩
    case rest =>
      rintro v y w' hown ⟨q, rfl, hq⟩ hb'
      replace hb' : Below W.heap.size W w' := (below_drewN (Below.refl _ _) 1).trans hb'
      refine plan.oneE 9 _ (fun v' w9 => w9.ownsRow W.heap.size 24 1 v' (p.changes.length + 1) (vs ++ [.slice (some ⟨g, 0, none⟩) L.length c]) ∧ w'.grownBy w9 v.ownBlock) rfl rfl (by kernel_rfl)
        (exec_join (m := 1) (c := 1) (ap := some ⟨q, 0, none⟩) rfl (by kernel_rfl) (by kernel_rfl) hown rfl (.inr ⟨⟨q, 0, none⟩, rfl, World.news_of_block (cs := #[.slice (some ⟨g, 0, none⟩) L.length c]) (t := 24) (fr := (0, 0)) hq⟩) (by simp [Value.oneCell']) (by have := HLEN.out; omega) hb'.size) ?_
      rintro v' w9 ⟨h2, h3⟩
      have hvb : ∀ y, v.ownBlock = some y → W.heap.size ≤ y := fun y hy => (World.ownsRow.lt hown y hy).1
      have hb9 : Below W.heap.size W w9 := Below.grown hb' h3 hb'.size hvb
      obtain ⟨va, vc, rfl, _⟩ := ownsRow_slice h2
      have hB9 := HBJ.out.later hb9
      refine plan.oneT (w1 := w9) 10 _ (.pointer (some ⟨j, 0, none⟩)) rfl rfl (by kernel_rfl) (by kernel_rfl) ?_
      refine plan.oneT (w1 := w9) 11 _ (.pointer (some ⟨j, 6, none⟩)) rfl rfl (by kernel_rfl) (by kernel_rfl) ?_
      refine plan.lastT (w1 := w9.setCell ⟨j, 6, none⟩ (.slice va (p.changes.length + 1) vc)) 12 _ rfl rfl rfl (by kernel_rfl) (by kernel_rfl) (exec_put1 (ad := ⟨j, 6, none⟩) rfl (by kernel_rfl) (by kernel_rfl) (hB9.cell 6) (hB9.frozen 6)) ?_
      refine ret0 rfl rfl ⟨rfl, ?_⟩
      rw [← HR.out]
      have hO12 : Only (fun y => y = j) w (w9.setCell ⟨j, 6, none⟩ (.slice va (p.changes.length + 1) vc)) := (HO.out.later hb9).setCell (g := j) (.inl rfl) 6 _
      have hjW : j < W.heap.size := HBJ.out.lt
      have hwW := HO.out.size
      have hsz : (w9.setCell ⟨j, 6, none⟩ (.slice va (p.changes.length + 1) vc)).heap.size = w9.heap.size := by simp
      have wide : ∀ {u : Value} {M : List Nat}, LoadAt X w u M → LoadAt (fun y => (X y ∨ y = g ∨ w.heap.size ≤ y) ∧ y < (w9.setCell ⟨j, 6, none⟩ (.slice va (p.changes.length + 1) vc)).heap.size) (w9.setCell ⟨j, 6, none⟩ (.slice va (p.changes.length + 1) vc)) u M := fun hl =>
        (hl.stays (.only hO12 fun y hy e => HX.out (e ▸ hy))).wide fun y hy hlt => ⟨.inl hy, hlt⟩
      have hlN : (vs ++ [Value.slice (some ⟨g, 0, none⟩) L.length c]).length = p.changes.length + 1 := by rw [List.length_append, HVL.out]; rfl
      have hown6 : (w9.setCell ⟨j, 6, none⟩ (.slice va (p.changes.length + 1) vc)).ownsRow W.heap.size 24 1 (.slice va (p.changes.length + 1) vc) (p.changes.length + 1) (vs ++ [.slice (some ⟨g, 0, none⟩) L.length c]) :=
        ownsRow_same h2 fun y hy => Below.heap_setCell w9 ⟨j, 6, none⟩ _ y (by have := (World.ownsRow.lt h2 y hy).1; show y ≠ j; omega)
      refine ⟨_, _, hB9.setCell 6 _, wide HW.out, ⟨vs ++ [.slice (some ⟨g, 0, none⟩) L.length c], ?_, fun y hy => ?_, fun i hi => ?_⟩, hO12⟩
      · rw [List.length_append, List.length_singleton]
        refine ⟨hown6.1, hown6.2.imp id ?_⟩
        rintro ⟨q2, cap, cur, e1, e2, e3⟩
        exact ⟨q2, cap, cur, e1, Nat.zero_le _, e3⟩
      · have := World.ownsRow.lt hown6 y hy
        exact ⟨.inr (.inr (by omega)), this.2⟩
      · rw [List.length_append, List.length_singleton] at hi
        by_cases hi2 : i < p.changes.length
        · obtain ⟨u, hu, hl⟩ := HV3.out i hi2
          refine ⟨u, by rw [List.getElem?_append_left (by rw [HVL.out]; exact hi2)]; exact hu, ?_⟩
          rw [List.getD_eq_getElem?_getD, List.getElem?_append_left hi2, ← List.getD_eq_getElem?_getD]
          exact wide hl
        · obtain rfl : i = p.changes.length := by omega
          refine ⟨.slice (some ⟨g, 0, none⟩) L.length c, by rw [List.getElem?_append_right (by rw [HVL.out]; exact Nat.le_refl _), HVL.out, Nat.sub_self]; rfl, ?_⟩
          rw [List.getD_eq_getElem?_getD, List.getElem?_append_right (Nat.le_refl _), Nat.sub_self]
          have hr := HROW.out.only hO12 HGJ.out
          exact LoadAt.row hr ⟨.inr (.inl rfl), hr.lt⟩
end Go.Proofs.YtphifanacehppaaGreat.journal
/- Contracts of the reference's Twin and Told of layer 2. -/
namespace Go.Proofs.YtphifanacehppaaGreat.zeros
open Go.RowKit
set_option linter.unusedVariables false

theorem refTwin_any (n : Nat) (hn : n < 65536) (w : World) :
    Calls Tryz.prog 84 #[.int .i64 n] w (Quiet (.int .u32 (twinN n)) w) := by
  have HT : Hid (twinN n = (65535 - n) * 65536 + n) := rfl
  generalize twinN n = t at *
  go_enter Tryz.func84, Tryz.ntmps84
  go_wp2
  go_ret
  refine ⟨ret_int ?_, 0, rfl⟩
  rw [HT.out]
  omega
theorem refTold_any (x : Nat) (hx : x < 4294967296) (w : World) :
    Calls Tryz.prog 106 #[.int .u32 x] w (Quiet (toldV x) w) := by
  have c := fun w' => refTwin_any (x % 65536) (by omega) w'
  simp only [Int.natCast_emod, Int.cast_ofNat_Int] at c
  have ht : twinN (x % 65536) < 4294967296 := twinN_lt _ (by omega)
  unfold toldV toldN
  by_cases h : twinN (x % 65536) = x
  · rw [if_pos h]
    rw [h] at c
    have hq : ((x : Int) != x) = false := by simp
    clear h ht
    go_enter Tryz.func106, Tryz.ntmps106
    go_wp2_with (go_at_call 84; (with_reducible refine (c _).mono ?_); rintro e w' ⟨rfl, m2, rfl⟩)
    go_ret2
    exact ⟨by simp, _, rfl⟩
  · rw [if_neg h]
    generalize twinN (x % 65536) = t at *
    have hq : ((t : Int) != x) = true := by rw [bne_iff_ne]; omega
    clear h ht
    go_enter Tryz.func106, Tryz.ntmps106
    go_wp2_with (go_at_call 84; (with_reducible refine (c _).mono ?_); rintro e w' ⟨rfl, m2, rfl⟩)
    go_ret2
    exact ⟨rfl, _, rfl⟩
end Go.Proofs.YtphifanacehppaaGreat.zeros
/- Contract of the reference's Same of layer 1 at two slices that read alike. -/
namespace Go.Proofs.YtphifanacehppaaGreat.word
open Go.RowKit
set_option linter.unusedVariables false

set_option maxHeartbeats 1600000 in
theorem same_any (a b : Option Addr) (len ca cb : Nat) (xs : List Nat) (w : World) (ha : Reads .u32 w a len xs) (hb : Reads .u32 w b len xs) (hl : len * 4 ≤ 140737488355328) :
    Calls Tryz.prog 18 #[.slice a len ca, .slice b len cb] w (Quiet (.bool true) w) := by
  have hq : ((len : Int) != len) = false := by simp
  go_enter Tryz.func18, Tryz.ntmps18
  go_wp2
  go_loopw [5] (fun i wr => ∃ k : Nat, k ≤ len ∧ i = .int .i64 k ∧ ∃ m, wr = w.drewN m) (fun i _ => len - (intOf i).toNat)
  case atStart => exact ⟨0, Nat.zero_le _, rfl, 0, rfl⟩
  case round =>
    obtain ⟨k, hk, rfl, m, rfl⟩ := hrel
    by_cases hlt : k < len
    · obtain ⟨b1, o1, rfl, _, hc1⟩ := ha.at hlt
      obtain ⟨b2, o2, rfl, _, hc2⟩ := hb.at hlt
      have c1 := hc1 k hlt
      have c2 := hc2 k hlt
      have i1 : (k : Int) < len := by omega
      clear hc1 hc2
      generalize xs.getD k 0 = x1 at *
      have hn : ((x1 : Int) != x1) = false := by simp
      have c1' : (w.drewN m).cell? ⟨b1, o1 + k, none⟩ = some (.int .u32 (x1 : Int)) := c1
      have c2' : (w.drewN m).cell? ⟨b2, o2 + k, none⟩ = some (.int .u32 (x1 : Int)) := c2
      go_wp2
      go_quiet (fail)
      go_wp2
      exact ⟨⟨k + 1, by omega, by go_num, ⟨_, rfl⟩⟩, by simp [intOf]; omega⟩
    · go_wp2
      go_ret
      exact ⟨rfl, _, rfl⟩
end Go.Proofs.YtphifanacehppaaGreat.word
/- Contracts of the reference's Right and Lay of layer 10 (frame). No condition but a row of words. -/
namespace Go.Proofs.YtphifanacehppaaGreat.frame
open Go.RowKit Go.Proofs.YtphifanacehppaaGreat.word Go.Proofs.YtphifanacehppaaGreat.zeros
set_option linter.unusedVariables false

/-- the call returns v, and nothing that was there has turned -/
def Gives (v : Value) (w : World) (e : Ending) (w' : World) : Prop := e = .returned v ∧ Below w.heap.size w w'
theorem okB_no {k s : Int} {len : Nat} {r : Bool} (h : Hid (okB k s len = r)) (hn : ¬ ((k = 1 ∨ k = 2) ∧ 1 ≤ s ∧ s ≤ 1073741823 ∧ 1 ≤ len ∧ len ≤ 56)) : false = r := by
  rw [← h.out]; symm; rw [Bool.eq_false_iff, ne_eq, okB_true]; exact hn
theorem okB_yes {k s : Int} {len : Nat} {r : Bool} (h : Hid (okB k s len = r)) (hn : (k = 1 ∨ k = 2) ∧ 1 ≤ s ∧ s ≤ 1073741823 ∧ 1 ≤ len ∧ len ≤ 56) : true = r := by
  rw [← h.out]; symm; rw [okB_true]; exact hn
theorem refRight_any (k s : Int) (a : Option Addr) (len cap : Nat) (w : World) :
    Calls Tryz.prog 107 #[.agg #[.int .i64 k, .int .i64 s, .slice a len cap]] w (Gives (.bool (okB k s len)) w) := by
  generalize hm : okB k s len = r
  have HM := hid hm
  have HB : Hid (Below w.heap.size w (w.alloc (.cells #[.int .i64 k, .int .i64 s, .slice a len cap] 118))) := hid ((Below.refl _ _).alloc (Nat.le_refl _) _)
  clear hm
  unfold Gives
  by_cases h1 : k = 1 ∨ k = 2
  · by_cases h2 : s < 1
    · rcases h1 with rfl | rfl <;>
      · go_enter Tryz.func107, Tryz.ntmps107
        go_wp2
        go_ret
        exact ⟨ret_bool (okB_no HM (by omega)), HB.out⟩
    · by_cases h3 : s ≤ 1073741823
      · by_cases h4 : len = 0
        · subst h4
          rcases h1 with rfl | rfl <;>
          · go_enter Tryz.func107, Tryz.ntmps107
            go_wp2
            go_ret
            exact ⟨ret_bool (okB_no HM (by omega)), HB.out⟩
        · have i1 : (len : Int) ≥ 1 := by omega
          by_cases h5 : len ≤ 56
          · have i2 : (len : Int) ≤ 56 := by omega
            rcases h1 with rfl | rfl <;>
            · go_enter Tryz.func107, Tryz.ntmps107
              go_wp2
              go_ret
              exact ⟨ret_bool (okB_yes HM (by omega)), HB.out⟩
          · have i2 : ¬ (len : Int) ≤ 56 := by omega
            rcases h1 with rfl | rfl <;>
            · go_enter Tryz.func107, Tryz.ntmps107
              go_wp2
              go_ret
              exact ⟨ret_bool (okB_no HM (by omega)), HB.out⟩
      · rcases h1 with rfl | rfl <;>
        · go_enter Tryz.func107, Tryz.ntmps107
          go_wp2
          go_ret
          exact ⟨ret_bool (okB_no HM (by omega)), HB.out⟩
  · have h6 : k ≠ 1 := fun h => h1 (.inl h)
    have h7 : k ≠ 2 := fun h => h1 (.inr h)
    go_enter Tryz.func107, Tryz.ntmps107
    go_wp2
    go_ret
    exact ⟨ret_bool (okB_no HM (by omega)), HB.out⟩
set_option maxHeartbeats 1600000 in
theorem refLay_yes (k s : Nat) (a : Option Addr) (len cap : Nat) (L : List Nat) (w : World) (hr : Reads .u32 w a len L) (hL : ∀ x ∈ L, x < 4294967296) (hok : okB k s len = true) :
    Calls Tryz.prog 63 #[.agg #[.int .i64 k, .int .i64 s, .slice a len cap]] w fun e w' => ∃ g cap', e = .returned (.slice (some ⟨g, 0, none⟩) (len + 3) cap') ∧
      w.heap.size ≤ g ∧ Row w' 43 .u32 g cap' (words k s L) ∧ Below w.heap.size w w' := by
  obtain ⟨i0, hi, hz0, hz1, hz2⟩ := info_parts Tryzinfo34
  have hlen := hr.1
  obtain ⟨hk, h1, h2, h3, h4⟩ := okB_true.1 hok
  have ct := fun w' => refTwin_any len (by omega) w'
  obtain ⟨H, hH⟩ : ∃ H : Nat, H = k * 1073741824 + s := ⟨_, rfl⟩
  have HH := hid hH
  have HHe : Hid ((k : Int) * 1073741824 + s = H) := hid (by omega)
  have HL := hid hL
  have HN := hid hlen
  have HB := hid (body_length k s L)
  have HS := hid (sealed_body k s L (by omega))
  have hw0 : Below w.heap.size w (w.alloc (.cells #[.int .i64 k, .int .i64 s, .slice a len cap] 118)) := (Below.refl _ _).alloc (Nat.le_refl _) _
  have hr0 := hr.below hw0
  obtain ⟨b, off, rfl, hbs, hc⟩ := hr0.at (show 0 < len by omega)
  clear hL hlen hok hH hr hc
  go_enter Tryz.func63, Tryz.ntmps63
  go_wp2
  refine tail.region 12 (by kernel_rfl) (by kernel_rfl) ?_
  simp only [List.take_succ_cons, List.take_zero, List.drop_succ_cons, List.drop_zero]
  repeat (go_big_quiet_step ((go_at_call 84; exact quietAt (ct _))))
  refine wpQuiet_nil ?_
  rintro _ ⟨nq, rfl⟩
  have hb1 : Below w.heap.size w (((w.alloc (.cells #[.int .i64 k, .int .i64 s, .slice (some ⟨b, off, none⟩) len cap] 118)).drewN nq).alloc (.cells #[.int .u32 (twinN len : Nat), .int .u32 ((k : Int) * 1073741824 + s)] 43)) := (below_drewN hw0 nq).alloc (by simp) _
  have hr1 := hr0.below (w' := ((w.alloc (.cells #[.int .i64 k, .int .i64 s, .slice (some ⟨b, off, none⟩) len cap] 118)).drewN nq).alloc (.cells #[.int .u32 (twinN len : Nat), .int .u32 ((k : Int) * 1073741824 + s)] 43)) ((below_drewN (Below.refl _ _) nq).alloc (by simp) _)
  have hown : (((w.alloc (.cells #[.int .i64 k, .int .i64 s, .slice (some ⟨b, off, none⟩) len cap] 118)).drewN nq).alloc (.cells #[.int .u32 (twinN len : Nat), .int .u32 ((k : Int) * 1073741824 + s)] 43)).ownsRow w.heap.size 43 1 (.slice (some ⟨w.heap.size + 1, 0, none⟩) 2 2) 2 [.int .u32 (twinN len : Nat), .int .u32 ((k : Int) * 1073741824 + s)] :=
    ⟨rfl, .inr ⟨w.heap.size + 1, 2, #[.int .u32 (twinN len : Nat), .int .u32 ((k : Int) * 1073741824 + s)], rfl, by omega, by
      have h := heap_alloc_new ((w.alloc (.cells #[.int .i64 k, .int .i64 s, .slice (some ⟨b, off, none⟩) len cap] 118)).drewN nq) (.cells #[.int .u32 (twinN len : Nat), .int .u32 ((k : Int) * 1073741824 + s)] 43)
      simpa using h, Nat.le_refl _, by unfold maxLen; omega, rfl, rfl⟩⟩
  have HOWN := hid hown
  have HCS := hid (cells_of hr1)
  have HB1 := hid hb1
  clear hown hb1
  go_wp2_with (first
    | (at_builtin; refine wpList_append_own _ rfl _ _ 24 rfl w.heap.size 43 i0 (.int .u32 0) 1 4 Tryz.underlying24 hi hz0 hz1 hz2 rfl (by decide) (.slice (some ⟨w.heap.size + 1, 0, none⟩) 2 2) 2 [.int .u32 (twinN len : Nat), .int .u32 ((k : Int) * 1073741824 + s)] rfl HOWN.out ⟨b, off, none⟩ len cap (L.map fun x : Nat => Value.int .u32 (x : Int)) rfl (by simp [HN.out]) HCS.out (ints_one _ _) (by unfold maxLen; omega) (by omega) HB1.out.size ?_))
  intro v2 w2 ho2 hg2 _
  have hb2 : Below w.heap.size w w2 := HB1.out.grown hg2 HB1.out.size (fun k hk => by cases hk; exact Nat.le_succ _)
  have ho3 : w2.ownsRow w.heap.size 43 1 v2 (len + 2) ((body k s L).map fun x : Nat => Value.int .u32 (x : Int)) := by
    have e : (body k s L).map (fun x : Nat => Value.int .u32 (x : Int)) = [.int .u32 (twinN len : Nat), .int .u32 ((k : Int) * 1073741824 + s)] ++ L.map (fun x : Nat => Value.int .u32 (x : Int)) := by
      unfold body
      rw [HN.out, ← HH.out, HHe.out]
      rfl
    rw [e, Nat.add_comm len 2]
    exact ho2
  obtain ⟨g, cap', rfl, hg, hrow⟩ := Row.own ho3 (by omega)
  have hrd := hrow.reads
  rw [HB.out, HN.out] at hrd
  have cse := refSeal_any (some ⟨g, 0, none⟩) (len + 2) cap' (body k s L) w2 hrd (body_lt k s L (by omega) (by omega) (by rw [HN.out]; omega) HL.out) (by omega) (fun h => by cases h)
  rw [HS.out] at cse
  have HB2 := hid hb2
  clear hb2 ho2 ho3 hg2 hrd hrow hr1 hr0 hw0
  go_wp2_with (go_at_call 85; ((with_reducible refine cse.mono ?_); rintro e w4 ⟨v, rfl, hov, hbv⟩))
  go_ret
  obtain ⟨g', cap'', rfl, hg', hrow⟩ := Row.own hov (by omega)
  exact ⟨g', cap'', rfl, by have := HB2.out.size; omega, hrow, HB2.out.trans (hbv.mono HB2.out.size)⟩
end Go.Proofs.YtphifanacehppaaGreat.frame
