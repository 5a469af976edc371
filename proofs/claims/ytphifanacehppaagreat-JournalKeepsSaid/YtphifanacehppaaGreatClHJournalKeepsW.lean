/- JournalKeeps: if the power goes in a Change, a Put, or a Mend, a journal that is opened then says what it said ahead of it, or what it would say behind it; mended it is mended without a write. No condition. -/
import Derived.Test.YtphifanacehppaaGreatClHJournalKeepsV
import Derived.Test.YtphifanacehppaaGreatClHJournalKeepsT
import Derived.Test.YtphifanacehppaaGreatClHJournalKeepsU
import Derived.Test.YtphifanacehppaaGreatClHJournalKeepsR
import Derived.Test.YtphifanacehppaaGreatCmA
/- JournalKeeps: the cases together. No condition. -/
namespace Go.Proofs.YtphifanacehppaaGreat.journalKeeps
open Go Go.RowKit Go.Proofs.YtphifanacehppaaGreat.journal Go.Proofs.YtphifanacehppaaGreat.geom Go.Proofs.YtphifanacehppaaGreat.flash
set_option linter.unusedVariables false

theorem walk (g : Geo) (a0 : Option Addr) (cap : Nat) (l : List JAct) (c : Crash) (w : World) (hg : g.Fits) (ac : JActs w a0 l) (fp : ∀ p ∈ l, p.Good w) (lc : l.length ≤ cap) (cm : cap ≤ maxLen) (hc : c.Good w) :
    Calls Tryz.prog 4 #[.agg #[.int .i64 g.sector, .int .i64 g.slot, .int .i64 g.data, .int .i64 g.quota, .int .i64 g.tries, .int .i64 g.life], .slice a0 l.length cap, c.val] w (Yes w) := by
  have hm : c.mLen ≤ maxLen := by have := hc.cm; have := hc.dm; omega
  have hd : drive.Small g ∨ ¬ drive.Small g := Classical.em _
  rcases hd with hs | hs
  · cases hb : bigL l with
    | true => exact walk_awake g a0 cap l c w ac (by omega) hm (.inr (.inl ⟨hs, hb⟩))
    | false =>
      cases hba : bigA c.a with
      | true => exact walk_awake g a0 cap l c w ac (by omega) hm (.inr (.inr (.inl ⟨hs, hb, hba⟩)))
      | false =>
        by_cases hn : c.mLen ≤ 100
        · exact walk_main g a0 cap l c w ac fp hc hs hb hba hn
        · exact walk_awake g a0 cap l c w ac (by omega) hm (.inr (.inr (.inr ⟨hs, hb, hba, by omega⟩)))
  · exact walk_awake g a0 cap l c w ac (by omega) hm (.inl hs)
end Go.Proofs.YtphifanacehppaaGreat.journalKeeps
/- What a crash of layer 11's statements that came in reads as. No condition. -/
namespace Go.Proofs.YtphifanacehppaaGreat.journal
open Go.ChangeShapes Go.WideShapes Go.ChangeAt Go.RowKit Go.Deep
set_option linter.unusedVariables false

section
variable {H : Type} {enc : TypeId × Value → H} {P : Program} {W : World}
theorem open_Crash_arg {r : Reach} {b0 : Nat} {t e2 e3 e5 : TypeId} {F0 F1 F2 f0 f1 f2 f3 : Field} {v : Value} {d : DataW H} {pl : List MemPlace} (hs : P.underlying t = some (.struct #[F0, F1, F2])) (hC : P.cellsOf t = 6)
    (o0 : F0.offset = 0) (o1 : F1.offset = 4) (o2 : F2.offset = 5) (k0 : P.cellsOf F0.type = 4) (k1 : P.cellsOf F1.type = 1) (k2 : P.cellsOf F2.type = 1)
    (hs0 : P.underlying F0.type = some (.struct #[f0, f1, f2, f3])) (hone : oneCellFields P #[f0, f1, f2, f3] = true)
    (u0 : P.underlying f0.type = some (.int .i64)) (u1 : P.underlying f1.type = some (.int .i64)) (u2 : P.underlying f2.type = some (.slice e2)) (ue2 : P.underlying e2 = some (.int .u32)) (ce2 : P.cellsOf e2 = 1) (u3 : P.underlying f3.type = some (.slice e3)) (ue3 : P.underlying e3 = some (.int .u32)) (ce3 : P.cellsOf e3 = 1)
    (u4 : P.underlying F1.type = some (.int .i64)) (u5 : P.underlying F2.type = some (.slice e5)) (ue5 : P.underlying e5 = some (.int .u32)) (ce5 : P.cellsOf e5 = 1)
    (hv : Value.okWide P W r b0 t v) (h : DataW.Trod enc P W 0 (fun _ => true) true t v d pl) : ∃ p : Crash, p.Good W ∧ v = p.val := by
  obtain ⟨cs, rfl, hsz⟩ := okWide_struct hs hv
  obtain ⟨fuel, hf⟩ := h
  rw [hC] at hsz
  obtain ⟨l⟩ := cs
  match l, hsz with
  | [c0, c1, c2, c3, c4, c5], _ =>
    obtain ⟨y0, y1, y2, n, _, _, g0, g1, g2⟩ := trod_struct3 hs hf
    rw [o0, k0] at g0
    rw [o1, k1] at g1
    rw [o2, k2] at g2
    replace g0 : DataW.trod enc P W 0 (fun _ => true) true n F0.type [c0, c1, c2, c3] = some y0 := g0
    replace g1 : DataW.trod enc P W 0 (fun _ => true) true n F1.type [c4] = some y1 := g1
    replace g2 : DataW.trod enc P W 0 (fun _ => true) true n F2.type [c5] = some y2 := g2
    obtain ⟨ys, m, _, _, hl, hlen, hx⟩ := DataW.trod_struct hs0 g0
    have each : ∀ (i : Nat) (f : Field) (c : Value), #[f0, f1, f2, f3][i]? = some f → [c0, c1, c2, c3][i]? = some c → ∃ y, DataW.trod enc P W 0 (fun _ => true) true m f.type [c] = some y := by
      intro i f c hi hc
      obtain ⟨o, k⟩ := hone_of hone i f hi
      have hi6 : i < 4 := by have := (Array.getElem?_eq_some_iff.1 hi).1; simpa using this
      have h1 := hx i f hi
      rw [o, k] at h1
      have e : (([c0, c1, c2, c3].drop i).take 1) = [c] := by
        rw [List.take_one]
        have : ([c0, c1, c2, c3].drop i).head? = some c := by
          rw [List.head?_drop]; exact hc
        rw [this]; rfl
      rw [e] at h1
      have hy : ys[i]? = some (ys[i]'(by rw [hlen]; exact hi6)) := List.getElem?_eq_getElem _
      exact ⟨_, h1.trans hy⟩
    obtain ⟨z0, q0⟩ := each 0 f0 c0 rfl rfl
    obtain ⟨z1, q1⟩ := each 1 f1 c1 rfl rfl
    obtain ⟨z2, q2⟩ := each 2 f2 c2 rfl rfl
    obtain ⟨z3, q3⟩ := each 3 f3 c3 rfl rfl
    obtain ⟨p, hp, rfl, rfl, rfl, rfl⟩ := JAct_cells u0 u1 u2 ue2 ce2 u3 ue3 ce3 q0 q1 q2 q3
    obtain ⟨x4, e4, _, w4⟩ := DataW.trod_int u4 g1
    have a4 := wf_i64 _ w4
    obtain ⟨q5, l5, t5, M5, rfl, hr5, hM5, hl5, hc5⟩ := open_words u5 ue5 ce5 g2
    obtain rfl : c4 = .int .i64 x4 := by simpa using e4
    exact ⟨⟨p, x4, q5, l5, t5, M5⟩, ⟨hp, a4, hr5, hM5, hl5, hc5⟩, rfl⟩
end
end Go.Proofs.YtphifanacehppaaGreat.journal
/- JournalKeeps: if the power goes in a Change, a Put, or a Mend, a journal that is opened then says what it said ahead of it, or what it would say behind it; mended it is mended without a write. No condition. -/
namespace Go.Proofs.YtphifanacehppaaGreat.journalKeeps
open Go.ChangeShapes Go.WideShapes Go.ChangeAt Go.RowKit Go.Proofs.YtphifanacehppaaGreat.geom Go.Proofs.YtphifanacehppaaGreat.journal
open Go.ChangeMaps (open_string shut_string)
set_option linter.unusedVariables false
set_option maxRecDepth 100000 in
theorem lifted (os : Os) (started : os.Started) (H : Type) (enc : TypeId × Value → H) :
    ReturnsInHanded {} Tryz.checked os 4 .any (Rows.journalKeepsSpec.pre6 enc Tryz.prog Tryz.f4 Rows.journalKeepsRow.domain false) (Rows.journalKeepsSpec.post enc Tryz.prog Tryz.f4 false true false false) := by
  refine returnsInHanded_of_change_sized (C := Tryz.checked) own started (by kernel_rfl) Tryz.func4
    (ChangeSpec.witness6 (enc := enc) (C := Tryz.checked) false ⟨#[], #[.agg #[.int .i64 0, .int .i64 0, .int .i64 0, .int .i64 0, .int .i64 0, .int .i64 0], .slice none 0 0, .agg #[.int .i64 0, .int .i64 0, .slice none 0 0, .slice none 0 0, .int .i64 0, .slice none 0 0]], []⟩ 8 (by kernel_rfl) (by kernel_rfl) (by kernel_rfl) (by kernel_rfl)) ?_
  intro W base args ds gs before hval0 hW hcnd hsz0 _
  have hsz : (DataW.weightsEach Tryz.prog (Tryz.f4.params.toList ++ Rows.journalKeepsSpec.plain.varTypes Tryz.prog) (ds ++ gs)).all (· ≤ reachBytes) = true := hsz0
  clear hsz0
  have hval : ∀ (j : Nat) t v, Tryz.f4.params[j]? = some t → args[j]? = some v → Value.okWide Tryz.prog W .any base t v := hval0
  have hW' := hW
  obtain ⟨p, q, hA0, hV, rfl, hfz, hnd⟩ := hW
  have hA : DataW.TrodAll enc Tryz.prog W 0 (fun _ => true) true Tryz.f4.params.toList args.toList ds p := hA0
  rw [Tryz.params4] at hA hval hsz
  obtain ⟨v0, vs0, d0, ds0, p0, q0, hargs, rfl, rfl, h0, r0⟩ := trodAll_cons hA
  obtain ⟨v1, vs1, d1, ds1, p1, q1, rfl, rfl, rfl, h1, r1⟩ := trodAll_cons r0
  obtain ⟨v2, vs2, d2, ds2, p2, q2, rfl, rfl, rfl, h2, r2⟩ := trodAll_cons r1
  obtain ⟨rfl, rfl, rfl⟩ := trodAll_nil r2
  obtain rfl : args = #[v0, v1, v2] := by cases args; simp_all
  obtain ⟨rfl, rfl⟩ := trodVars_none hV
  have k0 := h0
  have lt0 : ∀ x ∈ p0, x.block < W.heap.size := by obtain ⟨m, hm⟩ := k0; exact DataW.trod_lt m _ _ _ hm
  obtain ⟨pc0, fp0, rfl⟩ := open_geo_arg Tryz.underlying23 (by kernel_rfl) (by kernel_rfl) (fun f hf => by simp only [List.mem_cons, List.not_mem_nil, or_false] at hf; rcases hf with rfl | rfl | rfl | rfl | rfl | rfl <;> exact Tryz.underlying3) (hval 0 23 v0 rfl rfl) h0
  obtain ⟨a1, len1, cap1, rfl⟩ := okWide_slice Tryz.underlying25 (hval 1 25 v1 rfl rfl)
  have k1 := h1
  have lt1 : ∀ x ∈ p1, x.block < W.heap.size := by obtain ⟨m, hm⟩ := k1; exact DataW.trod_lt m _ _ _ hm
  obtain ⟨l1, rfl, ac1, fp1, lc1, cm1⟩ := open_JActs Tryz.underlying25 Tryz.underlying40 (by kernel_rfl) (by kernel_rfl) (by kernel_rfl) (by kernel_rfl) Tryz.underlying24 Tryz.underlying43 (by kernel_rfl) Tryz.underlying24 Tryz.underlying43 (by kernel_rfl) h1
  have k2 := h2
  have lt2 : ∀ x ∈ p2, x.block < W.heap.size := by obtain ⟨m, hm⟩ := k2; exact DataW.trod_lt m _ _ _ hm
  obtain ⟨pc2, fp2, rfl⟩ := open_Crash_arg Tryz.underlying42 (by kernel_rfl) (by kernel_rfl) (by kernel_rfl) (by kernel_rfl) (by kernel_rfl) (by kernel_rfl) (by kernel_rfl) Tryz.underlying40 (by kernel_rfl) (by kernel_rfl) (by kernel_rfl) Tryz.underlying24 Tryz.underlying43 (by kernel_rfl) Tryz.underlying24 Tryz.underlying43 (by kernel_rfl) (by kernel_rfl) Tryz.underlying24 Tryz.underlying43 (by kernel_rfl) (hval 2 42 v2 rfl rfl) h2
  clear hA0 hval0
  refine (walk pc0 a1 cap1 l1 pc2 W fp0 ac1 fp1 lc1 cm1 fp2).mono fun e W' ⟨he, bel⟩ => ?_
  subst he
  exact ⟨_, rfl, _, _, _, [], _, [], hW', trodAll_mk1 (shut_bool Tryz.underlying4 _), (trodAll_cons_mk (Below.trod laidOut (by kernel_rfl) (of_decide_eq_true (by kernel_rfl)) k0 bel lt0) (trodAll_cons_mk (Below.trod laidOut (by kernel_rfl) (of_decide_eq_true (by kernel_rfl)) k1 bel lt1) (trodAll_cons_mk (Below.trod laidOut (by kernel_rfl) (of_decide_eq_true (by kernel_rfl)) k2 bel lt2) trodAll_mk0))), rfl, bel.frame _, fun h => by cases h⟩

theorem holds : Rows.JournalKeepsSaid :=
  OpenClaim.holds_of_wide 4 Tryz.f4 rfl rfl rfl rfl rfl rfl rfl ⟨rfl, rfl, rfl, rfl, rfl⟩ rfl rfl rfl rfl rfl (by kernel_rfl) Tryz.func4 (by kernel_rfl)
    (of_decide_eq_true (by kernel_rfl)) (by unfold Func.isWrapper; first | (rw [if_pos (by decide +kernel)]; kernel_rfl) | (rw [if_neg (by decide +kernel)]; exact ⟨rfl, rfl⟩))
    (fun os started H enc _ => lifted os started H enc)
#print axioms holds
end Go.Proofs.YtphifanacehppaaGreat.journalKeeps
