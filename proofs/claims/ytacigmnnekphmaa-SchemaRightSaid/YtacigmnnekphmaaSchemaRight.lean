/- Contract of layer 13 (schema): Right. No condition. -/
import Derived.Test.YtacigmnnekphmaaSchemaFine
namespace Go.Proofs.Ytacigmnnekphmaa.schema
open Go.RowKit
open Go.Proofs.Ytacigmnnekphmaa.field (Gives newB gives_from)
set_option linter.unusedVariables false

/-- a schema that has just been boxed stays -/
theorem boxS (i : Int) (a : Option Addr) (L : List Fm) (cap : Nat) (w w' : World) (hb : Below (w.alloc (.cells #[.int .i64 i, .slice a L.length cap] 24)).heap.size (w.alloc (.cells #[.int .i64 i, .slice a L.length cap] 24)) w') : w'.cell? ⟨w.heap.size, 0, none⟩ = some (.int .i64 i) ∧ w'.cell? ⟨w.heap.size, 1, none⟩ = some (.slice a L.length cap) ∧ Below w.heap.size w w' := by
  have hB := (Block.new w 24 [.int .i64 i, .slice a L.length cap]).later hb
  exact ⟨hB.cell 0, hB.cell 1, below_out hb⟩
/-- a form's fields are there -/
structure Fm.Ok (w : World) (p : Fm) : Prop where
  rf : field.Fds w p.f p.fL
  cf : p.fL.length ≤ p.fCap
  df : p.fCap ≤ maxLen
theorem Fm.Ok.below {w w' : World} {p : Fm} (h : p.Ok w) (hb : Below w.heap.size w w') : p.Ok w' := ⟨h.rf.below hb, h.cf, h.df⟩
theorem Fm.Good.ok {w : World} {p : Fm} (h : p.Good w) : p.Ok w := ⟨h.rf, h.cf, h.df⟩
/-- a list of forms, each with its fields -/
def FmL (w : World) (a : Option Addr) (F : List Fm) : Prop := Fms w a F ∧ ∀ p ∈ F, p.Ok w
theorem FmL.below {w w' : World} {a : Option Addr} {F : List Fm} (h : FmL w a F) (hb : Below w.heap.size w w') : FmL w' a F := ⟨h.1.below hb, fun p hp => (h.2 p hp).below hb⟩
theorem form_at {w w' : World} {a : Option Addr} {F : List Fm} (h : FmL w a F) (hb : Below w.heap.size w w') {k : Nat} (hk : k < F.length) :
    ∃ b off p, a = some ⟨b, off, none⟩ ∧ b < w'.heap.size ∧ F[k]? = some p ∧ w'.cell? ⟨b, off + k * 2, none⟩ = some (.int .i64 p.id) ∧ w'.cell? ⟨b, off + k * 2 + 1, none⟩ = some (.slice p.f p.fL.length p.fCap) ∧ field.Fds w' p.f p.fL ∧ p.fL.length ≤ maxLen := by
  obtain ⟨b, off, p, h1, h2, h3, h4, h5⟩ := (h.below hb).1.at hk
  have hg := (h.below hb).2 p (List.mem_of_getElem? h3)
  exact ⟨b, off, p, h1, h2, h3, h4, h5, hg.rf, Nat.le_trans hg.cf hg.df⟩
/-- the ID before k -/
def lastOf (F : List Form) (k : Nat) : Int := if k = 0 then -1 else ((F[k - 1]?).map (·.1)).getD 0
theorem lastOf_succ {F : List Form} {k : Nat} {x : Form} (h : F[k]? = some x) : lastOf F (k + 1) = x.1 := by simp [lastOf, h]
theorem last_iff {F : List Form} {k : Nat} {x : Form} (hk : FineS (F.take k)) (hx : F[k]? = some x) (hf : Fine x) : (∀ p ∈ F.take k, p.1 < x.1) ↔ ¬ (x.1 ≤ lastOf F k) := by
  cases k with
  | zero => simp [lastOf]; have := hf.1.1; omega
  | succ k =>
    have hl : k + 1 < F.length := (List.getElem?_eq_some_iff.1 hx).1
    have hy : F[k]? = some F[k] := List.getElem?_eq_getElem (by omega)
    rw [rise hy hk, lastOf_succ hy]; omega
theorem right_iff (v : Int) (F : List Form) : Right v F ↔ (1 ≤ v ∧ v ≤ 65535) ∧ F.length ≤ 8 ∧ FineS F := Iff.rfl

theorem right_any (v : Int) (a : Option Addr) (cap : Nat) (F : List Fm) (w : World) (h : FmL w a F) (hF : F.length ≤ maxLen) :
    Calls Try.prog 17 #[.agg #[.int .i64 v, .slice a F.length cap]] w (Gives (.bool (decide (Right v (forms F)))) w) := by
  have HX := hid (boxS v a F cap w)
  have HF := hid (h.below (newB w (.cells #[.int .i64 v, .slice a F.length cap] 24)))
  have hml : (F.length : Int) ≤ 9223372036854775807 := by unfold maxLen at hF; omega
  obtain ⟨r, hr⟩ : ∃ r : Bool, Hid (decide (Right v (forms F)) = r) := ⟨_, rfl⟩
  rw [hr.out]
  unfold Gives
  have cA := fun t h => within_from v 1 65535 (w.alloc (.cells #[.int .i64 v, .slice a F.length cap] 24)) t h
  have HL := hid (forms_length F)
  clear h hF
  by_cases h1 : 1 ≤ v ∧ v ≤ 65535
  · replace cA := cA true (decide_eq_true h1)
    by_cases h2 : F.length ≤ 8
    · have hd : decide ((F.length : Int) > 8) = false := decide_eq_false (by omega)
      have HRI : Hid (Right v (forms F) ↔ FineS (forms F)) := hid ⟨fun h => h.2.2, fun h => ⟨h1, by rw [forms_length]; exact h2, h⟩⟩
      clear h1
      go_enter Try.func17, Try.ntmps17
      go_wp2_with (go_at_call 28; ((with_reducible refine (cA _ (by first | exact Below.refl _ _ | assumption)).mono ?_); rintro e w1 ⟨rfl, hb1⟩; obtain ⟨z0, z1, hbo⟩ := HX.out _ hb1))
      have HF1 := hid (HF.out.below hb1)
      have HO := hid hbo
      clear HF HX cA hb1 z0 z1 hbo hd
      go_loopw [3, 19] (fun l n wr => ∃ k : Nat, k ≤ F.length ∧ l = .int .i64 (lastOf (forms F) k) ∧ n = .int .i64 (k : Int) ∧ Hid (FineS ((forms F).take k)) ∧ Hid (Below w1.heap.size w1 wr)) (fun _ n _ => F.length - (intOf n).toNat)
      case atStart => exact ⟨0, Nat.zero_le _, rfl, rfl, hid FineS.nil, hid (Below.refl _ _)⟩
      case round =>
        obtain ⟨k, hk, rfl, rfl, HOK, HB⟩ := hrel
        by_cases hlt : k < F.length
        · obtain ⟨b, off, p, rfl, hbl, hp, c0, c1, hfd, hfl⟩ := form_at HF1.out HB.out hlt
          have i1 : (k : Int) < F.length := by omega
          have HP := hid (forms_at hp)
          have HSUC := hid (fineS_succ (forms_at hp))
          have HNO := hid (fineS_no (forms_at hp))
          have HLI := hid (fun hf => last_iff HOK.out (forms_at hp) hf)
          have HLS := hid (lastOf_succ (forms_at hp))
          obtain ⟨i, q, qc, L⟩ := p
          simp only [Fm.p] at HP HSUC HNO HLI HLS c0 c1 hfd hfl
          have cF := fine_any i q qc L (wr.alloc (.cells #[.int .i64 i, .slice q L.length qc] 29)) (hfd.below (newB _ _)) hfl
          have HX2 := hid (boxM i q L qc wr)
          clear hp hfd
          generalize hla : lastOf (forms F) k = la at *
          clear hla
          by_cases hf : Fine (i, L)
          · rw [decide_eq_true hf] at cF
            have HFI := hid hf
            clear hf
            by_cases hl : i ≤ la
            · obtain rfl : false = r := by rw [← hr.out]; exact (decide_eq_false (fun h => HNO.out (fun h2 => (HLI.out HFI.out).1 h2.2 hl) (HRI.out.1 h))).symm
              go_wp2_with (go_at_call 11; ((with_reducible refine cF.mono ?_); rintro e w2 ⟨rfl, hb2⟩; obtain ⟨z0, z1, hbo⟩ := HX2.out _ hb2))
              go_ret
              exact ⟨rfl, HO.out.trans ((HB.out.trans (hbo.mono HB.out.size)).mono HO.out.size)⟩
            · have hd2 : decide (i ≤ la) = false := decide_eq_false hl
              have HNL := hid hl
              clear hl
              go_wp2_with (go_at_call 11; ((with_reducible refine cF.mono ?_); rintro e w2 ⟨rfl, hb2⟩; obtain ⟨z0, z1, hbo⟩ := HX2.out _ hb2))
              exact ⟨⟨k + 1, by omega, by rw [HLS.out], by go_num, hid (HSUC.out.2 ⟨HOK.out, HFI.out, (HLI.out HFI.out).2 HNL.out⟩), hid (HB.out.trans (hbo.mono HB.out.size))⟩, by simp [intOf]; omega⟩
          · rw [decide_eq_false hf] at cF
            obtain rfl : false = r := by rw [← hr.out]; exact (decide_eq_false (fun h => HNO.out (fun h2 => hf h2.1) (HRI.out.1 h))).symm
            clear hf
            go_wp2_with (go_at_call 11; ((with_reducible refine cF.mono ?_); rintro e w2 ⟨rfl, hb2⟩; obtain ⟨z0, z1, hbo⟩ := HX2.out _ hb2))
            go_ret
            exact ⟨rfl, HO.out.trans ((HB.out.trans (hbo.mono HB.out.size)).mono HO.out.size)⟩
        · obtain rfl : k = F.length := by omega
          obtain rfl : true = r := by rw [← hr.out]; have := HOK.out; rw [List.take_of_length_le (by rw [HL.out]; exact Nat.le_refl _)] at this; exact (decide_eq_true (HRI.out.2 this)).symm
          go_wp2
          go_ret
          exact ⟨rfl, HO.out.trans (HB.out.mono HO.out.size)⟩
    · have hd : decide ((F.length : Int) > 8) = true := decide_eq_true (by omega)
      obtain rfl : false = r := by rw [← hr.out]; exact (decide_eq_false (fun h => h2 (by have := h.2.1; rw [forms_length] at this; exact this))).symm
      clear h2
      go_enter Try.func17, Try.ntmps17
      go_wp2_with (go_at_call 28; ((with_reducible refine (cA _ (by first | exact Below.refl _ _ | assumption)).mono ?_); rintro e w1 ⟨rfl, hb1⟩; obtain ⟨z0, z1, hbo⟩ := HX.out _ hb1))
      go_ret
      exact ⟨rfl, by assumption⟩
  · replace cA := cA false (decide_eq_false h1)
    obtain rfl : false = r := by rw [← hr.out]; exact (decide_eq_false (fun h => h1 h.1)).symm
    go_enter Try.func17, Try.ntmps17
    go_wp2_with (go_at_call 28; ((with_reducible refine (cA _ (by first | exact Below.refl _ _ | assumption)).mono ?_); rintro e w1 ⟨rfl, hb1⟩; obtain ⟨z0, z1, hbo⟩ := HX.out _ hb1))
    go_ret
    exact ⟨rfl, by assumption⟩
end Go.Proofs.Ytacigmnnekphmaa.schema
