/- Contract of layer 13 (schema): Print. No condition. -/
import Derived.Test.YtacigmnnekphmaaSchemaPrintF
namespace Go.Proofs.Ytacigmnnekphmaa.schema
open Go.RowKit Go.Proofs.Ytacigmnnekphmaa.pen
set_option linter.unusedVariables false

/-- the pen at g holds xs; below it all is as in w1 -/
def PS (g : Nat) (w1 : World) (xs : List Nat) (v : Value) (w : World) : Prop := PenAt g g v xs 0 w ∧ Below g w1 w ∧ g ≤ w.heap.size
theorem PS.step {g : Nat} {w1 : World} {xs ys : List Nat} {v v' : Value} {w w' : World} (h : PS g w1 xs v w) (hp : PenAt g g v' (xs ++ ys) 0 w') (ht : Turns w g v w' v') : PS g w1 (xs ++ ys) v' w' :=
  ⟨hp, h.2.1.trans (ht.below h.2.2 (Nat.le_refl _) (fun x hx => (h.1.lo x hx).1)), Nat.le_trans h.2.2 ht.size⟩
theorem PS.later {g : Nat} {w1 : World} {xs : List Nat} {v : Value} {w w' : World} (h : PS g w1 xs v w) (hb : Below w.heap.size w w') : PS g w1 xs v w' := ⟨h.1.later hb, h.2.1.trans (hb.mono h.2.2), Nat.le_trans h.2.2 hb.size⟩
theorem PS.count {g : Nat} {w1 : World} {xs : List Nat} {v : Value} {w : World} (h : PS g w1 xs v w) (n : Int) (h0 : 0 ≤ n) (h63 : n ≤ 9223372036854775807) (hn : xs.length ≤ 1000000) :
    Calls Try.prog 38 #[.pointer (some ⟨g, 0, none⟩), .int .i64 n] w fun e w' => e = .returned (.tuple #[]) ∧ ∃ v', PS g w1 (xs ++ vb n.toNat) v' w' ∧ ∀ k t cs, Block w k t cs → t ≠ 5 → k ≠ g → Block w' k t cs :=
  (count_int g g v xs w h.1 h.2.2 n h0 h63 hn).mono fun _ _ ⟨he, v', hp, ht⟩ => ⟨he, v', h.step hp ht, fun k t cs hB hT hk => pen_block h.1 ht hB hT hk⟩
theorem PS.field {g : Nat} {w1 : World} {xs : List Nat} {v : Value} {w : World} (h : PS g w1 xs v w) (p : field.Fd) (hr : p.Right) (hn : xs.length ≤ 100000) :
    Calls Try.prog 39 #[.pointer (some ⟨g, 0, none⟩), .agg #[.int .i64 p.id, .int .i64 p.kind, .int .i64 p.lo, .int .i64 p.hi, .int .i64 p.most]] w fun e w' => e = .returned (.tuple #[]) ∧ ∃ v', PS g w1 (xs ++ fieldB p) v' w' :=
  (printField_any g g v xs w h.1 h.2.2 p hr hn).mono fun _ _ ⟨he, v', hp, ht⟩ => ⟨he, v', h.step hp ht⟩
theorem formsB_take_len {F : List Form} {v : Int} (h : Right v F) (k : Nat) : (formsB (F.take k)).length ≤ 3000 := by
  have h1 := formsB_len (F := F.take k) (fun p hp => h.2.2.1 p (List.mem_of_mem_take hp))
  have h2 := h.2.1
  have h3 : (F.take k).length ≤ F.length := by simp; omega
  omega
theorem fieldsB_take_len {p : Form} (h : Fine p) (k : Nat) : (fieldsB (p.2.take k)).length ≤ 320 := by
  have h1 := fieldsB_len (L := p.2.take k) (fun f hf => h.2.2.1.1 f (List.mem_of_mem_take hf))
  have h2 := h.2.1
  have h3 : (p.2.take k).length ≤ p.2.length := by simp; omega
  omega
def PrintPost (v : Int) (F : List Form) (w : World) (e : Ending) (w' : World) : Prop :=
  if Right v F then pen.Gives (schemaB v F) 0 w e w' else e = .returned (.tuple #[.slice none 0 0, .int .i64 2]) ∧ Below w.heap.size w w'

theorem print_no (v : Int) (a : Option Addr) (cap : Nat) (F : List Fm) (w : World) (h : FmL w a F) (hF : F.length ≤ maxLen) (hr : ¬ Right v (forms F)) :
    Calls Try.prog 21 #[.agg #[.int .i64 v, .slice a F.length cap]] w fun e w' => e = .returned (.tuple #[.slice none 0 0, .int .i64 2]) ∧ Below w.heap.size w w' := by
  have HX := hid (boxS v a F cap w)
  have cR := right_any v a cap F (w.alloc (.cells #[.int .i64 v, .slice a F.length cap] 24)) (h.below (field.newB _ _)) hF
  rw [decide_eq_false hr] at cR
  clear h hr
  go_enter Try.func21, Try.ntmps21
  go_wp2_with (go_at_call 17; ((with_reducible refine cR.mono ?_); rintro e w1 ⟨rfl, hb1⟩; obtain ⟨z0, z1, hbo⟩ := HX.out _ hb1))
  go_ret2
  exact ⟨rfl, hbo⟩
theorem print_yes (v : Int) (a : Option Addr) (cap : Nat) (F : List Fm) (w : World) (h : FmL w a F) (hr : Right v (forms F)) :
    Calls Try.prog 21 #[.agg #[.int .i64 v, .slice a F.length cap]] w (pen.Gives (schemaB v (forms F)) 0 w) := by
  have h8 : F.length ≤ 8 := by have := hr.2.1; rw [forms_length] at this; exact this
  have hv := hr.1
  have HX := hid (boxS v a F cap w)
  have hb0 := field.newB w (.cells #[.int .i64 v, .slice a F.length cap] 24)
  have cR := right_any v a cap F (w.alloc (.cells #[.int .i64 v, .slice a F.length cap] 24)) (h.below hb0) (by unfold maxLen; omega)
  rw [decide_eq_true hr] at cR
  have HF := hid (h.below hb0)
  have HR := hid hr
  have HSB : Hid (schemaB v (forms F) = [] ++ vb v.toNat ++ vb (F.length : Int).toNat ++ formsB (forms F)) := hid (by unfold schemaB; rw [forms_length]; simp)
  have lv := vb_ten v.toNat (by omega)
  have ln := vb_ten (F.length : Int).toNat (by omega)
  obtain ⟨X, hX⟩ : ∃ X : List Nat, Hid ([] ++ vb v.toNat ++ vb (F.length : Int).toNat = X) := ⟨_, hid rfl⟩
  have HXL : Hid (X.length ≤ 20) := hid (by rw [← hX.out]; simp only [List.length_append, List.length_nil]; omega)
  rw [hX.out] at HSB
  rw [HSB.out]
  clear h hr hb0
  go_enter Try.func21, Try.ntmps21
  go_wp2_with (first
    | (go_at_call 17; ((with_reducible refine cR.mono ?_); rintro e w1 ⟨rfl, hb1⟩; obtain ⟨z0, z1, hbo⟩ := HX.out _ hb1; have hF1 := HF.out.below hb1))
    | (go_at_call 37; ((with_reducible refine (new_any w1).mono ?_); rintro e w2 ⟨rfl, hp2, hb2⟩; have hS2 : PS w1.heap.size w1 [] (.slice none 0 0) w2 := ⟨hp2, hb2, hb2.size⟩; obtain ⟨z0, z1, _⟩ := HX.out _ (hb1.trans (hb2.mono hb1.size))))
    | (go_at_call 38; ((with_reducible refine (hS2.count v (by omega) (by omega) (by simp)).mono ?_); rintro e w3 ⟨rfl, v3, hS3, _⟩; obtain ⟨z0, z1, _⟩ := HX.out _ (hb1.trans (hS3.2.1.mono hb1.size))))
    | (go_at_call 38; ((with_reducible refine (hS3.count (F.length : Int) (by omega) (by omega) (by simp only [List.length_append, List.length_nil]; omega)).mono ?_); rintro e w4 ⟨rfl, v4, hS4, _⟩; obtain ⟨z0, z1, _⟩ := HX.out _ (hb1.trans (hS4.2.1.mono hb1.size)))))
  have hbX := hbo
  generalize hg : w1.heap.size = g at *
  rw [hX.out] at hS4
  go_loopw [25] (fun n wr => ∃ k : Nat, k ≤ F.length ∧ n = .int .i64 (k : Int) ∧ Hid (∃ vP, PS g w1 (X ++ formsB ((forms F).take k)) vP wr)) (fun n _ => F.length - (intOf n).toNat)
  case atStart => exact ⟨0, Nat.zero_le _, rfl, hid ⟨v4, by simpa [formsB] using hS4⟩⟩
  case round =>
    obtain ⟨k, hk, rfl, HS⟩ := hrel
    obtain ⟨vP, hS⟩ := HS.out
    by_cases hlt : k < F.length
    · obtain ⟨b, off, p, rfl, hbl, hp, c0, c1, hfd, hfl⟩ := form_at hF1 (by rw [hg]; exact hS.2.1) hlt
      have i1 : (k : Int) < F.length := by omega
      have HTK := hid (formsB_succ (forms_at hp))
      have hgd := (hF1.2 p (List.mem_of_getElem? hp)).rf
      have hfi : Fine p.p := HR.out.2.2.1 _ (List.mem_of_getElem? (forms_at hp))
      obtain ⟨i, q, qc, L⟩ := p
      simp only [Fm.p] at HTK c0 c1 hfd hfl hfi hgd
      have HF6 := hid hgd
      clear hgd
      have HFI := hid hfi
      have hi := hfi.1
      have hl := hfi.2.1
      simp only at hi hl
      have lf := formsB_take_len HR.out k
      have li := vb_ten i.toNat (by omega)
      have ll := vb_ten (L.length : Int).toNat (by omega)
      have hXl := HXL.out
      have hS0 := hS.later (field.newB wr (.cells #[.int .i64 i, .slice q L.length qc] 29))
      have hbk := Block.new wr 29 [.int .i64 i, .slice q L.length qc]
      have hne : wr.heap.size ≠ g := by have := hS.1.1.lt; omega
      have HBK := hid hbk
      have hFq : field.Fds (wr.alloc (.cells #[.int .i64 i, .slice q L.length qc] 29)) q L := hfd.below (field.newB _ _)
      clear hp hfi hbk hfd hS HS
      have hXl2 : (X ++ formsB ((forms F).take k)).length ≤ 3020 := by simp only [List.length_append]; omega
      obtain ⟨Y, hY⟩ : ∃ Y : List Nat, Hid (X ++ formsB ((forms F).take k) = Y) := ⟨_, hid rfl⟩
      rw [hY.out] at hS0 hXl2
      go_wp2_with (first
        | (go_at_call 38; ((with_reducible refine (hS0.count i (by omega) (by omega) (by omega)).mono ?_); rintro e w5 ⟨rfl, v5, hS5, hK5⟩; have hB5 := hK5 _ _ _ HBK.out fm_ty hne; have y0 := hB5.cell 0; have y1 := hB5.cell 1))
        | (go_at_call 38; ((with_reducible refine (hS5.count (L.length : Int) (by omega) (by omega) (by simp only [List.length_append]; omega)).mono ?_); rintro e w6 ⟨rfl, v6, hS6, hK6⟩; have hB6 := hK6 _ _ _ hB5 fm_ty hne; have y0 := hB6.cell 0; have y1 := hB6.cell 1)))
      go_loopw [41] (fun m wq => ∃ j : Nat, j ≤ L.length ∧ m = .int .i64 (j : Int) ∧ Hid (∃ vP, PS g w1 (Y ++ vb i.toNat ++ vb (L.length : Int).toNat ++ fieldsB (L.take j)) vP wq)) (fun m _ => L.length - (intOf m).toNat)
      case atStart => exact ⟨0, Nat.zero_le _, rfl, hid ⟨v6, by simpa [fieldsB] using hS6⟩⟩
      case round =>
        obtain ⟨j, hj, rfl, HS⟩ := hrel
        obtain ⟨vQ, hQ⟩ := HS.out
        by_cases hjt : j < L.length
        · obtain ⟨b2, off2, x, rfl, hbl2, hx, e0, e1, e2, e3, e4⟩ := field_at HF6.out (by rw [hg]; exact hQ.2.1) hjt
          have i2 : (j : Int) < L.length := by omega
          have HXX := hid (fieldsB_succ hx)
          have lg := fieldsB_take_len HFI.out j
          have cP := (hQ.later (field.newB wr (.cells #[.int .i64 x.id, .int .i64 x.kind, .int .i64 x.lo, .int .i64 x.hi, .int .i64 x.most] 50))).field x (HFI.out.2.2.1.1 x (List.mem_of_getElem? hx)) (by simp only [List.length_append] at lg ⊢; omega)
          clear hx
          go_wp2_with (go_at_call 39; ((with_reducible refine cP.mono ?_); rintro e w7 ⟨rfl, v7, hS7⟩))
          exact ⟨⟨j + 1, by omega, by go_num, hid ⟨v7, by rw [HXX.out]; simpa only [List.append_assoc] using hS7⟩⟩, by simp [intOf]; omega⟩
        · obtain rfl : j = L.length := by omega
          rw [List.take_of_length_le (Nat.le_refl _)] at hQ
          have HEND : Hid (PS g w1 (X ++ formsB ((forms F).take (k + 1))) vQ wr) := hid (by
            rw [HTK.out]
            have h1 := hQ
            rw [← hY.out] at h1
            simpa only [formB, List.append_assoc, Int.toNat_natCast] using h1)
          clear hQ HS
          go_wp2
          exact ⟨⟨k + 1, by omega, by go_num, hid ⟨vQ, HEND.out⟩⟩, by simp [intOf]; omega⟩
    · obtain rfl : k = F.length := by omega
      rw [List.take_of_length_le (by rw [forms_length]; exact Nat.le_refl _)] at hS
      have cD := done_any g g vP (X ++ formsB (forms F)) wr hS.1 (by have h1 := formsB_take_len HR.out F.length; rw [List.take_of_length_le (by rw [forms_length]; exact Nat.le_refl _)] at h1; have := HXL.out; simp only [List.length_append]; omega)
      go_wp2_with (go_at_call 40; ((with_reducible refine cD.mono ?_); rintro e w5 ⟨u, rfl, ho, hb5⟩))
      go_ret2
      have hbw : Below g w1 w5 := hS.2.1.trans (hb5.mono hS.2.2)
      have hlow : w.heap.size ≤ wr.heap.size := Nat.le_trans hbX.size (by have := hS.2.2; omega)
      exact ⟨u, rfl, own_low ho hlow, hbX.trans ((by rw [hg]; exact hbw : Below w1.heap.size w1 w5).mono hbX.size)⟩
end Go.Proofs.Ytacigmnnekphmaa.schema
