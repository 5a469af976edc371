/- Contracts and lemmas that the claims of this seat share: SchemaLong, SchemaFields, SchemaFine, FieldStore, Perm, Plan, Four, Cross, Late. Each says its own conditions. -/
import Derived.Test.YtegeeobfamjjpaaCmB
import Derived.Test.YtegeeobfamjjpaaCmC
import Derived.Test.YtegeeobfamjjpaaCmA
import Derived.Deep.MidRow
import Derived.Laws.StructEq
import Derived.Below
/- Contracts of layer 13 (schema): Long. No condition but at most 40 fields. -/
namespace Go.Proofs.Ytegeeobfamjjpaa.schema
open Go.RowKit
open Go.Proofs.Ytegeeobfamjjpaa.field (Gives newB gives_from size_any)
set_option linter.unusedVariables false

theorem own_low {w : World} {B B' e size n : Nat} {v : Value} {xs : List Value} (h : w.ownsRow B e size v n xs) (hB : B' ≤ B) : w.ownsRow B' e size v n xs := by
  refine ⟨h.1, ?_⟩
  rcases h.2 with h0 | ⟨g, cap, cur, hv, hb, hg⟩
  · exact .inl h0
  · exact .inr ⟨g, cap, cur, hv, Nat.le_trans hB hb, hg⟩
theorem below_out {w w' : World} {d : Obj} (hb : Below (w.alloc d).heap.size (w.alloc d) w') : Below w.heap.size w w' := ((Below.refl _ _).alloc (Nat.le_refl _) _).trans (hb.mono (by simp))
theorem fields_below {w w' : World} {B : Nat} {a : Option Addr} {L : List field.Fd} (h : field.Fds w a L) (hB : w.heap.size ≤ B) (hb : Below B w w') : field.Fds w' a L := h.below (hb.mono hB)
/-- the cells of field k in a later world -/
theorem field_at {w w' : World} {a : Option Addr} {L : List field.Fd} (h : field.Fds w a L) (hb : Below w.heap.size w w') {k : Nat} (hk : k < L.length) :
    ∃ b off p, a = some ⟨b, off, none⟩ ∧ b < w'.heap.size ∧ L[k]? = some p ∧ w'.cell? ⟨b, off + k * 5, none⟩ = some (.int .i64 p.id) ∧ w'.cell? ⟨b, off + k * 5 + 1, none⟩ = some (.int .i64 p.kind) ∧ w'.cell? ⟨b, off + k * 5 + 2, none⟩ = some (.int .i64 p.lo) ∧ w'.cell? ⟨b, off + k * 5 + 3, none⟩ = some (.int .i64 p.hi) ∧ w'.cell? ⟨b, off + k * 5 + 4, none⟩ = some (.int .i64 p.most) := (h.below hb).at hk
theorem long_any (i : Int) (a : Option Addr) (cap : Nat) (L : List field.Fd) (w : World) (h : field.Fds w a L) (hL : L.length ≤ 40) :
    Calls Try.prog 38 #[.agg #[.int .i64 i, .slice a L.length cap]] w (Gives (.int .i64 (size L : Int)) w) := by
  have HO := hid (fun (w' : World) hb => below_out (w := w) (d := .cells #[.int .i64 i, .slice a L.length cap] 24) (w' := w') hb)
  have HF := hid (h.below (newB w (.cells #[.int .i64 i, .slice a L.length cap] 24)))
  obtain ⟨S, hS⟩ : ∃ S : Nat, Hid (size L = S) := ⟨_, rfl⟩
  rw [hS.out]
  unfold Gives
  clear h
  go_enter Try.func38, Try.ntmps38
  go_wp2
  go_loopw [3, 9] (fun s n wr => ∃ k : Nat, k ≤ L.length ∧ s = .int .i64 (size (L.take k) : Int) ∧ n = .int .i64 (k : Int) ∧ Hid (Below (w.alloc (.cells #[.int .i64 i, .slice a L.length cap] 24)).heap.size (w.alloc (.cells #[.int .i64 i, .slice a L.length cap] 24)) wr)) (fun _ n _ => L.length - (intOf n).toNat)
  case atStart => exact ⟨0, Nat.zero_le _, rfl, rfl, hid (Below.refl _ _)⟩
  case round =>
    obtain ⟨k, hk, rfl, rfl, HB⟩ := hrel
    by_cases hlt : k < L.length
    · obtain ⟨b, off, p, rfl, hbl, hp, c0, c1, c2, c3, c4⟩ := field_at HF.out HB.out hlt
      have i1 : (k : Int) < L.length := by omega
      have HP := hid hp
      have HSZ := hid (size_succ hp)
      have hst := size_take L k
      have hst2 := field.wide_le
      have cs := fun w' => size_any p w'
      have hps := fd_size_le p
      clear hp hst2
      generalize size (L.take k) = s at *
      go_wp2_with (go_at_call 45; ((with_reducible refine (cs _).mono ?_); rintro e w2 ⟨rfl, hb2⟩))
      exact ⟨⟨k + 1, by omega, by rw [HSZ.out]; go_num, by go_num, hid (HB.out.trans ((below_out hb2).mono HB.out.size))⟩, by simp [intOf]; omega⟩
    · obtain rfl : k = L.length := by omega
      go_wp2
      go_ret
      exact ⟨ret_int (by rw [← hS.out, List.take_of_length_le (Nat.le_refl _)]), HO.out _ HB.out⟩
end Go.Proofs.Ytegeeobfamjjpaa.schema
/- Contracts of layer 13 (schema): within, fineFields. No condition. -/
namespace Go.Proofs.Ytegeeobfamjjpaa.schema
open Go.RowKit
open Go.Proofs.Ytegeeobfamjjpaa.field (Gives newB gives_from right_any)
set_option linter.unusedVariables false

theorem within_any (n lo hi : Int) (w : World) : Calls Try.prog 36 #[.int .i64 n, .int .i64 lo, .int .i64 hi] w (Gives (.bool (decide (lo ≤ n ∧ n ≤ hi))) w) := by
  obtain ⟨v, hv⟩ : ∃ v : Bool, Hid (decide (lo ≤ n ∧ n ≤ hi) = v) := ⟨_, rfl⟩
  rw [hv.out]
  unfold Gives
  by_cases h1 : lo ≤ n
  · by_cases h2 : n ≤ hi
    · obtain rfl : true = v := by rw [← hv.out]; simp [h1, h2]
      go_enter Try.func36, Try.ntmps36
      go_wp2
      go_ret
      exact ⟨rfl, Below.refl _ _⟩
    · obtain rfl : false = v := by rw [← hv.out]; simp [h1, h2]
      have hd : decide (n ≤ hi) = false := decide_eq_false h2
      go_enter Try.func36, Try.ntmps36
      go_wp2
      go_ret
      exact ⟨rfl, Below.refl _ _⟩
  · obtain rfl : false = v := by rw [← hv.out]; simp [h1]
    have hd : decide (lo ≤ n) = false := decide_eq_false h1
    go_enter Try.func36, Try.ntmps36
    go_wp2
    go_ret
    exact ⟨rfl, Below.refl _ _⟩

/-- the IDs seen so far, as an array -/
def seenV (l : List Int) : List Value := (List.range 256).map fun j : Nat => Value.bool (decide ((j : Int) ∈ l))
theorem seenV_at (l : List Int) (n : Nat) (h : n < 256) : (seenV l)[n]? = some (.bool (decide ((n : Int) ∈ l))) := by simp [seenV, h]
theorem seenV_set (l : List Int) (n : Nat) (h : n < 256) : (seenV l).set n (.bool true) = seenV (l ++ [(n : Int)]) := by
  apply List.ext_getElem?
  intro i
  rw [List.getElem?_set]
  by_cases hi : i < 256
  · rw [seenV_at _ i hi, seenV_at _ i hi]
    by_cases hn : n = i
    · subst hn; simp [seenV, h]
    · rw [if_neg hn]
      simp; omega
  · simp [seenV]
    simp [hi]
    omega
def zc256 : Array Value := (seenV []).toArray
theorem zc256_value (W : World) : (zeroValue 70).run Try.prog W = .ok (.agg zc256) W := by kernel_rfl
theorem zc256_ne : zc256 ≠ #[] := by intro h; have := congrArg Array.size h; simp [zc256, seenV] at this
theorem seenV_zero : zc256 = (seenV []).toArray := rfl
theorem fineFields_any (a : Option Addr) (cap : Nat) (L : List field.Fd) (w : World) (h : field.Fds w a L) (hL : L.length ≤ maxLen) :
    Calls Try.prog 37 #[.slice a L.length cap] w (Gives (.bool (decide (FineF L))) w) := by
  have hml : (L.length : Int) ≤ 9223372036854775807 := by unfold maxLen at hL; omega
  obtain ⟨v, hv⟩ : ∃ v : Bool, Hid (decide (FineF L) = v) := ⟨_, rfl⟩
  rw [hv.out]
  unfold Gives
  have HF := hid h
  have HZ : Hid (Block (w.alloc (.cells zc256 70)) w.heap.size 70 (seenV [])) := by rw [seenV_zero]; exact hid (Block.new w 70 (seenV []))
  have HN := hid (newB w (.cells zc256 70))
  clear h hL
  have hzv := fun W => zc256_value W
  have hzn := zc256_ne
  go_enter Try.func37, Try.ntmps37
  go_wp2
  generalize w.alloc (.cells zc256 70) = w1 at *
  obtain ⟨B, hB⟩ : ∃ B : Nat, Hid (w.heap.size = B) := ⟨_, rfl⟩
  rw [hB.out] at HZ ⊢
  go_loopw [8] (fun n wr => ∃ k : Nat, k ≤ L.length ∧ n = .int .i64 (k : Int) ∧ Hid (FineF (L.take k)) ∧ Hid (Block wr B 70 (seenV (ids (L.take k)))) ∧ Hid (Below w.heap.size w wr)) (fun n _ => L.length - (intOf n).toNat)
  case atStart => exact ⟨0, Nat.zero_le _, rfl, hid FineF.nil, HZ, HN⟩
  case round =>
    obtain ⟨k, hk, rfl, HOK, HBl, HB⟩ := hrel
    by_cases hlt : k < L.length
    · obtain ⟨b, off, p, rfl, hbl, hp, c0, c1, c2, c3, c4⟩ := field_at HF.out HB.out hlt
      have i1 : (k : Int) < L.length := by omega
      have HP := hid hp
      have HNO := hid (fineF_no hp)
      have HSUC := hid (fineF_succ hp)
      have HIDS : Hid (ids (L.take (k + 1)) = ids (L.take k) ++ [p.id]) := hid (by rw [take_succ_at hp]; simp [ids])
      have cs := fun w' => right_any p w'
      clear hp
      generalize hI : ids (L.take k) = I at *
      clear hI
      by_cases hr : p.Right
      · obtain ⟨n, hn⟩ := Int.eq_ofNat_of_zero_le hr.1.1
        have hn2 : n ≤ 255 := by have := hr.1.2; omega
        rw [decide_eq_true hr] at cs
        have HR := hid hr
        clear hr
        obtain ⟨q, qk, ql, qh, qm⟩ := p
        simp only at hn HNO HSUC HIDS HR c0 c1 c2 c3 c4 cs
        subst hn
        have hsd := seenV_at I n (by omega)
        by_cases hm : (n : Int) ∈ I
        · rw [decide_eq_true hm] at hsd
          obtain rfl : false = v := by rw [← hv.out]; exact (decide_eq_false (HNO.out (fun h => h.2 hm))).symm
          clear hm
          have H5 := hid (field.five ⟨n, qk, ql, qh, qm⟩ wr)
          go_wp2_with (go_at_call 40; ((with_reducible refine (cs _).mono ?_); rintro e w2 ⟨rfl, hb2⟩; have hc := ((HBl.out.alloc _).later hb2).cell n; rw [hsd] at hc; have z0 := (H5.out w2 hb2).1))
          go_ret
          exact ⟨rfl, HB.out.trans ((below_out hb2).mono HB.out.size)⟩
        · rw [decide_eq_false hm] at hsd
          have HM := hid hm
          clear hm
          have H5 := hid (field.five ⟨n, qk, ql, qh, qm⟩ wr)
          have HLT := hid (show w.heap.size ≤ B by rw [hB.out]; exact Nat.le_refl _)
          go_wp2_with (go_at_call 40; ((with_reducible refine (cs _).mono ?_); rintro e w2 ⟨rfl, hb2⟩; have hblk := (HBl.out.alloc _).later hb2; have hc := hblk.cell n; rw [hsd] at hc; have z0 := (H5.out w2 hb2).1; have hfz := hblk.frozen n; have HBK := hid hblk; clear hblk))
          refine ⟨⟨k + 1, by omega, by go_num, hid (HSUC.out.2 ⟨HOK.out, HR.out, HM.out⟩), hid ?_, hid ?_⟩, by simp [intOf]; omega⟩
          · have := HBK.out.setCell n (.bool true)
            rw [seenV_set _ _ (by omega)] at this
            rw [HIDS.out]; exact this
          · exact below_setCells (HB.out.trans ((below_out hb2).mono HB.out.size)) HLT.out n [.bool true]
      · obtain rfl : false = v := by rw [← hv.out]; exact (decide_eq_false (HNO.out (fun h => hr h.1))).symm
        rw [decide_eq_false hr] at cs
        clear hr
        go_wp2_with (go_at_call 40; ((with_reducible refine (cs _).mono ?_); rintro e w2 ⟨rfl, hb2⟩))
        go_ret
        exact ⟨rfl, HB.out.trans ((below_out hb2).mono HB.out.size)⟩
    · obtain rfl : k = L.length := by omega
      obtain rfl : true = v := by rw [← hv.out]; have := HOK.out; rw [List.take_of_length_le (Nat.le_refl _)] at this; exact (decide_eq_true this).symm
      go_wp2
      go_ret
      exact ⟨rfl, HB.out⟩
end Go.Proofs.Ytegeeobfamjjpaa.schema
/- Contract of layer 13 (schema): Fine. No condition. -/
namespace Go.Proofs.Ytegeeobfamjjpaa.schema
open Go.RowKit
open Go.Proofs.Ytegeeobfamjjpaa.field (Gives newB gives_from)
set_option linter.unusedVariables false

/-- a form that has just been boxed stays -/
theorem boxM (i : Int) (a : Option Addr) (L : List field.Fd) (cap : Nat) (w w' : World) (hb : Below (w.alloc (.cells #[.int .i64 i, .slice a L.length cap] 24)).heap.size (w.alloc (.cells #[.int .i64 i, .slice a L.length cap] 24)) w') : w'.cell? ⟨w.heap.size, 0, none⟩ = some (.int .i64 i) ∧ w'.cell? ⟨w.heap.size, 1, none⟩ = some (.slice a L.length cap) ∧ Below w.heap.size w w' := by
  have hB := (Block.new w 24 [.int .i64 i, .slice a L.length cap]).later hb
  exact ⟨hB.cell 0, hB.cell 1, below_out hb⟩
/-- a call that gives v, from every later world -/
abbrev From (F : FuncId) (args : Array Value) (v : Value) (w0 : World) : Prop := ∀ w', Below w0.heap.size w0 w' → Calls Try.prog F args w' fun e w2 => e = .returned v ∧ Below w0.heap.size w0 w2
theorem from_all {F : FuncId} {args : Array Value} {v : Value} (w0 : World) (h : ∀ w', Calls Try.prog F args w' (Gives v w')) : From F args v w0 := fun w' hb => gives_from (h w') hb
theorem from_fields {F : FuncId} {args : Array Value} {v : Value} {a : Option Addr} {L : List field.Fd} {w0 : World} (hf : field.Fds w0 a L) (h : ∀ w', field.Fds w' a L → Calls Try.prog F args w' (Gives v w')) : From F args v w0 := fun w' hb => gives_from (h w' (hf.below hb)) hb
theorem within_from (n lo hi : Int) (w0 : World) (v : Bool) (h : decide (lo ≤ n ∧ n ≤ hi) = v) : From 36 #[.int .i64 n, .int .i64 lo, .int .i64 hi] (.bool v) w0 := from_all w0 (fun w' => h ▸ within_any n lo hi w')
theorem fine_any (i : Int) (a : Option Addr) (cap : Nat) (L : List field.Fd) (w : World) (h : field.Fds w a L) (hL : L.length ≤ maxLen) :
    Calls Try.prog 23 #[.agg #[.int .i64 i, .slice a L.length cap]] w (Gives (.bool (decide (Fine (i, L)))) w) := by
  have HX := hid (boxM i a L cap w)
  have HF := h.below (newB w (.cells #[.int .i64 i, .slice a L.length cap] 24))
  obtain ⟨v, hv⟩ : ∃ v : Bool, Hid (decide (Fine (i, L)) = v) := ⟨_, rfl⟩
  rw [hv.out]
  unfold Gives
  have cA := fun v h => within_from i 0 200 (w.alloc (.cells #[.int .i64 i, .slice a L.length cap] 24)) v h
  have cB := fun v h => within_from (L.length : Int) 1 8 (w.alloc (.cells #[.int .i64 i, .slice a L.length cap] 24)) v h
  have cC := from_fields HF (fun w' h' => fineFields_any a cap L w' h' hL)
  clear h
  by_cases h1 : 0 ≤ i ∧ i ≤ 200
  · replace cA := cA true (decide_eq_true h1)
    by_cases h2 : 1 ≤ L.length ∧ L.length ≤ 8
    · replace cB := cB true (decide_eq_true (by omega))
      have cD := from_fields HF (fun w' h' => long_any i a cap L w' h' (by omega))
      by_cases h3 : FineF L
      · rw [decide_eq_true h3] at cC
        have hsz := size_le L
        by_cases h4 : size L ≤ 64
        · obtain rfl : true = v := by rw [← hv.out]; exact (decide_eq_true ⟨h1, h2, h3, h4⟩).symm
          have hd : decide ((size L : Int) ≤ 64) = true := decide_eq_true (by omega)
          clear h3 HF
          generalize size L = s at *
          go_enter Try.func23, Try.ntmps23
          go_wp2_with (first
            | (go_at_call 36; ((with_reducible refine (cA _ (by first | exact Below.refl _ _ | assumption)).mono ?_); rintro e w2 ⟨rfl, hb2⟩; obtain ⟨z0, z1, hbo⟩ := HX.out _ hb2))
            | (go_at_call 36; ((with_reducible refine (cB _ (by first | exact Below.refl _ _ | assumption)).mono ?_); rintro e w2 ⟨rfl, hb2⟩; obtain ⟨z0, z1, hbo⟩ := HX.out _ hb2))
            | (go_at_call 37; ((with_reducible refine (cC _ (by first | exact Below.refl _ _ | assumption)).mono ?_); rintro e w2 ⟨rfl, hb2⟩; obtain ⟨z0, z1, hbo⟩ := HX.out _ hb2))
            | (go_at_call 38; ((with_reducible refine (cD _ (by first | exact Below.refl _ _ | assumption)).mono ?_); rintro e w2 ⟨rfl, hb2⟩; obtain ⟨z0, z1, hbo⟩ := HX.out _ hb2)))
          go_ret
          exact ⟨by first | rfl | exact ret_bool (by assumption), by assumption⟩
        · obtain rfl : false = v := by rw [← hv.out]; exact (decide_eq_false (fun h => h4 h.2.2.2)).symm
          have hd : decide ((size L : Int) ≤ 64) = false := decide_eq_false (by omega)
          clear h3 HF h4
          generalize size L = s at *
          go_enter Try.func23, Try.ntmps23
          go_wp2_with (first
            | (go_at_call 36; ((with_reducible refine (cA _ (by first | exact Below.refl _ _ | assumption)).mono ?_); rintro e w2 ⟨rfl, hb2⟩; obtain ⟨z0, z1, hbo⟩ := HX.out _ hb2))
            | (go_at_call 36; ((with_reducible refine (cB _ (by first | exact Below.refl _ _ | assumption)).mono ?_); rintro e w2 ⟨rfl, hb2⟩; obtain ⟨z0, z1, hbo⟩ := HX.out _ hb2))
            | (go_at_call 37; ((with_reducible refine (cC _ (by first | exact Below.refl _ _ | assumption)).mono ?_); rintro e w2 ⟨rfl, hb2⟩; obtain ⟨z0, z1, hbo⟩ := HX.out _ hb2))
            | (go_at_call 38; ((with_reducible refine (cD _ (by first | exact Below.refl _ _ | assumption)).mono ?_); rintro e w2 ⟨rfl, hb2⟩; obtain ⟨z0, z1, hbo⟩ := HX.out _ hb2)))
          go_ret
          exact ⟨by first | rfl | exact ret_bool (by assumption), by assumption⟩
      · obtain rfl : false = v := by rw [← hv.out]; exact (decide_eq_false (fun h => h3 h.2.2.1)).symm
        rw [decide_eq_false h3] at cC
        clear h3 HF cD
        go_enter Try.func23, Try.ntmps23
        go_wp2_with (first
          | (go_at_call 36; ((with_reducible refine (cA _ (by first | exact Below.refl _ _ | assumption)).mono ?_); rintro e w2 ⟨rfl, hb2⟩; obtain ⟨z0, z1, hbo⟩ := HX.out _ hb2))
          | (go_at_call 36; ((with_reducible refine (cB _ (by first | exact Below.refl _ _ | assumption)).mono ?_); rintro e w2 ⟨rfl, hb2⟩; obtain ⟨z0, z1, hbo⟩ := HX.out _ hb2))
          | (go_at_call 37; ((with_reducible refine (cC _ (by first | exact Below.refl _ _ | assumption)).mono ?_); rintro e w2 ⟨rfl, hb2⟩; obtain ⟨z0, z1, hbo⟩ := HX.out _ hb2))
          | (go_at_call 38; ((with_reducible refine (cD _ (by first | exact Below.refl _ _ | assumption)).mono ?_); rintro e w2 ⟨rfl, hb2⟩; obtain ⟨z0, z1, hbo⟩ := HX.out _ hb2)))
        go_ret
        exact ⟨by first | rfl | exact ret_bool (by assumption), by assumption⟩
    · obtain rfl : false = v := by rw [← hv.out]; exact (decide_eq_false (fun h => h2 h.2.1)).symm
      replace cB := cB false (decide_eq_false (by omega))
      clear HF cC h2
      go_enter Try.func23, Try.ntmps23
      go_wp2_with (first
        | (go_at_call 36; ((with_reducible refine (cA _ (by first | exact Below.refl _ _ | assumption)).mono ?_); rintro e w2 ⟨rfl, hb2⟩; obtain ⟨z0, z1, hbo⟩ := HX.out _ hb2))
        | (go_at_call 36; ((with_reducible refine (cB _ (by first | exact Below.refl _ _ | assumption)).mono ?_); rintro e w2 ⟨rfl, hb2⟩; obtain ⟨z0, z1, hbo⟩ := HX.out _ hb2))
        | (go_at_call 37; ((with_reducible refine (cC _ (by first | exact Below.refl _ _ | assumption)).mono ?_); rintro e w2 ⟨rfl, hb2⟩; obtain ⟨z0, z1, hbo⟩ := HX.out _ hb2))
        | (go_at_call 38; ((with_reducible refine (cD _ (by first | exact Below.refl _ _ | assumption)).mono ?_); rintro e w2 ⟨rfl, hb2⟩; obtain ⟨z0, z1, hbo⟩ := HX.out _ hb2)))
      go_ret
      exact ⟨by first | rfl | exact ret_bool (by assumption), by assumption⟩
  · obtain rfl : false = v := by rw [← hv.out]; exact (decide_eq_false (fun h => h1 h.1)).symm
    replace cA := cA false (decide_eq_false h1)
    clear HF cC cB h1
    go_enter Try.func23, Try.ntmps23
    go_wp2_with (first
      | (go_at_call 36; ((with_reducible refine (cA _ (by first | exact Below.refl _ _ | assumption)).mono ?_); rintro e w2 ⟨rfl, hb2⟩; obtain ⟨z0, z1, hbo⟩ := HX.out _ hb2))
      | (go_at_call 36; ((with_reducible refine (cB _ (by first | exact Below.refl _ _ | assumption)).mono ?_); rintro e w2 ⟨rfl, hb2⟩; obtain ⟨z0, z1, hbo⟩ := HX.out _ hb2))
      | (go_at_call 37; ((with_reducible refine (cC _ (by first | exact Below.refl _ _ | assumption)).mono ?_); rintro e w2 ⟨rfl, hb2⟩; obtain ⟨z0, z1, hbo⟩ := HX.out _ hb2))
      | (go_at_call 38; ((with_reducible refine (cD _ (by first | exact Below.refl _ _ | assumption)).mono ?_); rintro e w2 ⟨rfl, hb2⟩; obtain ⟨z0, z1, hbo⟩ := HX.out _ hb2)))
    go_ret
    exact ⟨by first | rfl | exact ret_bool (by assumption), by assumption⟩
theorem fm_info2 (x y : Value) : (Try.prog.info? 24).map (·.size) = some [x, y].length := by kernel_rfl
end Go.Proofs.Ytegeeobfamjjpaa.schema
/- A result that is a value of a field and lives in a variable: stored and returned. No condition. -/
namespace Go.Proofs.Ytegeeobfamjjpaa.field
open Go.RowKit
set_option linter.unusedVariables false

/-- a value that has just been boxed stays -/
theorem two (v : Va) (w w' : World) (hb : Below (w.alloc (.cells #[.int .i64 v.n, .string v.s] 48)).heap.size (w.alloc (.cells #[.int .i64 v.n, .string v.s] 48)) w') : (w'.cell? ⟨w.heap.size, 0, none⟩ = some (.int .i64 v.n) ∧ w'.cell? ⟨w.heap.size, 1, none⟩ = some (.string v.s)) := by
  have hB := (Block.new w 48 [.int .i64 v.n, .string v.s]).later hb
  exact ⟨hB.cell 0, hB.cell 1⟩
/-- the world in which a field has been boxed and the result's variable made -/
def W2 (f : Fd) (w : World) : World := (w.alloc (.cells #[.int .i64 f.id, .int .i64 f.kind, .int .i64 f.lo, .int .i64 f.hi, .int .i64 f.most] 46)).alloc (.cells #[.int .i64 0, .string ⟨#[]⟩] 48)
theorem W2.all (f : Fd) (w w' : World) (hb : Below (W2 f w).heap.size (W2 f w) w') : (w'.cell? ⟨w.heap.size, 0, none⟩ = some (.int .i64 f.id) ∧ w'.cell? ⟨w.heap.size, 1, none⟩ = some (.int .i64 f.kind) ∧ w'.cell? ⟨w.heap.size, 2, none⟩ = some (.int .i64 f.lo) ∧ w'.cell? ⟨w.heap.size, 3, none⟩ = some (.int .i64 f.hi) ∧ w'.cell? ⟨w.heap.size, 4, none⟩ = some (.int .i64 f.most)) ∧ Block w' (w.heap.size + 1) 48 [.int .i64 0, .string ⟨#[]⟩] ∧ Below w.heap.size w w' := by
  have h1 : Below (w.alloc (.cells #[.int .i64 f.id, .int .i64 f.kind, .int .i64 f.lo, .int .i64 f.hi, .int .i64 f.most] 46)).heap.size (w.alloc (.cells #[.int .i64 f.id, .int .i64 f.kind, .int .i64 f.lo, .int .i64 f.hi, .int .i64 f.most] 46)) w' := (newB _ _).trans (hb.mono (by unfold W2; simp))
  refine ⟨five f w w' h1, ?_, belowF f w w' h1⟩
  have h2 := (Block.new (w.alloc (.cells #[.int .i64 f.id, .int .i64 f.kind, .int .i64 f.lo, .int .i64 f.hi, .int .i64 f.most] 46)) 48 [.int .i64 0, .string ⟨#[]⟩]).later hb
  simpa using h2
theorem val_there {w : World} {b : Nat} {x y : Value} (h : Block w b 48 [x, y]) (n : Int) (s : ByteArray) : w.there b 0 (#[.int .i64 n, .string s] : Array Value).size := h.there 0 2 (by simp)
theorem val_info (n : Int) (s : ByteArray) : (Try.prog.info? 48).map (·.size) = some (#[.int .i64 n, .string s] : Array Value).size := by kernel_rfl
theorem val_info2 (n : Int) (s : ByteArray) : (Try.prog.info? 48).map (·.size) = some [Value.int .i64 n, Value.string s].length := by kernel_rfl
theorem val_one (n : Int) (s : ByteArray) : (#[.int .i64 n, .string s] : Array Value).all (·.oneCell') = true := by simp [Value.oneCell']
theorem val_stored {w w2 a : World} {b B : Nat} {x y : Value} {n : Int} {s : ByteArray} (h : Block w b 48 [x, y]) (hw : Hid (w.setCells b 0 (#[.int .i64 n, .string s] : Array Value).toList = w2)) (hb : B ≤ b) (ha : Below B a w) :
    Block w2 b 48 [.int .i64 n, .string s] ∧ Below B a w2 := by
  constructor
  · have := h.setCells (vs := [.int .i64 n, .string s]) (o := 0)
    rw [put_all _ _ (by simp)] at this
    rw [← hw.out]
    exact this
  · rw [← hw.out]
    exact below_setCells ha hb _ _
/-- three results of which the first lives in a variable -/
theorem results_cell3 {fn : Func} {p u v : Tmp} {ty : TypeId} {tmps : Array Value} {P : Program} {w : World} {b o : Nat} {cs : List Value} {d : TypeDesc} (h : fn.results = #[.cell p ty, .tmp u, .tmp v])
    (hp : tmps.getD p undef = .pointer (some ⟨b, o, none⟩)) (hc : w.rangeAt b o cs) (hu : P.underlying ty = some d) (hd : d.isRow = true) (hi : (P.info? ty).map (·.size) = some cs.length) :
    (results fn tmps).run P w = .ok (.tuple #[.agg cs.toArray, tmps.getD u undef, tmps.getD v undef]) w := by
  simp only [results, h]
  simp at hp
  simp [hp, asAddr, run_loadVar_mid w b o ty cs d hc hu hd hi]
end Go.Proofs.Ytegeeobfamjjpaa.field
/- A region whose order is open: operations that look at no memory are taken first, in an order that the prover names; the others stand in one row. No condition. -/
namespace Go.Proofs.Ytegeeobfamjjpaa.perm
open Go

section
variable {P : Program} {ops : Array Oper} {md : Region.Mode}

/-- an operation that yields a value, or nothing -/
def plainOp : Op → Bool
  | .move _ | .assign _ | .load _ _ | .binOp .. | .unOp .. | .slice .. | .fieldAddr .. | .indexAddr .. | .index .. | .extract .. | .convert .. => true
  | .nilCheck _ => true
  | _ => false
theorem plain_value {ρ : Operand → Value} {o : Oper} {w w' : World} {n : Next} (h : plainOp o.op = true) (hr : (execOp ρ o).run P w = .ok n w') : ∃ u, n = .value u := by
  have key : ∀ (s : Sem Value), (do let x ← s; pure (Next.value x) : Sem Next).run P w = .ok n w' → ∃ u, n = .value u := fun s hs => by
    rw [Sem.run_bind] at hs
    cases hq : s.run P w with
    | ok u w1 => rw [hq] at hs; simp [Result.andThen] at hs; exact ⟨u, hs.1.symm⟩
    | halt x w1 => rw [hq] at hs; simp [Result.andThen] at hs
  unfold execOp at hr
  cases ho : o.op <;> rw [ho] at h hr <;> simp only [plainOp] at h <;> try cases h
  case move x => simp at hr; exact ⟨_, hr.1.symm⟩
  case assign x => simp at hr; exact ⟨_, hr.1.symm⟩
  case nilCheck x =>
    dsimp only at hr
    split at hr
    · simp [runtimePanic, Sem.run_bind, Result.andThen] at hr
    · simp [runtimePanic] at hr
    · simp [runtimePanic] at hr
    · split at hr
      · simp [runtimePanic] at hr
      · simp only [Sem.run_bind] at hr
        generalize Sem.run P program _ = r1 at hr
        cases r1 with
        | halt x w1 => simp [Result.andThen] at hr
        | ok p w1 =>
          simp only [Result.andThen] at hr
          generalize Sem.run P (nilAhead _ _ _ _) _ = r2 at hr
          cases r2 with
          | halt x w2 => simp at hr
          | ok q w2 =>
            simp only at hr
            split at hr
            · simp [unsupported, Result.andThen] at hr
            · simp at hr; exact ⟨_, hr.1.symm⟩
      · simp at hr; exact ⟨_, hr.1.symm⟩
    · simp at hr; exact ⟨_, hr.1.symm⟩
  all_goals exact key _ hr

theorem yieldsIf_of_in {o : Oper} {v : Value} {a : Act} (hp : plainOp o.op = true) (hy : YieldsIn P ops (fun _ => True) o v a) : YieldsIf P ops (fun _ => True) o v a := by
  rcases hy with ⟨hw, hv⟩ | hy
  · refine .inl ⟨hw, fun w' _ => ?_⟩
    have h3 := hv w' trivial
    unfold Oper.quietAt at h3
    generalize hr : (execOp a.eval o).run P w' = r at h3
    cases r with
    | halt x w2 => simp only [Oper.quietUpon] at h3
    | ok n w2 =>
      obtain ⟨u, rfl⟩ := plain_value hp hr
      simp only [Oper.quietUpon] at h3
      rw [h3.1, h3.2]
  · exact .inr hy

def lexFirst (md : Region.Mode) (ops : Array Oper) (F : Array Bool → Bool) : List Nat → Array Bool → Bool
  | [], listed => F listed
  | k :: is, listed => (Region.ready md ops listed).contains k && Region.free md ops listed k && ((ops[k]?).map (fun o => plainOp o.op) == some true) && lexFirst md ops F is (listed.setIfInBounds k true)
def seqOf (md : Region.Mode) (ops : Array Oper) : List Nat → Array Bool → Bool
  | [], listed => (Region.ready md ops listed).isEmpty
  | k :: js, listed => decide (Region.ready md ops listed = [k]) && decide (k < ops.size) && seqOf md ops js (listed.setIfInBounds k true)
def permB (md : Region.Mode) (ops : Array Oper) (is js : List Nat) : Bool :=
  Region.noSelect ops && decide (is.length + js.length = ops.size) && lexFirst md ops (seqOf md ops js) is (Array.replicate ops.size false)
def nth : List Oper → Nat → List Oper
  | [], _ => []
  | o :: _, 0 => [o]
  | _ :: l, k + 1 => nth l k
def pickOps (ops : List Oper) : List Nat → List Oper
  | [] => []
  | k :: is => nth ops k ++ pickOps ops is
theorem nth_of : ∀ {l : List Oper} {k : Nat} {o : Oper}, l[k]? = some o → nth l k = [o]
  | [], k, o, h => by simp at h
  | _ :: _, 0, o, h => by simp at h; simp [nth, h]
  | _ :: l, k + 1, o, h => by simp only [nth]; exact nth_of (by simpa using h)

theorem wpAny_seqOf {Q : Exit → Act → World → Prop} {l : List Oper} : ∀ (js : List Nat) (listed : Array Bool) (a : Act) (w : World), seqOf md l.toArray js listed = true →
    wpList P l.toArray Q (pickOps l js) a w → wpAny P md l.toArray Q js.length listed a w
  | [], _, _, _, hB, h => ⟨by simpa [seqOf] using hB, h⟩
  | k :: js, listed, a, w, hB, h => by
    simp only [seqOf, Bool.and_eq_true, decide_eq_true_eq] at hB
    obtain ⟨⟨hr, hk⟩, hB'⟩ := hB
    have hk' : k < l.length := by simpa using hk
    have h0 : l.toArray[k]? = some l[k] := by simp [hk']
    have e : pickOps l (k :: js) = l[k] :: pickOps l js := by simp [pickOps, nth_of (show l[k]? = some l[k] by simp [hk'])]
    rw [e] at h
    refine ⟨fun h1 => (by rw [hr] at h1; cases h1), fun i hi => ?_⟩
    rw [hr] at hi
    have hik : i = k := by simpa using hi
    subst hik
    have hw : wpOp P l.toArray Q i (wpList P l.toArray Q (pickOps l js)) a w := by unfold wpOp; simp only [h0]; exact h
    exact wpOp_mono (fun a' w' h' => wpAny_seqOf js _ a' w' hB' h') hw

theorem first_ops {Q : Exit → Act → World → Prop} {Lq : Act → Prop} {l : List Oper} {w : World} (F : Array Bool → Bool) (g : Nat) (hsel : Region.noSelect l.toArray = true)
    (hQ : ∀ c a a' w, Q (.panic c) a w → Q (.panic c) a' w) (hK : ∀ listed a, F listed = true → Lq a → wpAny P md l.toArray Q g listed a w) :
    ∀ (is : List Nat) (listed : Array Bool) (a : Act), lexFirst md l.toArray F is listed = true → wpQuiet P l.toArray (fun _ => True) Lq (pickOps l is) a →
      wpAnyH P md l.toArray Q (fun _ => True) (is.length + g) listed a w
  | [], listed, a, hB, h => by
    simp only [List.length_nil, Nat.zero_add]
    exact tail.held_of_any _ _ _ _ (hK _ _ (by simpa [lexFirst] using hB) h)
  | k :: is, listed, a, hB, h => by
    simp only [lexFirst, Bool.and_eq_true] at hB
    obtain ⟨⟨⟨hr, hf⟩, hp⟩, hB'⟩ := hB
    have hp' : (l.toArray[k]?).map (fun o => plainOp o.op) = some true := by simpa using hp
    obtain ⟨o, h0, ho⟩ := Option.map_eq_some_iff.1 hp'
    have hl0 : l[k]? = some o := by simpa using h0
    have e : pickOps l (k :: is) = o :: pickOps l is := by simp [pickOps, nth_of hl0]
    rw [e] at h
    have hst : qOp P l.toArray (fun _ => True) k (wpQuiet P l.toArray (fun _ => True) Lq (pickOps l is)) a := by unfold qOp; simp only [h0]; exact h
    obtain ⟨v, hy, hK'⟩ := yieldsIn_of_qOp h0 hst
    rw [show (k :: is).length + g = (is.length + g) + 1 from by simp only [List.length_cons]; omega]
    exact wpAnyH_take h0 hsel hf hr (fun c a w h => hQ c _ _ w h) (yieldsIf_of_in ho hy) trivial (first_ops F g hsel hQ hK is _ _ hB' hK')

/-- the operations 'is' look at no memory and are taken first; the others, 'js', stand in one row; nothing panics -/
theorem region {id : Nat} {Q : Exit → Act → World → Prop} {a : Act} {w : World} {l : List Oper} (is js : List Nat) (hmx : P.follows .mixedOrders = true) (hB : permB .any l.toArray is js = true)
    (h : wpQuiet P l.toArray (fun _ => True) (fun a' => wpList P l.toArray (NoPanic Q) (pickOps l js) a' w.drew) (pickOps l is) a) : (Code.region id l.toArray true).wp P Q a w := by
  simp only [permB, Bool.and_eq_true, decide_eq_true_eq] at hB
  obtain ⟨⟨hsel, hlen⟩, hlex⟩ := hB
  refine wp_region_noPanic (wp_region_held (S := fun _ => True) hmx ?_)
  have key := first_ops (md := .any) (Q := NoPanic Q) (w := { w with drawn := w.drawn + 1 }) (seqOf .any l.toArray js) js.length hsel (fun c a a' w h => h)
    (fun listed a' hF hL => wpAny_seqOf js listed a' _ hF hL) is _ a hlex h
  rwa [hlen] at key
end
end Go.Proofs.Ytegeeobfamjjpaa.perm
/- A region whose order is open, walked by a schedule that the prover names: an operation that yields the same in every world in which what there was stands is taken first; else the one that may come up comes up. No condition. -/
namespace Go.Proofs.Ytegeeobfamjjpaa.plan
open Go Go.RowKit

section
variable {P : Program} {md : Region.Mode} {Q : Exit → Act → World → Prop} {l : List Oper}

/-- what is still to be shown, when 'listed' have come up -/
def Rest (P : Program) (md : Region.Mode) (l : List Oper) (Q : Exit → Act → World → Prop) (f : Nat) (listed : Array Bool) (a : Act) (w : World) : Prop :=
  wpAnyH P md l.toArray (NoPanic Q) (Below w.heap.size w) f listed a w

theorem weaken {S S' : World → Prop} (hS : ∀ w, S' w → S w) : ∀ (f : Nat) (listed : Array Bool) (a : Act) (w : World), wpAnyH P md l.toArray Q S' f listed a w → wpAnyH P md l.toArray Q S f listed a w
  | 0, _, _, _, h => h
  | f + 1, _, _, _, h => ⟨h.1, fun i hi => wpOp_mono (fun a' w' h' => ⟨hS _ h'.1, weaken hS f _ a' w' h'.2⟩) (h.2 i hi)⟩

theorem Rest.first {f : Nat} {listed : Array Bool} {a : Act} {w : World} (i : Nat) (o : Oper) (v : Value) (hi : l[i]? = some o) (hs : Region.noSelect l.toArray = true) (hf : Region.free md l.toArray listed i = true)
    (hr : (Region.ready md l.toArray listed).contains i = true) (hw : Region.wanted o (yielded l.toArray a.tmps) = true) (hv : ∀ w', Below w.heap.size w w' → (execOp a.eval o).run P w' = .ok (.value v) w')
    (h : Rest P md l Q f (listed.setIfInBounds i true) (a.put o.dst v) w) : Rest P md l Q (f + 1) listed a w :=
  wpAnyH_take (by simpa using hi) hs hf hr (fun c a' w' h => h) (.inl ⟨hw, hv⟩) (Below.refl _ _) h

theorem Rest.value {f : Nat} {listed : Array Bool} {a : Act} {w : World} (i : Nat) (o : Oper) (v : Value) (hi : l[i]? = some o) (hr : Region.ready md l.toArray listed = [i])
    (hw : Region.wanted o (yielded l.toArray a.tmps) = true) (hv : (execOp a.eval o).run P w = .ok (.value v) w)
    (h : Rest P md l Q f (listed.setIfInBounds i true) (a.put o.dst v) w) : Rest P md l Q (f + 1) listed a w := by
  refine wpAnyH_all hr (by simp) fun j hj => ?_
  obtain rfl : j = i := by simpa using hj
  have hi' : l.toArray[j]? = some o := by simpa using hi
  unfold wpOp
  simp only [hi', hw, if_true, Oper.wp, hv, Oper.upon_value]
  exact .inl ⟨Below.refl _ _, h⟩

theorem Rest.call {f : Nat} {listed : Array Bool} {a : Act} {w : World} (i : Nat) (o : Oper) (F : FuncId) (args : Array Value) (hi : l[i]? = some o) (hr : Region.ready md l.toArray listed = [i])
    (hw : Region.wanted o (yielded l.toArray a.tmps) = true) (hv : (execOp a.eval o).run P w = .ok (.enter F args) w)
    (h : Calls P F args w fun e w' => ∃ v, e = .returned v ∧ Below w.heap.size w w' ∧ Rest P md l Q f (listed.setIfInBounds i true) (a.put o.dst v) w') : Rest P md l Q (f + 1) listed a w := by
  refine wpAnyH_all hr (by simp) fun j hj => ?_
  obtain rfl : j = i := by simpa using hj
  have hi' : l.toArray[j]? = some o := by simpa using hi
  unfold wpOp
  simp only [hi', hw, if_true, Oper.wp, hv, Oper.upon]
  refine .inl (h.mono ?_)
  rintro e w' ⟨v, rfl, hb, hR⟩
  exact ⟨hb, weaken (fun w'' hb' => hb.trans (hb'.mono hb.size)) _ _ _ _ hR⟩

theorem Rest.done {listed : Array Bool} {a : Act} {w : World} (hr : Region.ready md l.toArray listed = []) (h : Q .normal a w) : Rest P md l Q 0 listed a w := ⟨hr, NoPanic.normal h⟩

theorem exec_load {o : Oper} {a : Act} {w : World} {ty : TypeId} {x : Operand} {b : Nat} {cs : List Value} {d : TypeDesc} (ho : o.op = .load ty x) (hx : a.eval x = .pointer (some ⟨b, 0, none⟩)) (hc : w.rangeAt b 0 cs)
    (hu : P.underlying ty = some d) (hd : d.isRow = true) (hi : (P.info? ty).map (·.size) = some cs.length) : (execOp a.eval o).run P w = .ok (.value (.agg cs.toArray)) w := by
  unfold execOp
  simp [ho, hx, run_loadAt_mid w b 0 ty cs d hc hu hd hi]
theorem exec_convert {o : Oper} {a : Act} {w : World} {s d : TypeId} {x : Operand} {v u : Value} (ho : o.op = .convert s d x) (hx : a.eval x = v) (hr : (convert s d v).run P w = .ok u w) : (execOp a.eval o).run P w = .ok (.value u) w := by
  unfold execOp
  simp [ho, hx, hr]
theorem exec_eql {o : Oper} {a : Act} {w : World} {t t' : TypeId} {x y : Operand} {vx vy u : Value} (ho : o.op = .binOp .eql t x y t') (hx : a.eval x = vx) (hy : a.eval y = vy)
    (hg : (eqGuard .eql t x y vx vy).run P w = .ok () w) (hr : (binOp .eql t vx vy).run P w = .ok u w) : (execOp a.eval o).run P w = .ok (.value u) w := by
  unfold execOp
  simp [ho, hx, hy, Sem.run_bind, hg, hr]
theorem region {id : Nat} {a : Act} {w : World} (hmx : P.follows .mixedOrders = true) (h : Rest P .any l Q l.length (Array.replicate l.length false) a w.drew) : (Code.region id l.toArray true).wp P Q a w := by
  refine wp_region_noPanic (wp_region_held (S := Below w.drew.heap.size w.drew) hmx ?_)
  have e : l.toArray.size = l.length := by simp
  rw [e]
  exact h
end
end Go.Proofs.Ytegeeobfamjjpaa.plan
/- A region whose order is open: two calls that make memory, one behind the other, and two new variables that may come up at any time. Whatever the order, behind the four the state is the same but for where the variables lie. No condition. -/
namespace Go.Proofs.Ytegeeobfamjjpaa.plan
open Go Go.RowKit
set_option linter.unusedVariables false

theorem put_same (a : Act) (d : Nat) (u v : Value) : (a.put (some d) u).put (some d) v = a.put (some d) v := by
  simp [Act.put]
theorem put_comm (a : Act) (d e : Nat) (u v : Value) (h : d ≠ e) : (a.put (some d) u).put (some e) v = (a.put (some e) v).put (some d) u := by
  simp only [Act.put, Act.mk.injEq, and_true]
  exact Array.setIfInBounds_comm u v h
theorem wanted_none {o : Oper} (h : o.guard = none) (y : Nat → Option Value) (hy : True) : ∀ t, Region.wanted o t = true := by
  intro t
  unfold Region.wanted
  rw [h]

section
variable {P : Program} {md : Region.Mode} {Q : Exit → Act → World → Prop} {l : List Oper}

theorem exec_load_int {o : Oper} {a : Act} {w : World} {ty : TypeId} {x : Operand} {ad : Addr} {k : IntKind} {n : Int} (ho : o.op = .load ty x) (hx : a.eval x = .pointer (some ad)) (hc : w.cell? ad = some (.int k n)) (hu : ∀ w', (isAgg ty).run P w' = .ok false w') :
    (execOp a.eval o).run P w = .ok (.value (.int k n)) w := by
  unfold execOp
  rw [ho]
  simp only [hx]
  go_simp
/-- each operation that may come up goes on -/
theorem every {S : World → Prop} {f : Nat} {listed : Array Bool} {a : Act} {w : World} (hne : Region.ready md l.toArray listed ≠ [])
    (h : ∀ i ∈ Region.ready md l.toArray listed, ∃ o, l[i]? = some o ∧ o.guard = none ∧
      ((∃ v w1, (execOp a.eval o).run P w = .ok (.value v) w1 ∧ S w1 ∧ wpAnyH P md l.toArray (NoPanic Q) S f (listed.setIfInBounds i true) (a.put o.dst v) w1) ∨
       (∃ F args, (execOp a.eval o).run P w = .ok (.enter F args) w ∧ Calls P F args w fun e w' => ∃ v, e = .returned v ∧ S w' ∧ wpAnyH P md l.toArray (NoPanic Q) S f (listed.setIfInBounds i true) (a.put o.dst v) w'))) :
    wpAnyH P md l.toArray (NoPanic Q) S (f + 1) listed a w := by
  refine wpAnyH_all rfl hne fun i hi => ?_
  obtain ⟨o, ho, hg, h⟩ := h i hi
  have hi' : l.toArray[i]? = some o := by simpa using ho
  have hw : Region.wanted o (yielded l.toArray a.tmps) = true := by unfold Region.wanted; rw [hg]
  unfold wpOp
  rcases h with ⟨v, w1, hv, hb, hR⟩ | ⟨F, args, hv, hc⟩
  · simp only [hi', hw, if_true, Oper.wp, hv, Oper.upon]
    exact .inl ⟨hb, hR⟩
  · simp only [hi', hw, if_true, Oper.wp, hv, Oper.upon]
    refine .inl (hc.mono ?_)
    rintro e w' ⟨v, rfl, hb, hR⟩
    exact ⟨hb, hR⟩

/-- a store of a row into a block of the call's own, the only operation that may come up -/
theorem store {f : Nat} {listed : Array Bool} {a : Act} {w0 w : World} (B i : Nat) (o : Oper) (ty : TypeId) (x y : Operand) (g : Nat) (t : TypeId) (cs : List Value) (cells : Array Value) (hi : l[i]? = some o) (hg : o.guard = none) (ho : o.op = .store ty x y) (hd : o.dst = none)
    (hr : Region.ready md l.toArray listed = [i]) (hx : a.eval x = .pointer (some ⟨g, 0, none⟩)) (hy : a.eval y = .agg cells) (hb : Block w g t cs) (hl : cs.length = cells.size) (hs : (P.info? ty).map (·.size) = some cells.size) (h1 : cells.all (·.oneCell') = true)
    (h0 : Below B w0 w) (hB : B ≤ g)
    (hS : ∀ w', Below B w0 w' → Block w' g t cells.toList → (∀ g' t' cs', g' ≠ g → Block w g' t' cs' → Block w' g' t' cs') → wpAnyH P md l.toArray (NoPanic Q) (Below B w0) f (listed.setIfInBounds i true) a w') :
    wpAnyH P md l.toArray (NoPanic Q) (Below B w0) (f + 1) listed a w := by
  refine wpAnyH_all hr (by simp) fun j hj => ?_
  obtain rfl : j = i := by simpa using hj
  have hi' : l.toArray[j]? = some o := by simpa using hi
  have hw : Region.wanted o (yielded l.toArray a.tmps) = true := by unfold Region.wanted; rw [hg]
  have hrun : (execOp a.eval o).run P w = .ok .skip (w.setCells g 0 cells.toList) := by
    unfold execOp
    simp [ho, hx, hy, run_storeAt_mid w g 0 ty cells (hb.there 0 cells.size (by omega)) hs h1]
  have hbl : Below B w0 (w.setCells g 0 cells.toList) := below_setCells h0 hB _ _
  unfold wpOp
  simp only [hi', hw, if_true, Oper.wp, hrun, Oper.upon]
  refine .inl ⟨hbl, ?_⟩
  rw [hd]
  refine hS _ hbl ?_ fun g' t' cs' hne h' => h'.aparts g 0 _ hne
  have := hb.setCells (vs := cells.toList) (o := 0)
  rwa [put_all _ _ (by simpa using hl)] at this

/-- the frame, with the two results and the two variables' addresses -/
def at4 (a0 : Act) (d2 d5 d6 d7 : Nat) (v2 v5 p6 p7 : Value) : Act := (((a0.put (some d2) v2).put (some d5) v5).put (some d6) p6).put (some d7) p7
/-- what is known when some of the four have come up -/
structure Inv4 (w0 : World) (t : TypeId) (Z : List Value) (V2 V5 : Value) (b2 b5 b6 b7 : Bool) (v2 v5 p6 p7 : Value) (w : World) : Prop where
  below : Below w0.heap.size w0 w
  c2 : b2 = true → v2 = V2
  c5 : b5 = true → v5 = V5
  a6 : b6 = true → ∃ g, p6 = .pointer (some ⟨g, 0, none⟩) ∧ w0.heap.size ≤ g ∧ Block w g t Z
  a7 : b7 = true → ∃ g, p7 = .pointer (some ⟨g, 0, none⟩) ∧ w0.heap.size ≤ g ∧ Block w g t Z
  ne : b6 = true → b7 = true → p6 ≠ p7
theorem Inv4.later {w0 w w' : World} {t : TypeId} {Z : List Value} {V2 V5 : Value} {b2 b5 b6 b7 : Bool} {v2 v5 p6 p7 : Value} (h : Inv4 w0 t Z V2 V5 b2 b5 b6 b7 v2 v5 p6 p7 w) (hb : Below w.heap.size w w') :
    Inv4 w0 t Z V2 V5 b2 b5 b6 b7 v2 v5 p6 p7 w' :=
  ⟨h.below.trans (hb.mono h.below.size), h.c2, h.c5, fun e => (h.a6 e).imp fun g ⟨h1, h2, h3⟩ => ⟨h1, h2, h3.later hb⟩, fun e => (h.a7 e).imp fun g ⟨h1, h2, h3⟩ => ⟨h1, h2, h3.later hb⟩, h.ne⟩

theorem four (a0 : Act) (w0 : World) (t : TypeId) (Z : List Value) (V2 V5 : Value) (d2 d5 d6 d7 : Nat) (o2 o5 o6 o7 : Oper) (F : FuncId) (x2 x5 : Array Value)
    (n25 : d2 ≠ d5) (n26 : d2 ≠ d6) (n27 : d2 ≠ d7) (n56 : d5 ≠ d6) (n57 : d5 ≠ d7) (n67 : d6 ≠ d7)
    (l2 : l[2]? = some o2) (l5 : l[5]? = some o5) (l6 : l[6]? = some o6) (l7 : l[7]? = some o7)
    (g2 : o2.guard = none) (g5 : o5.guard = none) (g6 : o6.guard = none) (g7 : o7.guard = none)
    (s2 : o2.dst = some d2) (s5 : o5.dst = some d5) (s6 : o6.dst = some d6) (s7 : o7.dst = some d7)
    (hready : ∀ b2 b5 b6 b7, (b5 = true → b2 = true) → (b2 && b5 && b6 && b7) = false →
      Region.ready md l.toArray #[true, true, b2, true, true, b5, b6, b7, false, false] = (if b2 = true then (if b5 = true then [] else [5]) else [2]) ++ ((if b6 = true then [] else [6]) ++ (if b7 = true then [] else [7])))
    (r2 : ∀ v2 v5 p6 p7 w, (execOp (at4 a0 d2 d5 d6 d7 v2 v5 p6 p7).eval o2).run P w = .ok (.enter F x2) w)
    (r5 : ∀ v2 v5 p6 p7 w, (execOp (at4 a0 d2 d5 d6 d7 v2 v5 p6 p7).eval o5).run P w = .ok (.enter F x5) w)
    (r6 : ∀ v2 v5 p6 p7 w, (execOp (at4 a0 d2 d5 d6 d7 v2 v5 p6 p7).eval o6).run P w = .ok (.value (.pointer (some ⟨w.heap.size, 0, none⟩))) (w.alloc (.cells Z.toArray t)))
    (r7 : ∀ v2 v5 p6 p7 w, (execOp (at4 a0 d2 d5 d6 d7 v2 v5 p6 p7).eval o7).run P w = .ok (.value (.pointer (some ⟨w.heap.size, 0, none⟩))) (w.alloc (.cells Z.toArray t)))
    (k2 : ∀ w, Calls P F x2 w fun e w' => e = .returned V2 ∧ Below w.heap.size w w') (k5 : ∀ w, Calls P F x5 w fun e w' => e = .returned V5 ∧ Below w.heap.size w w')
    (rest : ∀ g g' w', w0.heap.size ≤ g → w0.heap.size ≤ g' → g ≠ g' → Block w' g t Z → Block w' g' t Z → Below w0.heap.size w0 w' →
      wpAnyH P md l.toArray (NoPanic Q) (Below w0.heap.size w0) 2 #[true, true, true, true, true, true, true, true, false, false] (at4 a0 d2 d5 d6 d7 V2 V5 (.pointer (some ⟨g, 0, none⟩)) (.pointer (some ⟨g', 0, none⟩))) w') :
    ∀ (n : Nat) (b2 b5 b6 b7 : Bool) (v2 v5 p6 p7 : Value) (w : World), (b5 = true → b2 = true) → n = (if b2 = true then 0 else 1) + (if b5 = true then 0 else 1) + (if b6 = true then 0 else 1) + (if b7 = true then 0 else 1) →
      Inv4 w0 t Z V2 V5 b2 b5 b6 b7 v2 v5 p6 p7 w →
      wpAnyH P md l.toArray (NoPanic Q) (Below w0.heap.size w0) (n + 2) #[true, true, b2, true, true, b5, b6, b7, false, false] (at4 a0 d2 d5 d6 d7 v2 v5 p6 p7) w := by
  have e2 : ∀ v2 v5 p6 p7 v, (at4 a0 d2 d5 d6 d7 v2 v5 p6 p7).put (some d2) v = at4 a0 d2 d5 d6 d7 v v5 p6 p7 := by
    intro v2 v5 p6 p7 v
    unfold at4
    rw [put_comm _ d7 d2 _ _ n27.symm, put_comm _ d6 d2 _ _ n26.symm, put_comm _ d5 d2 _ _ n25.symm, put_same]
  have e5 : ∀ v2 v5 p6 p7 v, (at4 a0 d2 d5 d6 d7 v2 v5 p6 p7).put (some d5) v = at4 a0 d2 d5 d6 d7 v2 v p6 p7 := by
    intro v2 v5 p6 p7 v
    unfold at4
    rw [put_comm _ d7 d5 _ _ n57.symm, put_comm _ d6 d5 _ _ n56.symm, put_same]
  have e6 : ∀ v2 v5 p6 p7 v, (at4 a0 d2 d5 d6 d7 v2 v5 p6 p7).put (some d6) v = at4 a0 d2 d5 d6 d7 v2 v5 v p7 := by
    intro v2 v5 p6 p7 v
    unfold at4
    rw [put_comm _ d7 d6 _ _ n67.symm, put_same]
  have e7 : ∀ v2 v5 p6 p7 v, (at4 a0 d2 d5 d6 d7 v2 v5 p6 p7).put (some d7) v = at4 a0 d2 d5 d6 d7 v2 v5 p6 v := by
    intro v2 v5 p6 p7 v
    unfold at4
    rw [put_same]
  have hal : ∀ w : World, Below w.heap.size w (w.alloc (.cells Z.toArray t)) := fun w => (Below.refl _ w).alloc (Nat.le_refl _) _
  intro n
  induction n with
  | zero =>
    intro b2 b5 b6 b7 v2 v5 p6 p7 w h25 hn inv
    cases b2 <;> cases b5 <;> cases b6 <;> cases b7 <;> simp at hn
    obtain rfl := inv.c2 rfl
    obtain rfl := inv.c5 rfl
    obtain ⟨g, rfl, hg, hB⟩ := inv.a6 rfl
    obtain ⟨g', rfl, hg', hB'⟩ := inv.a7 rfl
    exact rest g g' w hg hg' (by rintro rfl; exact inv.ne rfl rfl rfl) hB hB' inv.below
  | succ n ih =>
    intro b2 b5 b6 b7 v2 v5 p6 p7 w h25 hn inv
    have hall : (b2 && b5 && b6 && b7) = false := by
      cases b2 <;> cases b5 <;> cases b6 <;> cases b7 <;> simp at hn ⊢
    have hr := hready b2 b5 b6 b7 h25 hall
    refine every ?_ ?_
    · rw [hr]
      cases b2 <;> cases b5 <;> cases b6 <;> cases b7 <;> simp at hall ⊢
    · rw [hr]
      intro i hi
      simp only [List.mem_append] at hi
      rcases hi with hi | hi | hi
      · cases b2 with
        | false =>
          obtain rfl : i = 2 := by simpa using hi
          obtain rfl : b5 = false := by cases b5 <;> simp at h25 ⊢
          refine ⟨o2, l2, g2, .inr ⟨F, x2, r2 _ _ _ _ _, (k2 w).mono ?_⟩⟩
          rintro e w' ⟨rfl, hb⟩
          refine ⟨V2, rfl, (inv.later hb).below, ?_⟩
          rw [s2, e2]
          have i' := inv.later hb
          exact ih true false b6 b7 V2 v5 p6 p7 w' (by simp) (by simp at hn ⊢; omega) ⟨i'.below, fun _ => rfl, i'.c5, i'.a6, i'.a7, i'.ne⟩
        | true =>
          cases b5 with
          | true => simp at hi
          | false =>
            obtain rfl : i = 5 := by simpa using hi
            refine ⟨o5, l5, g5, .inr ⟨F, x5, r5 _ _ _ _ _, (k5 w).mono ?_⟩⟩
            rintro e w' ⟨rfl, hb⟩
            refine ⟨V5, rfl, (inv.later hb).below, ?_⟩
            rw [s5, e5]
            have i' := inv.later hb
            exact ih true true b6 b7 v2 V5 p6 p7 w' (by simp) (by simp at hn ⊢; omega) ⟨i'.below, i'.c2, fun _ => rfl, i'.a6, i'.a7, i'.ne⟩
      · cases b6 with
        | true => simp at hi
        | false =>
          obtain rfl : i = 6 := by simpa using hi
          refine ⟨o6, l6, g6, .inl ⟨_, _, r6 _ _ _ _ _, (inv.later (hal w)).below, ?_⟩⟩
          rw [s6, e6]
          have i' := inv.later (hal w)
          refine ih b2 b5 true b7 v2 v5 _ p7 _ h25 (by simp at hn ⊢; omega) ⟨i'.below, i'.c2, i'.c5, fun _ => ⟨_, rfl, inv.below.size, Block.new w t Z⟩, i'.a7, fun _ e7 => ?_⟩
          obtain ⟨g, rfl, _, hB⟩ := inv.a7 e7
          have := hB.lt
          simp only [ne_eq, Value.pointer.injEq, Option.some.injEq, Addr.mk.injEq, and_true]
          omega
      · cases b7 with
        | true => simp at hi
        | false =>
          obtain rfl : i = 7 := by simpa using hi
          refine ⟨o7, l7, g7, .inl ⟨_, _, r7 _ _ _ _ _, (inv.later (hal w)).below, ?_⟩⟩
          rw [s7, e7]
          have i' := inv.later (hal w)
          refine ih b2 b5 b6 true v2 v5 p6 _ _ h25 (by simp at hn ⊢; omega) ⟨i'.below, i'.c2, i'.c5, i'.a6, fun _ => ⟨_, rfl, inv.below.size, Block.new w t Z⟩, fun e6 _ => ?_⟩
          obtain ⟨g, rfl, _, hB⟩ := inv.a6 e6
          have := hB.lt
          simp only [ne_eq, Value.pointer.injEq, Option.some.injEq, Addr.mk.injEq, and_true]
          omega
theorem Rest.to4 {f : Nat} {listed : Array Bool} {a : Act} {w : World} (d2 d5 d6 d7 : Nat) (hf : f = 6) (hl : listed = #[true, true, false, true, true, false, false, false, false, false]) (ha : at4 a d2 d5 d6 d7 undef undef undef undef = a)
    (h : wpAnyH P md l.toArray (NoPanic Q) (Below w.heap.size w) 6 #[true, true, false, true, true, false, false, false, false, false] (at4 a d2 d5 d6 d7 undef undef undef undef) w) : Rest P md l Q f listed a w := by
  subst hf hl
  rw [ha] at h
  exact h
end
end Go.Proofs.Ytegeeobfamjjpaa.plan
/- A region whose order is open: two chains of two operations each: a load (A1) and a row that is made of it (A2); a load (B1) and a row that is made of it (B2). Whatever the order, behind the four the state is the same but for where the rows lie. No condition. -/
namespace Go.Proofs.Ytegeeobfamjjpaa.plan
open Go Go.RowKit
set_option linter.unusedVariables false

section
variable {P : Program} {md : Region.Mode} {Q : Exit → Act → World → Prop} {l : List Oper}

/-- an operation that looks at no memory is taken first -/
theorem free {f : Nat} {listed : Array Bool} {a : Act} {w : World} (i : Nat) (o : Oper) (v : Value) (hi : l[i]? = some o) (hs : Region.noSelect l.toArray = true) (hf : Region.free md l.toArray listed i = true)
    (hr : (Region.ready md l.toArray listed).contains i = true) (hw : Region.wanted o (yielded l.toArray a.tmps) = true) (hv : ∀ w', (execOp a.eval o).run P w' = .ok (.value v) w')
    (h : wpAnyH P md l.toArray (NoPanic Q) (fun _ => True) f (listed.setIfInBounds i true) (a.put o.dst v) w) : wpAnyH P md l.toArray (NoPanic Q) (fun _ => True) (f + 1) listed a w :=
  wpAnyH_take (by simpa using hi) hs hf hr (fun c a' w' h => h) (.inl ⟨hw, fun w' _ => hv w'⟩) trivial h
theorem regionT {id : Nat} {a : Act} {w : World} (hmx : P.follows .mixedOrders = true) (h : wpAnyH P .any l.toArray (NoPanic Q) (fun _ => True) l.length (Array.replicate l.length false) a w.drew) : (Code.region id l.toArray true).wp P Q a w := by
  refine wp_region_noPanic (wp_region_held (S := fun _ => True) hmx ?_)
  have e : l.toArray.size = l.length := by simp
  rw [e]
  exact h
/-- the only operation that may come up yields a value -/
theorem oneT {f : Nat} {listed : Array Bool} {a : Act} {w w1 : World} (i : Nat) (o : Oper) (v : Value) (hi : l[i]? = some o) (hg : o.guard = none) (hr : Region.ready md l.toArray listed = [i])
    (hv : (execOp a.eval o).run P w = .ok (.value v) w1) (h : wpAnyH P md l.toArray (NoPanic Q) (fun _ => True) f (listed.setIfInBounds i true) (a.put o.dst v) w1) : wpAnyH P md l.toArray (NoPanic Q) (fun _ => True) (f + 1) listed a w := by
  refine every (by rw [hr]; simp) fun j hj => ?_
  rw [hr] at hj
  obtain rfl : j = i := by simpa using hj
  exact ⟨o, hi, hg, .inl ⟨v, w1, hv, trivial, h⟩⟩
theorem oneE {f : Nat} {listed : Array Bool} {a : Act} {w : World} (i : Nat) (o : Oper) (Pr : Value → World → Prop) (hi : l[i]? = some o) (hg : o.guard = none) (hr : Region.ready md l.toArray listed = [i])
    (hv : ∃ v w1, (execOp a.eval o).run P w = .ok (.value v) w1 ∧ Pr v w1) (h : ∀ v w1, Pr v w1 → wpAnyH P md l.toArray (NoPanic Q) (fun _ => True) f (listed.setIfInBounds i true) (a.put o.dst v) w1) : wpAnyH P md l.toArray (NoPanic Q) (fun _ => True) (f + 1) listed a w := by
  obtain ⟨v, w1, h1, h2⟩ := hv
  exact oneT i o v hi hg hr h1 (h v w1 h2)
/-- the only operation that may come up is a store, the last -/
theorem lastT {listed : Array Bool} {a : Act} {w w1 : World} (i : Nat) (o : Oper) (hi : l[i]? = some o) (hg : o.guard = none) (hd : o.dst = none) (hr : Region.ready md l.toArray listed = [i]) (hr2 : Region.ready md l.toArray (listed.setIfInBounds i true) = [])
    (hv : (execOp a.eval o).run P w = .ok .skip w1) (h : Q .normal a w1) : wpAnyH P md l.toArray (NoPanic Q) (fun _ => True) 1 listed a w := by
  refine wpAnyH_all hr (by simp) fun j hj => ?_
  obtain rfl : j = i := by simpa using hj
  have hi' : l.toArray[j]? = some o := by simpa using hi
  have hw : Region.wanted o (yielded l.toArray a.tmps) = true := by unfold Region.wanted; rw [hg]
  unfold wpOp
  have e : a.put o.dst undef = a := by rw [hd]; rfl
  simp only [hi', hw, if_true, Oper.wp, hv, Oper.upon]
  exact .inl ⟨trivial, hr2, NoPanic.normal (by rw [e]; exact h)⟩
theorem to4 {n : Nat} {listed : Array Bool} {a : Act} {w : World} (dA eA dB eB f : Nat) (L : Bool → Bool → Bool → Bool → Array Bool) (hf : n = f + 4) (hl : listed = L false false false false) (ha : at4 a dA eA dB eB undef undef undef undef = a)
    (h : wpAnyH P md l.toArray (NoPanic Q) (fun _ => True) (f + 4) (L false false false false) (at4 a dA eA dB eB undef undef undef undef) w) : wpAnyH P md l.toArray (NoPanic Q) (fun _ => True) n listed a w := by
  subst hf hl
  rw [ha] at h
  exact h
theorem cross (a0 : Act) (w0 : World) (iA iB jA jB dA eA dB eB f : Nat) (n1 : dA ≠ eA) (n2 : dA ≠ dB) (n3 : dA ≠ eB) (n4 : eA ≠ dB) (n5 : eA ≠ eB) (n6 : dB ≠ eB) (oA pA oB pB : Oper) (L : Bool → Bool → Bool → Bool → Array Bool)
    (lA : l[iA]? = some oA) (mA : l[jA]? = some pA) (lB : l[iB]? = some oB) (mB : l[jB]? = some pB) (gA : oA.guard = none) (hA : pA.guard = none) (gB : oB.guard = none) (hB : pB.guard = none)
    (sA : oA.dst = some dA) (tA : pA.dst = some eA) (sB : oB.dst = some dB) (tB : pB.dst = some eB)
    (cA : ∀ q r s, (L false q r s).setIfInBounds iA true = L true q r s) (zA : ∀ p r s, (L p false r s).setIfInBounds jA true = L p true r s) (cB : ∀ p q s, (L p q false s).setIfInBounds iB true = L p q true s) (zB : ∀ p q r, (L p q r false).setIfInBounds jB true = L p q r true)
    (q00 : Region.ready md l.toArray (L false false false false) = [iA, iB]) (q10 : Region.ready md l.toArray (L true false false false) = [jA, iB]) (q01 : Region.ready md l.toArray (L false false true false) = [iA, jB])
    (q20 : Region.ready md l.toArray (L true true false false) = [iB]) (q11 : Region.ready md l.toArray (L true false true false) = [jA, jB]) (q02 : Region.ready md l.toArray (L false false true true) = [iA])
    (q21 : Region.ready md l.toArray (L true true true false) = [jB]) (q12 : Region.ready md l.toArray (L true false true true) = [jA])
    (VA VB : Value) (RA RB : Value → World → Prop) (kA : ∀ x w w', RA x w → Below w.heap.size w w' → RA x w') (kB : ∀ x w w', RB x w → Below w.heap.size w w' → RB x w')
    (rA : ∀ u v x y w, Below w0.heap.size w0 w → (execOp (at4 a0 dA eA dB eB u v x y).eval oA).run P w = .ok (.value VA) w)
    (rB : ∀ u v x y w, Below w0.heap.size w0 w → (execOp (at4 a0 dA eA dB eB u v x y).eval oB).run P w = .ok (.value VB) w)
    (yA : ∀ v x y w, Below w0.heap.size w0 w → ∃ z w', (execOp (at4 a0 dA eA dB eB VA v x y).eval pA).run P w = .ok (.value z) w' ∧ Below w.heap.size w w' ∧ RA z w')
    (yB : ∀ u v y w, Below w0.heap.size w0 w → ∃ z w', (execOp (at4 a0 dA eA dB eB u v VB y).eval pB).run P w = .ok (.value z) w' ∧ Below w.heap.size w w' ∧ RB z w')
    (rest : ∀ v y w', RA v w' → RB y w' → Below w0.heap.size w0 w' → wpAnyH P md l.toArray (NoPanic Q) (fun _ => True) f (L true true true true) (at4 a0 dA eA dB eB VA v VB y) w')
    (u v x y : Value) :
    wpAnyH P md l.toArray (NoPanic Q) (fun _ => True) (f + 4) (L false false false false) (at4 a0 dA eA dB eB u v x y) w0 := by
  have pA1 : ∀ u v x y z, (at4 a0 dA eA dB eB u v x y).put (some dA) z = at4 a0 dA eA dB eB z v x y := by
    intro u v x y z
    unfold at4
    rw [put_comm _ eB dA _ _ n3.symm, put_comm _ dB dA _ _ n2.symm, put_comm _ eA dA _ _ n1.symm, put_same]
  have pA2 : ∀ u v x y z, (at4 a0 dA eA dB eB u v x y).put (some eA) z = at4 a0 dA eA dB eB u z x y := by
    intro u v x y z
    unfold at4
    rw [put_comm _ eB eA _ _ n5.symm, put_comm _ dB eA _ _ n4.symm, put_same]
  have pB1 : ∀ u v x y z, (at4 a0 dA eA dB eB u v x y).put (some dB) z = at4 a0 dA eA dB eB u v z y := by
    intro u v x y z
    unfold at4
    rw [put_comm _ eB dB _ _ n6.symm, put_same]
  have pB2 : ∀ u v x y z, (at4 a0 dA eA dB eB u v x y).put (some eB) z = at4 a0 dA eA dB eB u v x z := by
    intro u v x y z
    unfold at4
    rw [put_same]
  have st : ∀ {w w' : World}, Below w0.heap.size w0 w → Below w.heap.size w w' → Below w0.heap.size w0 w' := fun h k => h.trans (k.mono h.size)
  -- backwards through the states
  have s21 : ∀ v y w, RA v w → Below w0.heap.size w0 w → wpAnyH P md l.toArray (NoPanic Q) (fun _ => True) (f + 1) (L true true true false) (at4 a0 dA eA dB eB VA v VB y) w := fun v y w h1 hb => by
    obtain ⟨z, w', hr, hb2, hz⟩ := yB VA v y w hb
    refine oneT jB pB z mB hB q21 hr ?_
    rw [zB, tB, pB2]
    exact rest _ _ _ (kA _ _ _ h1 hb2) hz (st hb hb2)
  have s12 : ∀ v y w, RB y w → Below w0.heap.size w0 w → wpAnyH P md l.toArray (NoPanic Q) (fun _ => True) (f + 1) (L true false true true) (at4 a0 dA eA dB eB VA v VB y) w := fun v y w h1 hb => by
    obtain ⟨z, w', hr, hb2, hz⟩ := yA v VB y w hb
    refine oneT jA pA z mA hA q12 hr ?_
    rw [zA, tA, pA2]
    exact rest _ _ _ hz (kB _ _ _ h1 hb2) (st hb hb2)
  have s11 : ∀ v y w, Below w0.heap.size w0 w → wpAnyH P md l.toArray (NoPanic Q) (fun _ => True) (f + 2) (L true false true false) (at4 a0 dA eA dB eB VA v VB y) w := fun v y w hb => by
    refine every (by rw [q11]; simp) fun i hi => ?_
    rw [q11] at hi
    rcases List.mem_cons.1 hi with rfl | hi
    · obtain ⟨z, w', hr, hb2, hz⟩ := yA v VB y w hb
      refine ⟨pA, mA, hA, .inl ⟨z, w', hr, trivial, ?_⟩⟩
      rw [zA, tA, pA2]
      exact s21 _ _ _ hz (st hb hb2)
    · obtain rfl : i = jB := by simpa using hi
      obtain ⟨z, w', hr, hb2, hz⟩ := yB VA v y w hb
      refine ⟨pB, mB, hB, .inl ⟨z, w', hr, trivial, ?_⟩⟩
      rw [zB, tB, pB2]
      exact s12 _ _ _ hz (st hb hb2)
  have s20 : ∀ v x y w, RA v w → Below w0.heap.size w0 w → wpAnyH P md l.toArray (NoPanic Q) (fun _ => True) (f + 2) (L true true false false) (at4 a0 dA eA dB eB VA v x y) w := fun v x y w h1 hb => by
    refine oneT iB oB VB lB gB q20 (rB _ _ _ _ w hb) ?_
    rw [cB, sB, pB1]
    exact s21 _ _ _ h1 hb
  have s02 : ∀ u v y w, RB y w → Below w0.heap.size w0 w → wpAnyH P md l.toArray (NoPanic Q) (fun _ => True) (f + 2) (L false false true true) (at4 a0 dA eA dB eB u v VB y) w := fun u v y w h1 hb => by
    refine oneT iA oA VA lA gA q02 (rA _ _ _ _ w hb) ?_
    rw [cA, sA, pA1]
    exact s12 _ _ _ h1 hb
  have s10 : ∀ v x y w, Below w0.heap.size w0 w → wpAnyH P md l.toArray (NoPanic Q) (fun _ => True) (f + 3) (L true false false false) (at4 a0 dA eA dB eB VA v x y) w := fun v x y w hb => by
    refine every (by rw [q10]; simp) fun i hi => ?_
    rw [q10] at hi
    rcases List.mem_cons.1 hi with rfl | hi
    · obtain ⟨z, w', hr, hb2, hz⟩ := yA v x y w hb
      refine ⟨pA, mA, hA, .inl ⟨z, w', hr, trivial, ?_⟩⟩
      rw [zA, tA, pA2]
      exact s20 _ _ _ _ hz (st hb hb2)
    · obtain rfl : i = iB := by simpa using hi
      refine ⟨oB, lB, gB, .inl ⟨VB, w, rB _ _ _ _ w hb, trivial, ?_⟩⟩
      rw [cB, sB, pB1]
      exact s11 _ _ _ hb
  have s01 : ∀ u v y w, Below w0.heap.size w0 w → wpAnyH P md l.toArray (NoPanic Q) (fun _ => True) (f + 3) (L false false true false) (at4 a0 dA eA dB eB u v VB y) w := fun u v y w hb => by
    refine every (by rw [q01]; simp) fun i hi => ?_
    rw [q01] at hi
    rcases List.mem_cons.1 hi with rfl | hi
    · refine ⟨oA, lA, gA, .inl ⟨VA, w, rA _ _ _ _ w hb, trivial, ?_⟩⟩
      rw [cA, sA, pA1]
      exact s11 _ _ _ hb
    · obtain rfl : i = jB := by simpa using hi
      obtain ⟨z, w', hr, hb2, hz⟩ := yB u v y w hb
      refine ⟨pB, mB, hB, .inl ⟨z, w', hr, trivial, ?_⟩⟩
      rw [zB, tB, pB2]
      exact s02 _ _ _ _ hz (st hb hb2)
  refine every (by rw [q00]; simp) fun i hi => ?_
  rw [q00] at hi
  rcases List.mem_cons.1 hi with rfl | hi
  · refine ⟨oA, lA, gA, .inl ⟨VA, w0, rA _ _ _ _ w0 (Below.refl _ _), trivial, ?_⟩⟩
    rw [cA, sA, pA1]
    exact s10 _ _ _ _ (Below.refl _ _)
  · obtain rfl : i = iB := by simpa using hi
    refine ⟨oB, lB, gB, .inl ⟨VB, w0, rB _ _ _ _ w0 (Below.refl _ _), trivial, ?_⟩⟩
    rw [cB, sB, pB1]
    exact s01 _ _ _ _ (Below.refl _ _)
end
end Go.Proofs.Ytegeeobfamjjpaa.plan
/- A region whose order is open: a load (1) that may come up at any time beside a call (3) and a row that is made of its answer (4). Whatever the order, behind the three the state is the same. No condition. -/
namespace Go.Proofs.Ytegeeobfamjjpaa.plan
open Go Go.RowKit
set_option linter.unusedVariables false
section
variable {P : Program} {md : Region.Mode} {Q : Exit → Act → World → Prop} {l : List Oper}
/-- one of two operations that may come up -/
theorem twoT {f : Nat} {listed : Array Bool} {a : Act} {w : World} (i j : Nat) (hne : Region.ready md l.toArray listed ≠ []) (hr : ∀ k ∈ Region.ready md l.toArray listed, k = i ∨ k = j)
    (hi : ∃ o, l[i]? = some o ∧ o.guard = none ∧ ((∃ v w1, (execOp a.eval o).run P w = .ok (.value v) w1 ∧ wpAnyH P md l.toArray (NoPanic Q) (fun _ => True) f (listed.setIfInBounds i true) (a.put o.dst v) w1) ∨ (∃ F args, (execOp a.eval o).run P w = .ok (.enter F args) w ∧ Calls P F args w fun e w' => ∃ v, e = .returned v ∧ wpAnyH P md l.toArray (NoPanic Q) (fun _ => True) f (listed.setIfInBounds i true) (a.put o.dst v) w')))
    (hj : ∃ o, l[j]? = some o ∧ o.guard = none ∧ ((∃ v w1, (execOp a.eval o).run P w = .ok (.value v) w1 ∧ wpAnyH P md l.toArray (NoPanic Q) (fun _ => True) f (listed.setIfInBounds j true) (a.put o.dst v) w1) ∨ (∃ F args, (execOp a.eval o).run P w = .ok (.enter F args) w ∧ Calls P F args w fun e w' => ∃ v, e = .returned v ∧ wpAnyH P md l.toArray (NoPanic Q) (fun _ => True) f (listed.setIfInBounds j true) (a.put o.dst v) w'))) :
    wpAnyH P md l.toArray (NoPanic Q) (fun _ => True) (f + 1) listed a w := by
  refine wpAnyH_all rfl hne fun k hk => ?_
  have go : ∀ i, (∃ o, l[i]? = some o ∧ o.guard = none ∧ ((∃ v w1, (execOp a.eval o).run P w = .ok (.value v) w1 ∧ wpAnyH P md l.toArray (NoPanic Q) (fun _ => True) f (listed.setIfInBounds i true) (a.put o.dst v) w1) ∨ (∃ F args, (execOp a.eval o).run P w = .ok (.enter F args) w ∧ Calls P F args w fun e w' => ∃ v, e = .returned v ∧ wpAnyH P md l.toArray (NoPanic Q) (fun _ => True) f (listed.setIfInBounds i true) (a.put o.dst v) w'))) → _ := fun i h => h
  rcases hr k hk with rfl | rfl
  · obtain ⟨o, h1, h2, h3⟩ := hi
    have hi' : l.toArray[k]? = some o := by simpa using h1
    have hw : Region.wanted o (yielded l.toArray a.tmps) = true := by unfold Region.wanted; rw [h2]
    unfold wpOp
    rcases h3 with ⟨v, w1, hv, h⟩ | ⟨F, args, hv, h⟩
    · simp only [hi', hw, if_true, Oper.wp, hv, Oper.upon_value]
      exact .inl ⟨trivial, h⟩
    · simp only [hi', hw, if_true, Oper.wp, hv, Oper.upon]
      refine .inl (h.mono ?_)
      rintro e w' ⟨v, rfl, hR⟩
      exact ⟨trivial, hR⟩
  · obtain ⟨o, h1, h2, h3⟩ := hj
    have hi' : l.toArray[k]? = some o := by simpa using h1
    have hw : Region.wanted o (yielded l.toArray a.tmps) = true := by unfold Region.wanted; rw [h2]
    unfold wpOp
    rcases h3 with ⟨v, w1, hv, h⟩ | ⟨F, args, hv, h⟩
    · simp only [hi', hw, if_true, Oper.wp, hv, Oper.upon_value]
      exact .inl ⟨trivial, h⟩
    · simp only [hi', hw, if_true, Oper.wp, hv, Oper.upon]
      refine .inl (h.mono ?_)
      rintro e w' ⟨v, rfl, hR⟩
      exact ⟨trivial, hR⟩
theorem late {f : Nat} {a : Act} {w0 : World} (i1 i3 i4 d1 d3 d4 : Nat) (n13 : d1 ≠ d3) (n14 : d1 ≠ d4) (o1 o3 o4 : Oper) (L : Bool → Bool → Bool → Array Bool)
    (l1 : l[i1]? = some o1) (l3 : l[i3]? = some o3) (l4 : l[i4]? = some o4) (g1 : o1.guard = none) (g3 : o3.guard = none) (g4 : o4.guard = none) (e1 : o1.dst = some d1) (e3 : o3.dst = some d3) (e4 : o4.dst = some d4)
    (s1 : ∀ y z, (L false y z).setIfInBounds i1 true = L true y z) (s3 : ∀ x, (L x false false).setIfInBounds i3 true = L x true false) (s4 : ∀ x, (L x true false).setIfInBounds i4 true = L x true true)
    (r0 : Region.ready md l.toArray (L false false false) = [i1, i3]) (r1 : Region.ready md l.toArray (L true false false) = [i3]) (r01 : Region.ready md l.toArray (L false true false) = [i1, i4]) (r11 : Region.ready md l.toArray (L true true false) = [i4]) (r02 : Region.ready md l.toArray (L false true true) = [i1])
    (u : Value) (F : FuncId) (args : Array Value) (M : Value → World → Prop) (G : Value → World → Value) (NW : Value → World → World)
    (hl0 : (execOp a.eval o1).run P w0 = .ok (.value u) w0) (hl1 : ∀ v w', M v w' → (execOp (a.put (some d3) v).eval o1).run P w' = .ok (.value u) w') (hl2 : ∀ v w', M v w' → (execOp ((a.put (some d3) v).put (some d4) (G v w')).eval o1).run P (NW v w') = .ok (.value u) (NW v w'))
    (hc0 : (execOp a.eval o3).run P w0 = .ok (.enter F args) w0) (hc1 : (execOp (a.put (some d1) u).eval o3).run P w0 = .ok (.enter F args) w0) (hC : Calls P F args w0 fun e w' => ∃ v, e = .returned v ∧ M v w')
    (hb0 : ∀ v w', M v w' → (execOp (a.put (some d3) v).eval o4).run P w' = .ok (.value (G v w')) (NW v w')) (hb1 : ∀ v w', M v w' → (execOp ((a.put (some d1) u).put (some d3) v).eval o4).run P w' = .ok (.value (G v w')) (NW v w'))
    (h : ∀ v w', M v w' → wpAnyH P md l.toArray (NoPanic Q) (fun _ => True) f (L true true true) (((a.put (some d1) u).put (some d3) v).put (some d4) (G v w')) (NW v w')) :
    wpAnyH P md l.toArray (NoPanic Q) (fun _ => True) (f + 3) (L false false false) a w0 := by
  -- behind load and call
  have k11 : ∀ v w', M v w' → wpAnyH P md l.toArray (NoPanic Q) (fun _ => True) (f + 1) (L true true false) ((a.put (some d1) u).put (some d3) v) w' := fun v w' hM => by
    refine oneT i4 o4 (G v w') l4 g4 r11 (hb1 v w' hM) ?_
    rw [e4, s4]; exact h v w' hM
  have k10 : wpAnyH P md l.toArray (NoPanic Q) (fun _ => True) (f + 2) (L true false false) (a.put (some d1) u) w0 := by
    refine twoT i3 i3 (by rw [r1]; simp) (by rw [r1]; simp) ?_ ?_ <;>
    · refine ⟨o3, l3, g3, .inr ⟨F, args, hc1, hC.mono ?_⟩⟩
      rintro e w' ⟨v, rfl, hM⟩
      refine ⟨v, rfl, ?_⟩
      rw [e3, s3]; exact k11 v w' hM
  have k02 : ∀ v w', M v w' → wpAnyH P md l.toArray (NoPanic Q) (fun _ => True) (f + 1) (L false true true) ((a.put (some d3) v).put (some d4) (G v w')) (NW v w') := fun v w' hM => by
    refine oneT i1 o1 u l1 g1 r02 (hl2 v w' hM) ?_
    rw [e1, s1, put_comm _ d4 d1 _ _ (Ne.symm n14), put_comm _ d3 d1 _ _ (Ne.symm n13)]; exact h v w' hM
  have k01 : ∀ v w', M v w' → wpAnyH P md l.toArray (NoPanic Q) (fun _ => True) (f + 2) (L false true false) (a.put (some d3) v) w' := fun v w' hM => by
    refine twoT i1 i4 (by rw [r01]; simp) (by rw [r01]; simp) ?_ ?_
    · refine ⟨o1, l1, g1, .inl ⟨u, w', hl1 v w' hM, ?_⟩⟩
      rw [e1, s1, put_comm _ d3 d1 _ _ (Ne.symm n13)]; exact k11 v w' hM
    · refine ⟨o4, l4, g4, .inl ⟨_, _, hb0 v w' hM, ?_⟩⟩
      rw [e4, s4]; exact k02 v w' hM
  refine twoT i1 i3 (by rw [r0]; simp) (by rw [r0]; simp) ?_ ?_
  · refine ⟨o1, l1, g1, .inl ⟨u, w0, hl0, ?_⟩⟩
    rw [e1, s1]; exact k10
  · refine ⟨o3, l3, g3, .inr ⟨F, args, hc0, hC.mono ?_⟩⟩
    rintro e w' ⟨v, rfl, hM⟩
    refine ⟨v, rfl, ?_⟩
    rw [e3, s3]; exact k01 v w' hM
end
end Go.Proofs.Ytegeeobfamjjpaa.plan
