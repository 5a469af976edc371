/- Contracts and lemmas that the claims of this seat share: FieldSize, SchemaLong, SchemaFields, SchemaFine, SchemaFirst, TypingMath, TypingKeep, RowOps. Each says its own conditions. -/
import Derived.Test.YtaciegkblklokaaGreatCmB
import Derived.Test.YtaciegkblklokaaGreatCmA
import Derived.Laws.CopyOwn
import Derived.Lib.AppendZerosOnto
import Derived.Lib.AppendZeros
import Derived.Lib.Overlaps
set_option linter.unusedVariables false
namespace Go.Proofs.YtaciegkblklokaaGreat.field
open Go.RowKit
theorem size_any (f : Fd) (w : World) : Calls Tryz.prog 98 #[zF f] w (Gives (.int .i64 (f.size : Int)) w) := by
 have HB := hid (belowF f w)
 have HS := hid (five f w)
 have hsz : f.size = if f.Right then (if f.kind = 4 then 1 + f.most.toNat else wide (f.great - f.lo).toNat) else 0 := rfl
 rw [hsz]
 have cr := gives_from (right_any f (w.alloc (.cells (zF f) 26))) (w0 := (w.alloc (.cells (zF f) 26))) (Below.refl _ _)
 by_cases hr : f.Right
 ·rw [if_pos hr]
  rw [decide_eq_true hr] at cr
  have hk := kinds hr
  have hsp := hr.span
  obtain ⟨T, hT⟩ : ∃ T : Nat, f.great - f.lo = (T : Int) := ⟨(f.great - f.lo).toNat, by omega⟩
  have hTb : T ≤ 2199023255552 := by omega
  have ct := fun (w1 : World) (hb : Below (w.alloc (.cells (zF f) 26)).heap.size (w.alloc (.cells (zF f) 26)) w1) => gives_from (top_any f hr w1) hb
  rw [hT] at ct
  have cl := len_any T (by omega)
  rw [hT]
  have h4 : f.kind = 4 → 0 ≤ f.most ∧ f.most ≤ 32 := by intro h4; unfold Fd.Right at hr; omega
  have h2 : f.kind = 2 → f.great - f.lo = 1 := by intro h2; unfold Fd.Right at hr; unfold Fd.great; rw [h2]; simp; omega
  rw [hT] at h2
  clear hr hsp hsz hT
  obtain ⟨i, k, lo, hi, m⟩ := f
  simp only at hk h4 h2 HB HS cr ct ⊢
  rw [show ((T : Int)).toNat = T from rfl]
  unfold Gives
  have HT := hid hTb
  rcases hk with rfl | rfl | rfl | rfl
  ·clear h4 h2
   rw [if_neg (by decide)]
   clear hTb
   have hu : IntKind.u64.wrap (T : Int) = (T : Int) := by have := HT.out; rw [IntWalk.u64_in _ (by omega)]
   go_enter Tryz.func98, Tryz.ntmps98
   go_wp2_with (first
    | (go_at_call 97; (with_reducible refine cr.mono ?_); rintro e w1 ⟨rfl, hb1⟩; have hk1 := HS.out _ hb1)
    | (go_at_call 110; (with_reducible refine (ct _ hb1).mono ?_); rintro e w2 ⟨rfl, hb2⟩)
    | (go_at_call 109; (with_reducible refine (cl _).mono ?_); rintro e w3 ⟨L, rfl, hL1, hL2, nd, rfl⟩; have HL := hid hL2; clear hL2))
   go_ret
   exact ⟨ret_int (by have := HL.out; omega), HB.out _ (below_drewN hb2 _)⟩
  ·have hT1 : T = 1 := by have := h2 rfl; omega
   subst hT1
   clear h4 h2
   rw [if_neg (by decide), show wide 1 = 1 from rfl]
   go_enter Tryz.func98, Tryz.ntmps98
   go_wp2_with (go_at_call 97; (with_reducible refine cr.mono ?_); rintro e w1 ⟨rfl, hb1⟩; have hk1 := HS.out _ hb1)
   go_ret
   exact ⟨rfl, HB.out _ hb1⟩
  ·clear h4 h2
   rw [if_neg (by decide)]
   clear hTb
   have hu : IntKind.u64.wrap (T : Int) = (T : Int) := by have := HT.out; rw [IntWalk.u64_in _ (by omega)]
   go_enter Tryz.func98, Tryz.ntmps98
   go_wp2_with (first
    | (go_at_call 97; (with_reducible refine cr.mono ?_); rintro e w1 ⟨rfl, hb1⟩; have hk1 := HS.out _ hb1)
    | (go_at_call 110; (with_reducible refine (ct _ hb1).mono ?_); rintro e w2 ⟨rfl, hb2⟩)
    | (go_at_call 109; (with_reducible refine (cl _).mono ?_); rintro e w3 ⟨L, rfl, hL1, hL2, nd, rfl⟩; have HL := hid hL2; clear hL2))
   go_ret
   exact ⟨ret_int (by have := HL.out; omega), HB.out _ (below_drewN hb2 _)⟩
  ·obtain ⟨m1, m2⟩ := h4 rfl
   clear h4 h2
   rw [if_pos rfl]
   obtain ⟨M, rfl⟩ := Int.eq_ofNat_of_zero_le m1
   rw [show ((M : Int)).toNat = M from rfl]
   go_enter Tryz.func98, Tryz.ntmps98
   go_wp2_with (go_at_call 97; (with_reducible refine cr.mono ?_); rintro e w1 ⟨rfl, hb1⟩; have hk1 := HS.out _ hb1)
   go_ret
   exact ⟨ret_int (by omega), HB.out _ hb1⟩
 ·rw [if_neg hr]
  rw [decide_eq_false hr] at cr
  clear hr hsz
  unfold Gives
  go_enter Tryz.func98, Tryz.ntmps98
  go_wp2_with (go_at_call 97; (with_reducible refine cr.mono ?_); rintro e w1 ⟨rfl, hb1⟩; have hk1 := HS.out _ hb1)
  go_ret
  exact ⟨rfl, HB.out _ hb1⟩
end Go.Proofs.YtaciegkblklokaaGreat.field
namespace Go.Proofs.YtaciegkblklokaaGreat.schema
open Go.RowKit
open Go.Proofs.YtaciegkblklokaaGreat.field (Gives newB gives_from size_any)
theorem own_low {w : World} {B B' e size n : Nat} {v : Value} {xs : List Value} (h : w.ownsRow B e size v n xs) (hB : B' ≤ B) : w.ownsRow B' e size v n xs := by
 refine ⟨h.1, ?_⟩
 rcases h.2 with h0 | ⟨g, cap, cur, hv, hb, hg⟩
 ·exact .inl h0
 ·exact .inr ⟨g, cap, cur, hv, Nat.le_trans hB hb, hg⟩
theorem below_out {w w' : World} {d : Obj} (hb : Below (w.alloc d).heap.size (w.alloc d) w') : Below w.heap.size w w' := ((Below.refl _ _).alloc (Nat.le_refl _) _).trans (hb.mono (by simp))
theorem field_at {w w' : World} {a : Option Addr} {L : List field.Fd} (h : field.Fds w a L) (hb : Below w.heap.size w w') {k : Nat} (hk : k < L.length) :
  ∃ b off p, a = some ⟨b, off, none⟩ ∧ b < w'.heap.size ∧ L[k]? = some p ∧ w'.cell? ⟨b, off + k * 5, none⟩ = some (.int .i64 p.id) ∧ w'.cell? ⟨b, off + k * 5 + 1, none⟩ = some (.int .i64 p.kind) ∧ w'.cell? ⟨b, off + k * 5 + 2, none⟩ = some (.int .i64 p.lo) ∧ w'.cell? ⟨b, off + k * 5 + 3, none⟩ = some (.int .i64 p.hi) ∧ w'.cell? ⟨b, off + k * 5 + 4, none⟩ = some (.int .i64 p.most) := (h.below hb).at hk
theorem long_any (i : Int) (a : Option Addr) (cap : Nat) (L : List field.Fd) (w : World) (h : field.Fds w a L) (hL : L.length ≤ 40) :
  Calls Tryz.prog 80 #[zS i a L.length cap] w (Gives (.int .i64 (size L : Int)) w) := by
 have HO := hid (fun (w' : World) hb => below_out (w := w) (d := .cells (zS i a L.length cap) 58) (w' := w') hb)
 have HF := hid (h.below (newB w (.cells (zS i a L.length cap) 58)))
 obtain ⟨S, hS⟩ : ∃ S : Nat, Hid (size L = S) := ⟨_, rfl⟩
 rw [hS.out]
 unfold Gives
 clear h
 go_enter Tryz.func80, Tryz.ntmps80
 go_wp2
 go_loopw [3, 9] (fun s n wr => ∃ k : Nat, k ≤ L.length ∧ s = .int .i64 (size (L.take k) : Int) ∧ n = .int .i64 (k : Int) ∧ Hid (Below (w.alloc (.cells (zS i a L.length cap) 58)).heap.size (w.alloc (.cells (zS i a L.length cap) 58)) wr)) (fun _ n _ => L.length - (intOf n).toNat)
 case atStart => exact ⟨0, Nat.zero_le _, rfl, rfl, hid (Below.refl _ _)⟩
 case round =>
  obtain ⟨k, hk, rfl, rfl, HB⟩ := hrel
  by_cases hlt : k < L.length
  ·obtain ⟨b, off, p, rfl, hbl, hp, c0, c1, c2, c3, c4⟩ := field_at HF.out HB.out hlt
   have i1 : (k : Int) < L.length := by omega
   have HP := hid hp
   have HSZ := hid (size_succ hp)
   have hst := size_take L k
   have hst2 := field.wide_le
   have cs := fun w' => size_any p w'
   have hps := fd_size_le p
   clear hp hst2
   generalize size (L.take k) = s at *
   go_wp2_with (go_at_call 98; ((with_reducible refine (cs _).mono ?_); rintro e w2 ⟨rfl, hb2⟩))
   exact ⟨⟨k + 1, by omega, by rw [HSZ.out]; go_num, by go_num, hid (HB.out.trans ((below_out hb2).mono HB.out.size))⟩, by simp [intOf]; omega⟩
  ·obtain rfl : k = L.length := by omega
   go_wp2
   go_ret
   exact ⟨ret_int (by rw [← hS.out, List.take_of_length_le (Nat.le_refl _)]), HO.out _ HB.out⟩
end Go.Proofs.YtaciegkblklokaaGreat.schema
namespace Go.Proofs.YtaciegkblklokaaGreat.schema
open Go.RowKit
open Go.Proofs.YtaciegkblklokaaGreat.field (Gives newB gives_from right_any)
theorem within_any (n lo hi : Int) (w : World) : Calls Tryz.prog 56 #[.int .i64 n, .int .i64 lo, .int .i64 hi] w (Gives (.bool (decide (lo ≤ n ∧ n ≤ hi))) w) := by
 obtain ⟨v, hv⟩ : ∃ v : Bool, Hid (decide (lo ≤ n ∧ n ≤ hi) = v) := ⟨_, rfl⟩
 rw [hv.out]
 unfold Gives
 by_cases h1 : lo ≤ n
 ·by_cases h2 : n ≤ hi
  ·obtain rfl : true = v := by rw [← hv.out]; simp [h1, h2]
   go_enter Tryz.func56, Tryz.ntmps56
   go_wp2
   go_ret
   exact ⟨rfl, Below.refl _ _⟩
  ·obtain rfl : false = v := by rw [← hv.out]; simp [h1, h2]
   have hd : decide (n ≤ hi) = false := decide_eq_false h2
   go_enter Tryz.func56, Tryz.ntmps56
   go_wp2
   go_ret
   exact ⟨rfl, Below.refl _ _⟩
 ·obtain rfl : false = v := by rw [← hv.out]; simp [h1]
  have hd : decide (lo ≤ n) = false := decide_eq_false h1
  go_enter Tryz.func56, Tryz.ntmps56
  go_wp2
  go_ret
  exact ⟨rfl, Below.refl _ _⟩
def seenV (l : List Int) : List Value := (List.range 256).map fun j : Nat => Value.bool (decide ((j : Int) ∈ l))
theorem seenV_at (l : List Int) (n : Nat) (h : n < 256) : (seenV l)[n]? = some (.bool (decide ((n : Int) ∈ l))) := by simp [seenV, h]
theorem seenV_set (l : List Int) (n : Nat) (h : n < 256) : (seenV l).set n (.bool true) = seenV (l ++ [(n : Int)]) := by
 apply List.ext_getElem?
 intro i
 rw [List.getElem?_set]
 by_cases hi : i < 256
 ·rw [seenV_at _ i hi, seenV_at _ i hi]
  by_cases hn : n = i
  ·subst hn; simp [seenV, h]
  ·rw [if_neg hn]
   simp; omega
 ·simp [seenV]
  simp [hi]
  omega
theorem seenV_zero : Tryz.zeroCells127 = (seenV []).toArray := by kernel_rfl
theorem fineFields_any (a : Option Addr) (cap : Nat) (L : List field.Fd) (w : World) (h : field.Fds w a L) (hL : L.length ≤ maxLen) :
  Calls Tryz.prog 79 #[.slice a L.length cap] w (Gives (.bool (decide (FineF L))) w) := by
 have hml : (L.length : Int) ≤ 9223372036854775807 := by unfold maxLen at hL; omega
 obtain ⟨v, hv⟩ : ∃ v : Bool, Hid (decide (FineF L) = v) := ⟨_, rfl⟩
 rw [hv.out]
 unfold Gives
 have HF := hid h
 have HZ : Hid (Block (w.alloc (.cells Tryz.zeroCells127 127)) w.heap.size 127 (seenV [])) := by rw [seenV_zero]; exact hid (Block.new w 127 (seenV []))
 have HN := hid (newB w (.cells Tryz.zeroCells127 127))
 clear h hL
 go_enter Tryz.func79, Tryz.ntmps79
 go_wp2
 generalize w.alloc (.cells Tryz.zeroCells127 127) = w1 at *
 obtain ⟨B, hB⟩ : ∃ B : Nat, Hid (w.heap.size = B) := ⟨_, rfl⟩
 rw [hB.out] at HZ ⊢
 go_loopw [8] (fun n wr => ∃ k : Nat, k ≤ L.length ∧ n = .int .i64 (k : Int) ∧ Hid (FineF (L.take k)) ∧ Hid (Block wr B 127 (seenV (ids (L.take k)))) ∧ Hid (Below w.heap.size w wr)) (fun n _ => L.length - (intOf n).toNat)
 case atStart => exact ⟨0, Nat.zero_le _, rfl, hid FineF.nil, HZ, HN⟩
 case round =>
  obtain ⟨k, hk, rfl, HOK, HBl, HB⟩ := hrel
  by_cases hlt : k < L.length
  ·obtain ⟨b, off, p, rfl, hbl, hp, c0, c1, c2, c3, c4⟩ := field_at HF.out HB.out hlt
   have i1 : (k : Int) < L.length := by omega
   have HP := hid hp
   have HNO := hid (fineF_no hp)
   have HSUC := hid (fineF_succ hp)
   have HIDS : Hid (ids (L.take (k + 1)) = ids (L.take k) ++ [p.id]) := hid (by rw [take_succ_at hp]; simp [ids])
   have cs := fun w' => right_any p w'
   clear hp
   generalize hI : ids (L.take k) = I at *
   clear hI
   by_cases hr : p.Right
   ·obtain ⟨n, hn⟩ := Int.eq_ofNat_of_zero_le hr.1.1
    have hn2 : n ≤ 255 := by have := hr.1.2; omega
    rw [decide_eq_true hr] at cs
    have HR := hid hr
    clear hr
    obtain ⟨q, qk, ql, qh, qm⟩ := p
    simp only at hn HNO HSUC HIDS HR c0 c1 c2 c3 c4 cs
    subst hn
    have hsd := seenV_at I n (by omega)
    by_cases hm : (n : Int) ∈ I
    ·rw [decide_eq_true hm] at hsd
     obtain rfl : false = v := by rw [← hv.out]; exact (decide_eq_false (HNO.out (fun h => h.2 hm))).symm
     clear hm
     have H5 := hid (field.five ⟨n, qk, ql, qh, qm⟩ wr)
     go_wp2_with (go_at_call 97; ((with_reducible refine (cs _).mono ?_); rintro e w2 ⟨rfl, hb2⟩; have hc := ((HBl.out.alloc _).later hb2).cell n; rw [hsd] at hc; have z0 := (H5.out w2 hb2).1))
     go_ret
     exact ⟨rfl, HB.out.trans ((below_out hb2).mono HB.out.size)⟩
    ·rw [decide_eq_false hm] at hsd
     have HM := hid hm
     clear hm
     have H5 := hid (field.five ⟨n, qk, ql, qh, qm⟩ wr)
     have HLT := hid (show w.heap.size ≤ B by rw [hB.out]; exact Nat.le_refl _)
     go_wp2_with (go_at_call 97; ((with_reducible refine (cs _).mono ?_); rintro e w2 ⟨rfl, hb2⟩; have hblk := (HBl.out.alloc _).later hb2; have hc := hblk.cell n; rw [hsd] at hc; have z0 := (H5.out w2 hb2).1; have hfz := hblk.frozen n; have HBK := hid hblk; clear hblk))
     refine ⟨⟨k + 1, by omega, by go_num, hid (HSUC.out.2 ⟨HOK.out, HR.out, HM.out⟩), hid ?_, hid ?_⟩, by simp [intOf]; omega⟩
     ·have := HBK.out.setCell n (.bool true)
      rw [seenV_set _ _ (by omega)] at this
      rw [HIDS.out]; exact this
     ·exact below_setCells (HB.out.trans ((below_out hb2).mono HB.out.size)) HLT.out n [.bool true]
   ·obtain rfl : false = v := by rw [← hv.out]; exact (decide_eq_false (HNO.out (fun h => hr h.1))).symm
    rw [decide_eq_false hr] at cs
    clear hr
    go_wp2_with (go_at_call 97; ((with_reducible refine (cs _).mono ?_); rintro e w2 ⟨rfl, hb2⟩))
    go_ret
    exact ⟨rfl, HB.out.trans ((below_out hb2).mono HB.out.size)⟩
  ·obtain rfl : k = L.length := by omega
   obtain rfl : true = v := by rw [← hv.out]; have := HOK.out; rw [List.take_of_length_le (Nat.le_refl _)] at this; exact (decide_eq_true this).symm
   go_wp2
   go_ret
   exact ⟨rfl, HB.out⟩
end Go.Proofs.YtaciegkblklokaaGreat.schema
namespace Go.Proofs.YtaciegkblklokaaGreat.schema
open Go.RowKit
open Go.Proofs.YtaciegkblklokaaGreat.field (Gives newB gives_from)
theorem boxM (i : Int) (a : Option Addr) (L : List field.Fd) (cap : Nat) (w w' : World) (hb : Below (w.alloc (.cells (zS i a L.length cap) 58)).heap.size (w.alloc (.cells (zS i a L.length cap) 58)) w') : w'.cell? ⟨w.heap.size, 0, none⟩ = some (.int .i64 i) ∧ w'.cell? ⟨w.heap.size, 1, none⟩ = some (.slice a L.length cap) ∧ Below w.heap.size w w' := by
 have hB := (Block.new w 58 (zS i a L.length cap)).later hb
 exact ⟨hB.cell 0, hB.cell 1, below_out hb⟩
abbrev From (F : FuncId) (args : Array Value) (v : Value) (w0 : World) : Prop := ∀ w', Below w0.heap.size w0 w' → Calls Tryz.prog F args w' fun e w2 => e = .returned v ∧ Below w0.heap.size w0 w2
theorem from_all {F : FuncId} {args : Array Value} {v : Value} (w0 : World) (h : ∀ w', Calls Tryz.prog F args w' (Gives v w')) : From F args v w0 := fun w' hb => gives_from (h w') hb
theorem from_fields {F : FuncId} {args : Array Value} {v : Value} {a : Option Addr} {L : List field.Fd} {w0 : World} (hf : field.Fds w0 a L) (h : ∀ w', field.Fds w' a L → Calls Tryz.prog F args w' (Gives v w')) : From F args v w0 := fun w' hb => gives_from (h w' (hf.below hb)) hb
theorem within_from (n lo hi : Int) (w0 : World) (v : Bool) (h : decide (lo ≤ n ∧ n ≤ hi) = v) : From 56 #[.int .i64 n, .int .i64 lo, .int .i64 hi] (.bool v) w0 := from_all w0 (fun w' => h ▸ within_any n lo hi w')
theorem fine_any (i : Int) (a : Option Addr) (cap : Nat) (L : List field.Fd) (w : World) (h : field.Fds w a L) (hL : L.length ≤ maxLen) :
  Calls Tryz.prog 57 #[zS i a L.length cap] w (Gives (.bool (decide (Fine (i, L)))) w) := by
 have HX := hid (boxM i a L cap w)
 have HF := h.below (newB w (.cells (zS i a L.length cap) 58))
 obtain ⟨v, hv⟩ : ∃ v : Bool, Hid (decide (Fine (i, L)) = v) := ⟨_, rfl⟩
 rw [hv.out]
 unfold Gives
 have cA := fun v h => within_from i 0 200 (w.alloc (.cells (zS i a L.length cap) 58)) v h
 have cB := fun v h => within_from (L.length : Int) 1 8 (w.alloc (.cells (zS i a L.length cap) 58)) v h
 have cC := from_fields HF (fun w' h' => fineFields_any a cap L w' h' hL)
 clear h
 by_cases h1 : 0 ≤ i ∧ i ≤ 200
 ·replace cA := cA true (decide_eq_true h1)
  by_cases h2 : 1 ≤ L.length ∧ L.length ≤ 8
  ·replace cB := cB true (decide_eq_true (by omega))
   have cD := from_fields HF (fun w' h' => long_any i a cap L w' h' (by omega))
   by_cases h3 : FineF L
   ·rw [decide_eq_true h3] at cC
    have hsz := size_le L
    by_cases h4 : size L ≤ 64
    ·obtain rfl : true = v := by rw [← hv.out]; exact (decide_eq_true ⟨h1, h2, h3, h4⟩).symm
     have hd : decide ((size L : Int) ≤ 64) = true := decide_eq_true (by omega)
     clear h3 HF
     generalize size L = s at *
     go_enter Tryz.func57, Tryz.ntmps57
     go_wp2_with (first
      | (go_at_call 56; ((with_reducible refine (cA _ (by first | exact Below.refl _ _ | assumption)).mono ?_); rintro e w2 ⟨rfl, hb2⟩; obtain ⟨z0, z1, hbo⟩ := HX.out _ hb2))
      | (go_at_call 56; ((with_reducible refine (cB _ (by first | exact Below.refl _ _ | assumption)).mono ?_); rintro e w2 ⟨rfl, hb2⟩; obtain ⟨z0, z1, hbo⟩ := HX.out _ hb2))
      | (go_at_call 79; ((with_reducible refine (cC _ (by first | exact Below.refl _ _ | assumption)).mono ?_); rintro e w2 ⟨rfl, hb2⟩; obtain ⟨z0, z1, hbo⟩ := HX.out _ hb2))
      | (go_at_call 80; ((with_reducible refine (cD _ (by first | exact Below.refl _ _ | assumption)).mono ?_); rintro e w2 ⟨rfl, hb2⟩; obtain ⟨z0, z1, hbo⟩ := HX.out _ hb2)))
     go_ret
     exact ⟨by first | rfl | exact ret_bool (by assumption), by assumption⟩
    ·obtain rfl : false = v := by rw [← hv.out]; exact (decide_eq_false (fun h => h4 h.2.2.2)).symm
     have hd : decide ((size L : Int) ≤ 64) = false := decide_eq_false (by omega)
     clear h3 HF h4
     generalize size L = s at *
     go_enter Tryz.func57, Tryz.ntmps57
     go_wp2_with (first
      | (go_at_call 56; ((with_reducible refine (cA _ (by first | exact Below.refl _ _ | assumption)).mono ?_); rintro e w2 ⟨rfl, hb2⟩; obtain ⟨z0, z1, hbo⟩ := HX.out _ hb2))
      | (go_at_call 56; ((with_reducible refine (cB _ (by first | exact Below.refl _ _ | assumption)).mono ?_); rintro e w2 ⟨rfl, hb2⟩; obtain ⟨z0, z1, hbo⟩ := HX.out _ hb2))
      | (go_at_call 79; ((with_reducible refine (cC _ (by first | exact Below.refl _ _ | assumption)).mono ?_); rintro e w2 ⟨rfl, hb2⟩; obtain ⟨z0, z1, hbo⟩ := HX.out _ hb2))
      | (go_at_call 80; ((with_reducible refine (cD _ (by first | exact Below.refl _ _ | assumption)).mono ?_); rintro e w2 ⟨rfl, hb2⟩; obtain ⟨z0, z1, hbo⟩ := HX.out _ hb2)))
     go_ret
     exact ⟨by first | rfl | exact ret_bool (by assumption), by assumption⟩
   ·obtain rfl : false = v := by rw [← hv.out]; exact (decide_eq_false (fun h => h3 h.2.2.1)).symm
    rw [decide_eq_false h3] at cC
    clear h3 HF cD
    go_enter Tryz.func57, Tryz.ntmps57
    go_wp2_with (first
     | (go_at_call 56; ((with_reducible refine (cA _ (by first | exact Below.refl _ _ | assumption)).mono ?_); rintro e w2 ⟨rfl, hb2⟩; obtain ⟨z0, z1, hbo⟩ := HX.out _ hb2))
     | (go_at_call 56; ((with_reducible refine (cB _ (by first | exact Below.refl _ _ | assumption)).mono ?_); rintro e w2 ⟨rfl, hb2⟩; obtain ⟨z0, z1, hbo⟩ := HX.out _ hb2))
     | (go_at_call 79; ((with_reducible refine (cC _ (by first | exact Below.refl _ _ | assumption)).mono ?_); rintro e w2 ⟨rfl, hb2⟩; obtain ⟨z0, z1, hbo⟩ := HX.out _ hb2))
     | (go_at_call 80; ((with_reducible refine (cD _ (by first | exact Below.refl _ _ | assumption)).mono ?_); rintro e w2 ⟨rfl, hb2⟩; obtain ⟨z0, z1, hbo⟩ := HX.out _ hb2)))
    go_ret
    exact ⟨by first | rfl | exact ret_bool (by assumption), by assumption⟩
  ·obtain rfl : false = v := by rw [← hv.out]; exact (decide_eq_false (fun h => h2 h.2.1)).symm
   replace cB := cB false (decide_eq_false (by omega))
   clear HF cC h2
   go_enter Tryz.func57, Tryz.ntmps57
   go_wp2_with (first
    | (go_at_call 56; ((with_reducible refine (cA _ (by first | exact Below.refl _ _ | assumption)).mono ?_); rintro e w2 ⟨rfl, hb2⟩; obtain ⟨z0, z1, hbo⟩ := HX.out _ hb2))
    | (go_at_call 56; ((with_reducible refine (cB _ (by first | exact Below.refl _ _ | assumption)).mono ?_); rintro e w2 ⟨rfl, hb2⟩; obtain ⟨z0, z1, hbo⟩ := HX.out _ hb2))
    | (go_at_call 79; ((with_reducible refine (cC _ (by first | exact Below.refl _ _ | assumption)).mono ?_); rintro e w2 ⟨rfl, hb2⟩; obtain ⟨z0, z1, hbo⟩ := HX.out _ hb2))
    | (go_at_call 80; ((with_reducible refine (cD _ (by first | exact Below.refl _ _ | assumption)).mono ?_); rintro e w2 ⟨rfl, hb2⟩; obtain ⟨z0, z1, hbo⟩ := HX.out _ hb2)))
   go_ret
   exact ⟨by first | rfl | exact ret_bool (by assumption), by assumption⟩
 ·obtain rfl : false = v := by rw [← hv.out]; exact (decide_eq_false (fun h => h1 h.1)).symm
  replace cA := cA false (decide_eq_false h1)
  clear HF cC cB h1
  go_enter Tryz.func57, Tryz.ntmps57
  go_wp2_with (first
   | (go_at_call 56; ((with_reducible refine (cA _ (by first | exact Below.refl _ _ | assumption)).mono ?_); rintro e w2 ⟨rfl, hb2⟩; obtain ⟨z0, z1, hbo⟩ := HX.out _ hb2))
   | (go_at_call 56; ((with_reducible refine (cB _ (by first | exact Below.refl _ _ | assumption)).mono ?_); rintro e w2 ⟨rfl, hb2⟩; obtain ⟨z0, z1, hbo⟩ := HX.out _ hb2))
   | (go_at_call 79; ((with_reducible refine (cC _ (by first | exact Below.refl _ _ | assumption)).mono ?_); rintro e w2 ⟨rfl, hb2⟩; obtain ⟨z0, z1, hbo⟩ := HX.out _ hb2))
   | (go_at_call 80; ((with_reducible refine (cD _ (by first | exact Below.refl _ _ | assumption)).mono ?_); rintro e w2 ⟨rfl, hb2⟩; obtain ⟨z0, z1, hbo⟩ := HX.out _ hb2)))
  go_ret
  exact ⟨by first | rfl | exact ret_bool (by assumption), by assumption⟩
theorem fm_info2 (x y : Value) : (Tryz.prog.info? 58).map (·.size) = some [x, y].length := by kernel_rfl
end Go.Proofs.YtaciegkblklokaaGreat.schema
namespace Go.Proofs.YtaciegkblklokaaGreat.schema
open Go.RowKit
open Go.Proofs.YtaciegkblklokaaGreat.field (Gives newB gives_from)
theorem below_drew {B : Nat} {a w : World} (h : Below B a w) : Below B a w.drew := below_drewN h 1
def firstAt (l : List Int) (x : Int) : Int := if x ∈ l then (l.idxOf x : Int) else -1
theorem idxOf_hit : ∀ (l : List Int) (k : Nat) (x : Int), x ∉ l.take k → l[k]? = some x → l.idxOf x = k := by
 intro l
 induction l with
 | nil => intro k x _ h; simp at h
 | cons y l ih =>
  intro k x hn h
  cases k with
  | zero => simp at h; subst h; simp
  | succ k =>
   simp only [List.take_succ_cons, List.mem_cons, not_or] at hn
   have hb : (y == x) = false := beq_eq_false_iff_ne.2 (Ne.symm hn.1)
   rw [List.idxOf_cons, hb, ih k x hn.2 (by simpa using h)]
   rfl
theorem first_hit {l : List Int} {k : Nat} {x : Int} (hn : x ∉ l.take k) (h : l[k]? = some x) : firstAt l x = k := by
 unfold firstAt
 rw [if_pos (List.mem_of_getElem? h), idxOf_hit l k x hn h]
theorem first_none {l : List Int} {x : Int} (hn : x ∉ l) : firstAt l x = -1 := if_neg hn
theorem not_take_succ {l : List Int} {k : Nat} {x y : Int} (hn : x ∉ l.take k) (h : l[k]? = some y) (hy : y ≠ x) : x ∉ l.take (k + 1) := by
 rw [take_succ_at h]; simp [hn]; omega
theorem ids_at {L : List field.Fd} {k : Nat} {p : field.Fd} (h : L[k]? = some p) : (ids L)[k]? = some p.id := by simp [ids, h]
theorem ids_length (L : List field.Fd) : (ids L).length = L.length := List.length_map _
end Go.Proofs.YtaciegkblklokaaGreat.schema
namespace Go.Proofs.YtaciegkblklokaaGreat.typing
open Go.RowKit Go.Proofs.YtaciegkblklokaaGreat.schema Go.Proofs.YtaciegkblklokaaGreat.field Go.Proofs.YtaciegkblklokaaGreat.step
theorem firstAt_nonneg {l : List Int} {x : Int} : 0 ≤ firstAt l x ↔ x ∈ l := by
 unfold firstAt
 split <;> simp_all
theorem firstAt_lt {l : List Int} {x : Int} (h : 0 ≤ firstAt l x) : (firstAt l x).toNat < l.length ∧ l[(firstAt l x).toNat]? = some x := by
 have hm := firstAt_nonneg.1 h
 unfold firstAt
 rw [if_pos hm]
 simp only [Int.toNat_natCast]
 have := List.idxOf_lt_length_of_mem hm
 exact ⟨this, by rw [List.getElem?_eq_getElem this, List.getElem_idxOf]⟩
theorem firstAt_neg1 {l : List Int} {x : Int} (h : x ∉ l) : firstAt l x = -1 := if_neg h
structure Ch where
 (s : Sp) (fi : Int) (L : List field.Fd) (kn : Bool) (at_ : Int) (old : field.Fd)
def found (c : Ch) : Bool := if c.s.op = 9 then true else if c.s.op = 1 ∨ c.s.op = 10 then c.kn else decide (0 ≤ c.at_)
def twice (c : Ch) : Bool := if c.s.op = 9 then c.kn else if c.s.op = 1 then decide (0 ≤ firstAt (ids c.L) c.s.f.id) else if c.s.op = 6 ∨ c.s.op = 8 then decide (0 ≤ firstAt (ids c.L) c.s.tt) else false
def beyond (c : Ch) : Bool := if c.s.op = 1 then decide ((c.L.length : Int) < c.s.pl) else if c.s.op = 7 then decide ((c.L.length : Int) - 1 < c.s.pl) else false
def scA (c : Ch) : Int := c.s.a * c.old.lo + c.s.b
def scB (c : Ch) : Int := c.s.a * c.old.hi + c.s.b
def low (c : Ch) : Int := if scB c < scA c then scB c else scA c
def high (c : Ch) : Int := if scA c < scB c then scB c else scA c
def suits (c : Ch) : Bool :=
 if c.s.op = 2 then decide (c.old.Has c.s.v) else if c.s.op = 3 then decide (c.old.Wider c.s.f) else if c.s.op = 4 then decide (c.old.kind = 1 ∧ -1099511627776 ≤ low c ∧ high c ≤ 1099511627776)
 else if c.s.op = 5 then decide (c.old.kind = 3 ∧ c.old.most = c.s.t.length) else if c.s.op = 6 then decide (c.old.kind = 1 ∧ c.old.lo = 0) else true
def err (c : Ch) : Nat := if found c = false then 8 else if twice c = true then 9 else if beyond c = true then 3 else if suits c = false then 17 else 0
def mn (a b : Int) : Int := if b < a then b else a
def heirs (c : Ch) : List field.Fd :=
 if c.s.op = 2 then [] else if c.s.op = 3 then [c.s.f] else if c.s.op = 4 then [{ c.old with lo := low c, hi := high c }] else if c.s.op = 5 then [{ c.old with most := c.s.a }]
 else if c.s.op = 6 then [{ c.old with hi := Int.tdiv c.old.hi c.s.a }, ⟨c.s.tt, 1, 0, mn (c.s.a - 1) c.old.hi, 0⟩] else if c.s.op = 8 then [{ c.old with id := c.s.tt }] else [c.old]
def cutL (L : List field.Fd) (k : Nat) : List field.Fd := L.take k ++ L.drop (k + 1)
def putL (L : List field.Fd) (k : Nat) (f : field.Fd) : List field.Fd := L.take k ++ ([f] ++ L.drop k)
def fields (c : Ch) : List field.Fd :=
 if c.s.op = 1 then putL c.L c.s.pl.toNat c.s.f else if c.s.op = 7 then putL (cutL c.L c.at_.toNat) c.s.pl.toNat c.old
 else c.L.take c.at_.toNat ++ (heirs c ++ c.L.drop (c.at_.toNat + 1))
def pos : List schema.Form → Int → Nat
 | [], _ => 0
 | p :: r, x => if p.1 < x then pos r x + 1 else 0
def setF (F : List schema.Form) (i : Nat) (l : List field.Fd) : List schema.Form := match F[i]? with
 | some p => F.set i (p.1, l)
 | none => F
def applied (F : List schema.Form) (c : Ch) : List schema.Form :=
 if c.s.op = 9 then F.take (pos F c.s.fm) ++ ([(c.s.fm, c.s.l)] ++ F.drop (pos F c.s.fm)) else if c.s.op = 10 then F.take (pos F c.s.fm) ++ F.drop (pos F c.s.fm + 1) else setF F (pos F c.s.fm) (fields c)
def oldAt (L : List field.Fd) (k : Int) : field.Fd := if 0 ≤ k then L.getD k.toNat fd0 else fd0
def named (F : List schema.Form) (x : Int) : Option schema.Form := F.find? (fun p => p.1 == x)
def begin_ (F : List schema.Form) (s : Sp) : Ch := match named F s.fm with
 | some p => ⟨s, s.fm, p.2, true, firstAt (ids p.2) s.fd, oldAt p.2 (firstAt (ids p.2) s.fd)⟩
 | none => ⟨s, 0, [], false, -1, fd0⟩
def Fit (v : Int) (F : List schema.Form) (s : Sp) : Prop := Right v F ∧ s.Right ∧ s.op ≤ 10
instance (v : Int) (F : List schema.Form) (s : Sp) : Decidable (Fit v F s) := by unfold Fit; infer_instance
def on (v : Int) (F : List schema.Form) (s : Sp) : Int × List schema.Form × Nat :=
 if Fit v F s then (if err (begin_ F s) = 0 then (if Right v (applied F (begin_ F s)) then (v, applied F (begin_ F s), 0) else (0, [], 7)) else (0, [], err (begin_ F s))) else (0, [], 2)
def all : Nat → Int → List schema.Form → List Sp → Int × List schema.Form × Nat × Nat
 | _, v, F, [] => (v, F, 0, 0)
 | k, v, F, s :: r => if (on v F s).2.2 = 0 then all (k + 1) (on v F s).1 (on v F s).2.1 r else (0, [], k, (on v F s).2.2)
def Sorted (F : List schema.Form) : Prop := (F.map (·.1)).Pairwise (· < ·)
theorem Sorted.tail {p : schema.Form} {r : List schema.Form} (h : Sorted (p :: r)) : Sorted r := (List.pairwise_cons.1 h).2
theorem Sorted.head {p : schema.Form} {r : List schema.Form} (h : Sorted (p :: r)) : ∀ q ∈ r, p.1 < q.1 := fun q hq => (List.pairwise_cons.1 h).1 q.1 (List.mem_map_of_mem hq)
theorem right_sorted {v : Int} {F : List schema.Form} (h : Right v F) : Sorted F := h.2.2.2
theorem pos_le (F : List schema.Form) (x : Int) : pos F x ≤ F.length := by
 induction F with
 | nil => simp [pos]
 | cons p r ih => unfold pos; split <;> simp <;> omega
theorem pos_eq {F : List schema.Form} {x : Int} {i : Nat} (hs : Sorted F) (hi : i ≤ F.length) (h1 : ∀ p ∈ F.take i, p.1 < x) (h2 : ∀ p ∈ F.drop i, ¬ p.1 < x) : pos F x = i := by
 induction F generalizing i with
 | nil => simp at hi; simp [pos, hi]
 | cons p r ih =>
  unfold pos
  cases i with
  | zero => rw [if_neg (h2 p (by simp))]
  | succ i =>
   rw [if_pos (h1 p (by simp)), ih hs.tail (by simpa using hi) (fun q hq => h1 q (by simp [hq])) (fun q hq => h2 q (by simpa using hq))]
theorem pos_at {F : List schema.Form} {p : schema.Form} (hs : Sorted F) (hp : p ∈ F) : F[pos F p.1]? = some p := by
 induction F with
 | nil => simp at hp
 | cons q r ih =>
  unfold pos
  rcases List.mem_cons.1 hp with rfl | h
  ·simp
  ·rw [if_pos (hs.head p h)]
   simpa using ih hs.tail h
theorem named_some {F : List schema.Form} {x : Int} {p : schema.Form} (h : named F x = some p) : p ∈ F ∧ p.1 = x := ⟨List.mem_of_find?_eq_some h, by have := List.find?_some h; simpa using this⟩
theorem named_none {F : List schema.Form} {x : Int} (h : named F x = none) : x ∉ F.map (·.1) := by
 intro hm
 obtain ⟨p, hp, rfl⟩ := List.mem_map.1 hm
 have := List.find?_eq_none.1 h p hp
 simp at this
theorem setF_at {F : List schema.Form} {x : Int} {p : schema.Form} (hs : Sorted F) (h : named F x = some p) (l : List field.Fd) : setF F (pos F x) l = F.set (pos F x) (x, l) := by
 obtain ⟨h1, h2⟩ := named_some h
 have := pos_at hs h1
 rw [h2] at this
 unfold setF
 rw [this]
 simp [h2]
def go (x : Int) (l : List field.Fd) : List schema.Form → Bool → List schema.Form
 | [], d => if d then [] else [(x, l)]
 | p :: r, d => (if d = false ∧ x ≤ p.1 then [(x, l)] else []) ++ ((if p.1 = x then [] else [p]) ++ go x l r (d || decide (x ≤ p.1)))
def formsR (F : List schema.Form) (x : Int) (l : List field.Fd) : List schema.Form := go x l F (decide (l = []))
theorem go_true (x : Int) (l : List field.Fd) (F : List schema.Form) : go x l F true = F.filter (fun p => decide (p.1 ≠ x)) := by
 induction F with
 | nil => rfl
 | cons p r ih =>
  unfold go
  simp only [Bool.true_eq_false, false_and, if_false, List.nil_append, Bool.true_or, ih, List.filter_cons]
  by_cases h : p.1 = x <;> simp [h]
theorem filter_all {F : List schema.Form} {x : Int} (h : ∀ p ∈ F, p.1 ≠ x) : F.filter (fun p => decide (p.1 ≠ x)) = F := List.filter_eq_self.2 (fun p hp => by simpa using h p hp)
theorem go_set {F : List schema.Form} {p : schema.Form} (hs : Sorted F) (hp : p ∈ F) (l : List field.Fd) : go p.1 l F false = F.set (pos F p.1) (p.1, l) := by
 induction F with
 | nil => simp at hp
 | cons q r ih =>
  unfold go pos
  rcases List.mem_cons.1 hp with rfl | h
  ·have : ∀ t ∈ r, t.1 ≠ p.1 := fun t ht => by have := hs.head t ht; omega
   simp [go_true]
   exact fun a b hm => this _ hm
  ·have h1 := hs.head p h
   have h2 : ¬ p.1 ≤ q.1 := by omega
   have h3 : ¬ q.1 = p.1 := by omega
   simp [h1, h2, h3, ih hs.tail h]
theorem go_put {F : List schema.Form} {x : Int} (hs : Sorted F) (hx : x ∉ F.map (·.1)) (l : List field.Fd) : go x l F false = F.take (pos F x) ++ ([(x, l)] ++ F.drop (pos F x)) := by
 induction F with
 | nil => simp [go, pos]
 | cons q r ih =>
  simp only [List.map_cons, List.mem_cons, not_or] at hx
  unfold go pos
  by_cases h : q.1 < x
  ·have h2 : ¬ x ≤ q.1 := by omega
   have h3 : ¬ q.1 = x := by omega
   simp [h, h2, h3, ih hs.tail hx.2]
  ·have h2 : x ≤ q.1 := by omega
   have h3 : ¬ q.1 = x := fun e => hx.1 e.symm
   have : ∀ t ∈ r, t.1 ≠ x := fun t ht e => hx.2 (e ▸ List.mem_map_of_mem ht)
   simp [h, h2, h3, go_true]
   exact fun a b hm => this _ hm
theorem go_cut {F : List schema.Form} {p : schema.Form} (hs : Sorted F) (hp : p ∈ F) (l : List field.Fd) : go p.1 l F true = F.take (pos F p.1) ++ F.drop (pos F p.1 + 1) := by
 rw [go_true]
 induction F with
 | nil => simp at hp
 | cons q r ih =>
  unfold pos
  rcases List.mem_cons.1 hp with rfl | h
  ·have : ∀ t ∈ r, t.1 ≠ p.1 := fun t ht => by have := hs.head t ht; omega
   rw [List.filter_cons]
   simp only [ne_eq, not_true_eq_false, decide_false, Bool.false_eq_true, if_false, Int.lt_irrefl, List.take_zero, List.nil_append, List.drop_succ_cons, List.drop_zero]
   exact filter_all this
  ·have h1 := hs.head p h
   have h3 : ¬ q.1 = p.1 := by omega
   rw [List.filter_cons]
   simp only [ne_eq, h3, not_false_eq_true, decide_true, if_true, h1, List.take_succ_cons, List.cons_append, List.drop_succ_cons]
   have := ih hs.tail h
   simp only [ne_eq] at this
   rw [this]
def nf (op : Int) : Bool := decide (op ≠ 1 ∧ op ≠ 9 ∧ op ≠ 10)
def names (F : List schema.Form) (s : Sp) : Nat :=
 if s.op = 9 then (if (named F s.fm).isSome then 9 else 0) else match named F s.fm with
  | none => 8
  | some p => if nf s.op = true ∧ firstAt (ids p.2) s.fd < 0 then 8 else if (s.op = 1 ∧ 0 ≤ firstAt (ids p.2) s.f.id) ∨ ((s.op = 6 ∨ s.op = 8) ∧ 0 ≤ firstAt (ids p.2) s.tt) then 9
    else if (s.op = 1 ∧ (p.2.length : Int) < s.pl) ∨ (s.op = 7 ∧ (p.2.length : Int) ≤ s.pl) then 3 else 0
def types (f : field.Fd) (s : Sp) : List field.Fd × Bool :=
 if s.op = 2 then ([], decide (f.Has s.v)) else if s.op = 3 then ([s.f], decide (f.Wider s.f))
 else if s.op = 4 then ([⟨f.id, 1, low ⟨s, 0, [], false, 0, f⟩, high ⟨s, 0, [], false, 0, f⟩, 0⟩], decide (f.kind = 1 ∧ field.Fd.Right ⟨f.id, 1, low ⟨s, 0, [], false, 0, f⟩, high ⟨s, 0, [], false, 0, f⟩, 0⟩))
 else if s.op = 5 then ([⟨f.id, 3, 0, 0, s.a⟩], decide (f.kind = 3 ∧ f.most = s.t.length))
 else if s.op = 6 then ([⟨f.id, 1, 0, Int.tdiv f.hi s.a, 0⟩, ⟨s.tt, 1, 0, mn f.hi (s.a - 1), 0⟩], decide (f.kind = 1 ∧ f.lo = 0))
 else if s.op = 8 then ([{ f with id := s.tt }], true) else ([f], true)
def puts (L : List field.Fd) (k : Nat) : List field.Fd → List field.Fd
 | [] => L
 | f :: r => puts (putL L k f) (k + 1) r
end Go.Proofs.YtaciegkblklokaaGreat.typing
namespace Go.Proofs.YtaciegkblklokaaGreat
structure zH_ (h : typing.Ch) (a : Option Addr) (c : Nat) (d : Option Addr) (e : Nat) (f : Option Addr) (g : Nat) where
def zH (h : typing.Ch) (a : Option Addr) (c : Nat) (d : Option Addr) (e : Nat) (f : Option Addr) (g : Nat) : zH_ h a c d e f g := ⟨⟩
instance (h : typing.Ch) (a : Option Addr) (c : Nat) (d : Option Addr) (e : Nat) (f : Option Addr) (g : Nat) (m : zH_ h a c d e f g) : CoeDep (zH_ h a c d e f g) m (List Value) := ⟨[.int .i64 h.s.op, .int .i64 h.s.fm, .int .i64 h.s.fd, .int .i64 h.s.pl, .int .i64 h.s.tt, .int .i64 h.s.a, .int .i64 h.s.b, .int .i64 h.s.f.id, .int .i64 h.s.f.kind, .int .i64 h.s.f.lo, .int .i64 h.s.f.hi, .int .i64 h.s.f.most, .int .i64 h.s.v.n, .string h.s.v.s, .slice a h.s.t.length c, .slice d h.s.l.length e, .int .i64 h.fi, .slice f h.L.length g, .bool h.kn, .int .i64 h.at_, .int .i64 h.old.id, .int .i64 h.old.kind, .int .i64 h.old.lo, .int .i64 h.old.hi, .int .i64 h.old.most]⟩
instance (h : typing.Ch) (a : Option Addr) (c : Nat) (d : Option Addr) (e : Nat) (f : Option Addr) (g : Nat) (m : zH_ h a c d e f g) : CoeDep (zH_ h a c d e f g) m (Array Value) := ⟨#[.int .i64 h.s.op, .int .i64 h.s.fm, .int .i64 h.s.fd, .int .i64 h.s.pl, .int .i64 h.s.tt, .int .i64 h.s.a, .int .i64 h.s.b, .int .i64 h.s.f.id, .int .i64 h.s.f.kind, .int .i64 h.s.f.lo, .int .i64 h.s.f.hi, .int .i64 h.s.f.most, .int .i64 h.s.v.n, .string h.s.v.s, .slice a h.s.t.length c, .slice d h.s.l.length e, .int .i64 h.fi, .slice f h.L.length g, .bool h.kn, .int .i64 h.at_, .int .i64 h.old.id, .int .i64 h.old.kind, .int .i64 h.old.lo, .int .i64 h.old.hi, .int .i64 h.old.most]⟩
instance (h : typing.Ch) (a : Option Addr) (c : Nat) (d : Option Addr) (e : Nat) (f : Option Addr) (g : Nat) (m : zH_ h a c d e f g) : CoeDep (zH_ h a c d e f g) m Value := ⟨.agg #[.int .i64 h.s.op, .int .i64 h.s.fm, .int .i64 h.s.fd, .int .i64 h.s.pl, .int .i64 h.s.tt, .int .i64 h.s.a, .int .i64 h.s.b, .int .i64 h.s.f.id, .int .i64 h.s.f.kind, .int .i64 h.s.f.lo, .int .i64 h.s.f.hi, .int .i64 h.s.f.most, .int .i64 h.s.v.n, .string h.s.v.s, .slice a h.s.t.length c, .slice d h.s.l.length e, .int .i64 h.fi, .slice f h.L.length g, .bool h.kn, .int .i64 h.at_, .int .i64 h.old.id, .int .i64 h.old.kind, .int .i64 h.old.lo, .int .i64 h.old.hi, .int .i64 h.old.most]⟩
end Go.Proofs.YtaciegkblklokaaGreat
namespace Go.Proofs.YtaciegkblklokaaGreat
structure zG_ (h : typing.Ch) (a : Option Addr) (c : Nat) (d : Option Addr) (e : Nat) where
def zG (h : typing.Ch) (a : Option Addr) (c : Nat) (d : Option Addr) (e : Nat) : zG_ h a c d e := ⟨⟩
instance (h : typing.Ch) (a : Option Addr) (c : Nat) (d : Option Addr) (e : Nat) (m : zG_ h a c d e) : CoeDep (zG_ h a c d e) m (List Value) := ⟨[.int .i64 h.s.op, .int .i64 h.s.fm, .int .i64 h.s.fd, .int .i64 h.s.pl, .int .i64 h.s.tt, .int .i64 h.s.a, .int .i64 h.s.b, .int .i64 h.s.f.id, .int .i64 h.s.f.kind, .int .i64 h.s.f.lo, .int .i64 h.s.f.hi, .int .i64 h.s.f.most, .int .i64 h.s.v.n, .string h.s.v.s, .slice a h.s.t.length c, .slice d h.s.l.length e, .int .i64 0, .slice none 0 0, .bool false, .int .i64 0, .int .i64 0, .int .i64 0, .int .i64 0, .int .i64 0, .int .i64 0]⟩
instance (h : typing.Ch) (a : Option Addr) (c : Nat) (d : Option Addr) (e : Nat) (m : zG_ h a c d e) : CoeDep (zG_ h a c d e) m (Array Value) := ⟨#[.int .i64 h.s.op, .int .i64 h.s.fm, .int .i64 h.s.fd, .int .i64 h.s.pl, .int .i64 h.s.tt, .int .i64 h.s.a, .int .i64 h.s.b, .int .i64 h.s.f.id, .int .i64 h.s.f.kind, .int .i64 h.s.f.lo, .int .i64 h.s.f.hi, .int .i64 h.s.f.most, .int .i64 h.s.v.n, .string h.s.v.s, .slice a h.s.t.length c, .slice d h.s.l.length e, .int .i64 0, .slice none 0 0, .bool false, .int .i64 0, .int .i64 0, .int .i64 0, .int .i64 0, .int .i64 0, .int .i64 0]⟩
instance (h : typing.Ch) (a : Option Addr) (c : Nat) (d : Option Addr) (e : Nat) (m : zG_ h a c d e) : CoeDep (zG_ h a c d e) m Value := ⟨.agg #[.int .i64 h.s.op, .int .i64 h.s.fm, .int .i64 h.s.fd, .int .i64 h.s.pl, .int .i64 h.s.tt, .int .i64 h.s.a, .int .i64 h.s.b, .int .i64 h.s.f.id, .int .i64 h.s.f.kind, .int .i64 h.s.f.lo, .int .i64 h.s.f.hi, .int .i64 h.s.f.most, .int .i64 h.s.v.n, .string h.s.v.s, .slice a h.s.t.length c, .slice d h.s.l.length e, .int .i64 0, .slice none 0 0, .bool false, .int .i64 0, .int .i64 0, .int .i64 0, .int .i64 0, .int .i64 0, .int .i64 0]⟩
end Go.Proofs.YtaciegkblklokaaGreat
namespace Go.Proofs.YtaciegkblklokaaGreat
structure zY_  where
def zY  : zY_  := ⟨⟩
instance  (m : zY_ ) : CoeDep (zY_ ) m (List Value) := ⟨[.int .i64 0, .int .i64 0, .int .i64 0, .int .i64 0, .int .i64 0, .int .i64 0, .int .i64 0, .int .i64 0, .int .i64 0, .int .i64 0, .int .i64 0, .int .i64 0, .int .i64 0, .string ⟨#[]⟩, .slice none 0 0, .slice none 0 0, .int .i64 0, .slice none 0 0, .bool false, .int .i64 0, .int .i64 0, .int .i64 0, .int .i64 0, .int .i64 0, .int .i64 0]⟩
instance  (m : zY_ ) : CoeDep (zY_ ) m (Array Value) := ⟨#[.int .i64 0, .int .i64 0, .int .i64 0, .int .i64 0, .int .i64 0, .int .i64 0, .int .i64 0, .int .i64 0, .int .i64 0, .int .i64 0, .int .i64 0, .int .i64 0, .int .i64 0, .string ⟨#[]⟩, .slice none 0 0, .slice none 0 0, .int .i64 0, .slice none 0 0, .bool false, .int .i64 0, .int .i64 0, .int .i64 0, .int .i64 0, .int .i64 0, .int .i64 0]⟩
instance  (m : zY_ ) : CoeDep (zY_ ) m Value := ⟨.agg #[.int .i64 0, .int .i64 0, .int .i64 0, .int .i64 0, .int .i64 0, .int .i64 0, .int .i64 0, .int .i64 0, .int .i64 0, .int .i64 0, .int .i64 0, .int .i64 0, .int .i64 0, .string ⟨#[]⟩, .slice none 0 0, .slice none 0 0, .int .i64 0, .slice none 0 0, .bool false, .int .i64 0, .int .i64 0, .int .i64 0, .int .i64 0, .int .i64 0, .int .i64 0]⟩
end Go.Proofs.YtaciegkblklokaaGreat
namespace Go.Proofs.YtaciegkblklokaaGreat.typing
open Go.RowKit Go.Proofs.YtaciegkblklokaaGreat.schema
theorem begin_s' (F : List schema.Form) (s : step.Sp) : (begin_ F s).s = s := by unfold begin_; split <;> rfl
theorem err_found {c : Ch} (h : err c = 0) : found c = true := by
 unfold err at h
 by_cases hf : found c = false
 ·rw [if_pos hf] at h; cases h
 ·simpa using hf
theorem found_named {F : List schema.Form} {s : step.Sp} (h : found (begin_ F s) = true) (h9 : s.op ≠ 9) : ∃ p, named F s.fm = some p := by
 unfold found at h
 rw [begin_s', if_neg h9] at h
 cases hq : named F s.fm with
 | some p => exact ⟨p, rfl⟩
 | none =>
  unfold begin_ at h
  rw [hq] at h
  by_cases h1 : s.op = 1 ∨ s.op = 10
  ·rw [if_pos h1] at h; cases h
  ·rw [if_neg h1] at h; exact absurd h (by simp)
theorem mem_at {α : Type} {F : List α} {p : α} (h : p ∈ F) : ∃ j : Nat, F[j]? = some p := List.mem_iff_getElem?.1 h
theorem applied_mem {F : List schema.Form} {s : step.Sp} (hs : Sorted F) (h : err (begin_ F s) = 0) {p : schema.Form} (hp : p ∈ F) (hn : p.1 ≠ s.fm) : p ∈ applied F (begin_ F s) := by
 unfold applied
 rw [begin_s']
 by_cases h9 : s.op = 9
 ·rw [if_pos h9]
  have : p ∈ F.take (pos F s.fm) ++ F.drop (pos F s.fm) := by rw [List.take_append_drop]; exact hp
  rcases List.mem_append.1 this with h1 | h1
  ·exact List.mem_append.2 (.inl h1)
  ·exact List.mem_append.2 (.inr (List.mem_append.2 (.inr h1)))
 rw [if_neg h9]
 obtain ⟨q, hq⟩ := found_named (err_found h) h9
 obtain ⟨hqm, hqf⟩ := named_some hq
 have hat := pos_at hs hqm
 rw [hqf] at hat
 obtain ⟨j, hj⟩ := mem_at hp
 have hjn : j ≠ pos F s.fm := fun e => by rw [e, hat] at hj; cases hj; exact hn hqf
 by_cases h10 : s.op = 10
 ·rw [if_pos h10]
  by_cases hl : j < pos F s.fm
  ·refine List.mem_append.2 (.inl (List.mem_iff_getElem?.2 ⟨j, ?_⟩))
   rw [List.getElem?_take_of_lt hl]; exact hj
  ·refine List.mem_append.2 (.inr (List.mem_iff_getElem?.2 ⟨j - (pos F s.fm + 1), ?_⟩))
   rw [List.getElem?_drop, show pos F s.fm + 1 + (j - (pos F s.fm + 1)) = j by omega]; exact hj
 rw [if_neg h10]
 unfold setF
 rw [hat]
 refine List.mem_iff_getElem?.2 ⟨j, ?_⟩
 simp only
 rw [List.getElem?_set_ne (Ne.symm hjn)]
 exact hj
theorem on_ok {v : Int} {F : List schema.Form} {s : step.Sp} (h : (on v F s).2.2 = 0) : Fit v F s ∧ (on v F s).1 = v ∧ Right v (on v F s).2.1 ∧ ∀ p ∈ F, p.1 ≠ s.fm → p ∈ (on v F s).2.1 := by
 unfold on at h ⊢
 by_cases hf : Fit v F s
 ·rw [if_pos hf] at h ⊢
  by_cases he : err (begin_ F s) = 0
  ·rw [if_pos he] at h ⊢
   by_cases hr : Right v (applied F (begin_ F s))
   ·rw [if_pos hr]
    exact ⟨hf, rfl, hr, fun p hp hn => applied_mem (right_sorted hf.1) he hp hn⟩
   ·rw [if_neg hr] at h; cases h
  ·rw [if_neg he] at h; exact absurd h he
 ·rw [if_neg hf] at h; cases h
end Go.Proofs.YtaciegkblklokaaGreat.typing
namespace Go.Proofs.YtaciegkblklokaaGreat.rows
open Go.RowKit
variable {P : Program} {ops : Array Oper} {rest : List Oper} {o : Oper} {a : Act} {w : World} {Q : Exit → Act → World → Prop}
theorem But.setRow (w : World) (g : Nat) (cs : Array Value) : But w.heap.size g w (w.setRow g cs) :=
 ⟨rfl, rfl, rfl, by simp, fun k _ hk => setRow_other w g k cs hk⟩
theorem block_setRow {b : Nat} {t : TypeId} {C : List Value} (h : Block w b t C) (D : List Value) : Block (w.setRow b D.toArray) b t D := setRow_heap w b C.toArray D.toArray t (0, 0) h
theorem run_copyN (w : World) (dT sT ty elem : TypeId) (i : TypeInfo) (sz : Nat) (hu : P.underlying dT = some (.slice elem)) (hi : P.info? elem = some i) (hsz : i.size = sz)
  (dp sp : Option Addr) (dLen dCap sLen sCap b off : Nat) (C : List Value) (t : TypeId) (hB : Block w b t C) (m : Nat) (hm : Nat.min sLen dLen = m) (cs : List Value) (hcl : cs.length = m * sz)
  (hpos : 0 < m → dp = some ⟨b, off, none⟩ ∧ ∃ ad, sp = some ad ∧ ∀ j v, cs[j]? = some v → w.cell? (ad.add j) = some v) (hfit : off + cs.length ≤ C.length) (h1 : ∀ v ∈ cs, v.oneCell' = true) :
  ∃ w', (Builtin.copy_ #[dT, sT] ty #[.slice dp dLen dCap, .slice sp sLen sCap]).run P w = .ok (goInt m) w' ∧ Block w' b t (splice C off cs) ∧ But w.heap.size b w w' ∧ w'.heap.size = w.heap.size := by
 subst hsz
 by_cases h0 : m = 0
 ·subst h0
  obtain rfl : cs = [] := List.eq_nil_of_length_eq_zero (by simpa using hcl)
  have hl : ∀ (x : Addr), (loadCells x 0).run P w = .ok #[] w := fun x => by simpa using run_loadCells_list (P := P) w x [] (by simp)
  refine ⟨w, ?_, by simpa [splice] using hB, But.refl _ _ _, rfl⟩
  cases dp <;> cases sp <;> simp [Builtin.copy_, run_underlying hu, Builtin.lenOf, Builtin.firstCells, sizeOf, typeInfo, hi, hm, storeCells, hl]
 ·obtain ⟨rfl, ad, rfl, hc⟩ := hpos (by omega)
  have hl := run_loadCells_list (P := P) w ad cs hc
  have hst := run_storeCells_at P b off t cs 0 C.toArray w hB (by simpa using hfit) h1
  refine ⟨_, ?_, block_setRow hB (splice C off cs), But.setRow _ _ _, by simp⟩
  simp [Builtin.copy_, run_underlying hu, Builtin.lenOf, Builtin.firstCells, sizeOf, typeInfo, hi, hm, ← hcl, hl, hst, splice]
theorem wpList_copyN (hgd : o.guard = none) (d s : Operand) (dT sT : TypeId) (ho : o.op = .call { callee := .builtin .copy, args := #[d, s], argTypes := #[dT, sT] })
  (elem : TypeId) (i : TypeInfo) (sz : Nat) (hu : P.underlying dT = some (.slice elem)) (hi : P.info? elem = some i) (hsz : i.size = sz)
  (dp sp : Option Addr) (dLen dCap sLen sCap : Nat) (hd : a.eval d = .slice dp dLen dCap) (hs : a.eval s = .slice sp sLen sCap) (b off : Nat) (C : List Value) (t : TypeId) (hB : Block w b t C)
  (m : Nat) (hm : Nat.min sLen dLen = m) (cs : List Value) (hcl : cs.length = m * sz)
  (hpos : 0 < m → dp = some ⟨b, off, none⟩ ∧ ∃ ad, sp = some ad ∧ ∀ j v, cs[j]? = some v → w.cell? (ad.add j) = some v) (hfit : off + cs.length ≤ C.length) (h1 : ∀ v ∈ cs, v.oneCell' = true)
  (h : ∀ w', Hid (Block w' b t (splice C off cs) ∧ But w.heap.size b w w' ∧ w'.heap.size = w.heap.size) → wpList P ops Q rest (a.put o.dst (goInt m)) w') : wpList P ops Q (o :: rest) a w := by
 obtain ⟨w', hr, h2⟩ := run_copyN (P := P) w dT sT o.type elem i sz hu hi hsz dp sp dLen dCap sLen sCap b off C t hB m hm cs hcl hpos hfit h1
 refine wpList_plain hgd fun K hK => ?_
 unfold Oper.wp
 simp [execOp, ho, resolve, invoke, builtin, hd, hs, hr, Result.andThen]
 exact hK _ _ (h w' (hid h2))
theorem run_append_inN (w : World) (t ty e : TypeId) (i : TypeInfo) (sz : Nat) (ht : P.underlying t = some (.slice e)) (hi : P.info? e = some i) (hsz : i.size = sz) (g sLen sCap : Nat) (C : List Value) (hB : Block w g e C)
  (sp : Option Addr) (m c : Nat) (cs : List Value) (hcl : cs.length = m * sz) (hpos : 0 < m → ∃ ad, sp = some ad ∧ ∀ j v, cs[j]? = some v → w.cell? (ad.add j) = some v) (h1 : ∀ v ∈ cs, v.oneCell' = true)
  (hroom : sLen + m ≤ sCap) (hfit : sLen * sz + cs.length ≤ C.length) :
  ∃ w', (Builtin.append_ #[t, t] ty #[.slice (some ⟨g, 0, none⟩) sLen sCap, .slice sp m c]).run P w = .ok (.slice (some ⟨g, 0, none⟩) (sLen + m) sCap) w' ∧ Block w' g e (splice C (sLen * sz) cs) ∧ But w.heap.size g w w' ∧ w'.heap.size = w.heap.size := by
 subst hsz
 by_cases h0 : m = 0
 ·subst h0
  obtain rfl : cs = [] := List.eq_nil_of_length_eq_zero (by simpa using hcl)
  have hl : ∀ (x : Addr), (loadCells x 0).run P w = .ok #[] w := fun x => by simpa using run_loadCells_list (P := P) w x [] (by simp)
  have hr : sLen ≤ sCap := by omega
  refine ⟨w, ?_, by simpa [splice] using hB, But.refl _ _ _, rfl⟩
  cases sp <;> simp [Builtin.append_, run_underlying ht, Builtin.lenOf, Builtin.firstCells, sizeOf, typeInfo, hi, hr, storeCells, hl]
 ·obtain ⟨ad, rfl, hc⟩ := hpos (by omega)
  refine ⟨_, run_append_room (P := P) w t ty e i ht hi g sLen sCap C.toArray hB ad m c cs hcl hc h1 hroom (by simpa using hfit), ?_, But.setRow _ _ _, by simp⟩
  have := block_setRow hB (splice C (sLen * i.size) cs)
  simpa [splice] using this
theorem wpList_append_inN (hgd : o.guard = none) (s x : Operand) (t : TypeId) (ho : o.op = .call { callee := .builtin .append, args := #[s, x], argTypes := #[t, t] })
  (e : TypeId) (i : TypeInfo) (sz : Nat) (ht : P.underlying t = some (.slice e)) (hi : P.info? e = some i) (hsz : i.size = sz) (g sLen sCap : Nat) (hs : a.eval s = .slice (some ⟨g, 0, none⟩) sLen sCap) (C : List Value) (hB : Block w g e C)
  (sp : Option Addr) (m c : Nat) (hx : a.eval x = .slice sp m c) (cs : List Value) (hcl : cs.length = m * sz) (hpos : 0 < m → ∃ ad, sp = some ad ∧ ∀ j v, cs[j]? = some v → w.cell? (ad.add j) = some v) (h1 : ∀ v ∈ cs, v.oneCell' = true)
  (hroom : sLen + m ≤ sCap) (hfit : sLen * sz + cs.length ≤ C.length)
  (h : ∀ w', Hid (Block w' g e (splice C (sLen * sz) cs) ∧ But w.heap.size g w w' ∧ w'.heap.size = w.heap.size) → wpList P ops Q rest (a.put o.dst (.slice (some ⟨g, 0, none⟩) (sLen + m) sCap)) w') : wpList P ops Q (o :: rest) a w := by
 obtain ⟨w', hr, h2⟩ := run_append_inN (P := P) w t o.type e i sz ht hi hsz g sLen sCap C hB sp m c cs hcl hpos h1 hroom hfit
 refine wpList_plain hgd fun K hK => ?_
 unfold Oper.wp
 simp [execOp, ho, resolve, invoke, builtin, hs, hx, hr, Result.andThen]
 exact hK _ _ (h w' (hid h2))
theorem wpList_append_zerosN (hgd : o.guard = none) (s x : Operand) (t tn : TypeId) (ho : o.op = .call { callee := .builtin .append, args := #[s, x], argTypes := #[t, tn] })
  (e : TypeId) (i : TypeInfo) (z : Value) (sz bytes : Nat) (ht : P.underlying t = some (.slice e)) (htn : P.underlying tn = some (.int .i64)) (hi : P.info? e = some i) (hz : i.zero = some z) (hsz : i.size = sz) (hby : i.bytes = bytes) (hzs : z.cells.size = sz) (h0z : 0 < sz)
  (g sLen sCap : Nat) (hs : a.eval s = .slice (some ⟨g, 0, none⟩) sLen sCap) (k : Nat) (x0 : Int) (hx : a.eval x = .int .i64 x0) (hk : x0 = k) (h0 : 0 < k) (C : List Value) (hB : Block w g e C) (hfit : sLen * sz ≤ C.length) (hg : sCap < sLen + k) (hcap : sLen ≤ sCap)
  (hbytes : (sLen + k) * bytes ≤ 140737488355328) (h63 : sLen + k ≤ maxLen)
  (h : ∀ G R w', Hid (Block w' w.heap.size e (C.take (sLen * sz) ++ R) ∧ R.length = (G - sLen) * sz ∧ sLen + k ≤ G ∧ G ≤ maxLen ∧ Below w.heap.size w w' ∧ w.heap.size < w'.heap.size) →
   wpList P ops Q rest (a.put o.dst (.slice (some ⟨w.heap.size, 0, none⟩) (sLen + k) G)) w') : wpList P ops Q (o :: rest) a w := by
 subst hk
 subst hsz
 subst hby
 have hold : (Builtin.firstCells i.size sLen (.slice (some ⟨g, 0, none⟩) sLen sCap)).run P w.drew = .ok (C.take (sLen * i.size)).toArray w.drew :=
  run_firstCells_some w.drew i.size sLen ⟨g, 0, none⟩ sLen sCap _ (by rw [List.length_take]; omega) (fun j v hj => by
   rw [Addr.add_lit, Nat.zero_add]
   have hb : Block w.drew g e C := hB
   rw [hb.cell j]
   rw [List.getElem?_take] at hj
   split at hj
   ·exact hj
   ·cases hj)
 have hf := growslice_fits (bytes := i.bytes) hg hbytes
 have hr := Lib.run_append_grow_zeros (P := P) w t tn o.type e i z .i64 .i64 ht htn hi hz (some ⟨g, 0, none⟩) sLen sCap (C.take (sLen * i.size)) hold k h0 h0z hg (by unfold maxLen at h63; omega) (by
  have : k * i.bytes ≤ (sLen + k) * i.bytes := Nat.mul_le_mul_right _ (by omega)
  omega) hf
 refine Lib.wpList_append_run w hgd s x t tn ho _ _ hs hx _ _ hr (h _ (Builtin.zeroCells z.cells k ++ Builtin.zeroCells z.cells (grownCap w (sLen + k) sCap e - (sLen + k))).toList _ (hid ⟨?_, ?_, grownCap_ge w _ _ _, grownCap_le_maxLen w _ _ _ h63, ?_, by simp⟩))
 ·have := heap_alloc_new w.drew (.cells ((C.take (sLen * i.size)).toArray ++ Builtin.zeroCells z.cells k ++ Builtin.zeroCells z.cells (grownCap w (sLen + k) sCap e - (sLen + k))) e)
  show _ = _
  rw [show w.drew.heap.size = w.heap.size from rfl] at this
  rw [this]
  simp
 ·have hge := grownCap_ge w (sLen + k) sCap e
  simp only [Array.toList_append, List.length_append, Array.length_toList, size_zeroCells, hzs]
  rw [← Nat.add_mul]
  congr 1
  omega
 ·exact ⟨rfl, rfl, rfl, by simp, fun j hj => Go.heap_alloc_old w.drew _ hj⟩
theorem wpList_clearN (hgd : o.guard = none) (x : Operand) (t : TypeId) (ho : o.op = .call { callee := .builtin .clear, args := #[x], argTypes := #[t] })
  (e : TypeId) (i : TypeInfo) (z : Value) (sz : Nat) (ht : P.underlying t = some (.slice e)) (hi : P.info? e = some i) (hz : i.zero = some z) (hzs : z.cells.size = sz) (hz1 : ∀ v ∈ z.cells.toList, v.oneCell' = true) (h0z : 0 < sz)
  (ap : Option Addr) (n c : Nat) (hx : a.eval x = .slice ap n c) (b off : Nat) (C : List Value) (bt : TypeId) (hB : Block w b bt C) (hp : 0 < n → ap = some ⟨b, off, none⟩) (hfit : off + n * sz ≤ C.length)
  (h : ∀ Z w', Hid (Z.length = n * sz ∧ Block w' b bt (splice C off Z) ∧ But w.heap.size b w w' ∧ w'.heap.size = w.heap.size) → wpList P ops Q rest (a.put o.dst (.tuple #[])) w') : wpList P ops Q (o :: rest) a w := by
 subst hzs
 have hrun : ∃ Z w', (Builtin.clear_ #[t] o.type #[.slice ap n c]).run P w = .ok (.tuple #[]) w' ∧ Z.length = n * z.cells.size ∧ Block w' b bt (splice C off Z) ∧ But w.heap.size b w w' ∧ w'.heap.size = w.heap.size := by
  by_cases h0 : n = 0
  ·subst h0
   refine ⟨[], w, ?_, by simp, by simpa [splice] using hB, But.refl _ _ _, rfl⟩
   cases ap <;> simp [Builtin.clear_, run_underlying ht]
  ·obtain rfl := hp (by omega)
   have hlen : (Builtin.zeroCells z.cells n).toList.length = n * z.cells.size := by rw [Array.length_toList, size_zeroCells]
   have hone : ∀ v ∈ (Builtin.zeroCells z.cells n).toList, v.oneCell' = true := by
    intro v hv
    simp only [Builtin.zeroCells, Array.toList_map, List.mem_map] at hv
    obtain ⟨j, _, rfl⟩ := hv
    have hlt : j % z.cells.size < z.cells.size := Nat.mod_lt _ h0z
    rw [getElem!_pos z.cells _ hlt]
    exact hz1 _ (by simp)
   have hst := run_storeCells_at P b off bt (Builtin.zeroCells z.cells n).toList 0 C.toArray w hB (by simpa [hlen] using hfit) hone
   refine ⟨_, _, ?_, hlen, block_setRow hB (splice C off (Builtin.zeroCells z.cells n).toList), But.setRow _ _ _, by simp⟩
   have hn : n ≠ 0 := h0
   simp only [Nat.add_zero] at hst
   simp [Builtin.clear_, run_underlying ht, zeroValue, typeInfo, hi, hz, hst, splice]
   first | done | (split <;> simp_all)
 obtain ⟨Z, w', hr, h2⟩ := hrun
 refine wpList_plain hgd fun K hK => ?_
 unfold Oper.wp
 simp [execOp, ho, resolve, invoke, builtin, hx, hr, Result.andThen]
 exact hK _ _ (h Z w' (hid h2))
theorem splice_take {α : Type} (C : List α) (p : Nat) (V : List α) (hp : p ≤ C.length) : (splice C p V).take (p + V.length) = C.take p ++ V := by
 unfold splice
 rw [← List.append_assoc]
 have : (C.take p ++ V).length = p + V.length := by simp; omega
 rw [← this]
 exact List.take_left
theorem splice_head {α : Type} (C : List α) (p : Nat) (V : List α) (q : Nat) (hq : q ≤ p) (hp : p ≤ C.length) : (splice C p V).take q = C.take q := by
 unfold splice
 rw [List.take_append_of_le_length (by simp; omega), List.take_take, Nat.min_eq_left hq]
theorem splice_drop {α : Type} (C : List α) (p : Nat) (V : List α) (hp : p ≤ C.length) : (splice C p V).drop p = V ++ C.drop (p + V.length) := by
 unfold splice
 have h : (C.take p).length = p := by simp; omega
 have h2 := List.drop_left (l₁ := C.take p) (l₂ := V ++ C.drop (p + V.length))
 rw [h] at h2
 exact h2
theorem two {α : Type} (C : List α) (p : Nat) (V X2 : List α) (hC : p + V.length + X2.length ≤ C.length) :
  (splice (splice C (p + V.length) X2) p V).take (p + V.length + X2.length) = C.take p ++ V ++ X2 := by
 have hl : (splice C (p + V.length) X2).length = C.length := length_splice _ _ _ hC
 conv => lhs; unfold splice
 have e1 : (splice C (p + V.length) X2).take p = C.take p := splice_head _ _ _ _ (by omega) (by omega)
 have e2 : (splice C (p + V.length) X2).drop (p + V.length) = X2 ++ C.drop (p + V.length + X2.length) := splice_drop _ _ _ (by omega)
 unfold splice at e1 e2
 rw [e1, e2]
 have h3 : (C.take p ++ V ++ X2).length = p + V.length + X2.length := by simp; omega
 rw [show C.take p ++ (V ++ (X2 ++ C.drop (p + V.length + X2.length))) = (C.take p ++ V ++ X2) ++ C.drop (p + V.length + X2.length) by simp, ← h3]
 exact List.take_left
theorem two' {α : Type} (C : List α) (p : Nat) (V X2 : List α) (hC : p + V.length + X2.length ≤ C.length) :
  (splice (splice C p V) (p + V.length) X2).take (p + V.length + X2.length) = C.take p ++ V ++ X2 := by
 have hl : (splice C p V).length = C.length := length_splice _ _ _ (by omega)
 rw [splice_take _ _ _ (by omega), splice_take _ _ _ (by omega)]
theorem own_of {base sz n cap g : Nat} {C xs : List Value} {w : World} {t : TypeId} (hB : Block w g t C) (hb : base ≤ g) (hn : n ≤ cap) (hc : cap ≤ maxLen) (hl : C.length = cap * sz) (ht : C.take (n * sz) = xs) :
  w.ownsRow base t sz (.slice (some ⟨g, 0, none⟩) n cap) n xs := by
 refine ⟨?_, .inr ⟨g, cap, C.toArray, rfl, hb, hB, hn, hc, by simpa using hl, by simpa using ht⟩⟩
 rw [← ht, List.length_take, hl]
 exact Nat.min_eq_left (Nat.mul_le_mul_right _ hn)
theorem grown_of_but {w w' : World} {g : Nat} {v : Value} (h : But w.heap.size g w w') (hv : v.ownBlock = some g) : w.grownBy w' v.ownBlock :=
 ⟨h.1, h.2.1, h.2.2.1, h.2.2.2.1, fun k hk hne => h.2.2.2.2 k hk (fun e => hne (by rw [hv, e]))⟩
theorem grown_of_below {w w' : World} {row : Option Nat} (h : Below w.heap.size w w') : w.grownBy w' row := ⟨h.os, h.tape, h.output, h.size, fun k hk _ => h.block k hk⟩
theorem run_overlapsN {P : Program} (w : World) (tS tR e : TypeId) (ht : P.underlying tS = some (.slice e)) (i : TypeInfo) (hi : P.info? e = some i) (a b : Addr) (la ca lb cb : Nat) (hne : a.block ≠ b.block)
  (tA tB : TypeId) (A B : List Value) (hA : Block w a.block tA A) (hB : Block w b.block tB B) (hl : B ≠ []) :
  (Extern.SlicesOverlaps.overlaps #[tS, tS] #[tR] #[.slice (some a) la ca, .slice (some b) lb cb]).run P w = .ok (.bool false) w := by
 have hsA : w.shape? a.block = some (tA, A.length) := by
  have : w.heap[a.block]? = _ := hA
  simp [World.shape?, this]
 have hsB : w.shape? b.block = some (tB, B.length) := by
  have : w.heap[b.block]? = _ := hB
  simp [World.shape?, this]
 refine Lib.run_overlaps_apart w tS tR e ht i.size (fun w => by simp [sizeOf, typeInfo, hi]) a b la ca lb cb hne tA tB A.length B.length hsA hsB (by cases B with | nil => exact absurd rfl hl | cons x l => simp) ?_ (hA.frozen A.length)
 obtain ⟨ab, ao, asp⟩ := a
 have : w.heap[ab]? = _ := hA
 simp [World.frozen?, this]
end Go.Proofs.YtaciegkblklokaaGreat.rows
