/- Contract of layer 13 (schema): printField. No condition but a right field and a row shorter than 2^46 bytes. -/
import Derived.Test.YtacigmnnekphmaaSchemaRight
import Derived.Test.YtacigmnnekphmaaPenEnd
namespace Go.Proofs.Ytacigmnnekphmaa.schema
open Go.RowKit Go.Proofs.Ytacigmnnekphmaa.pen
set_option linter.unusedVariables false

theorem count_int (lo b : Nat) (v : Value) (xs : List Nat) (w : World) (h : PenAt lo b v xs 0 w) (hlo : lo ≤ w.heap.size) (n : Int) (h0 : 0 ≤ n) (h63 : n ≤ 9223372036854775807) (hn : xs.length ≤ 1000000) :
    Calls Try.prog 38 #[.pointer (some ⟨b, 0, none⟩), .int .i64 n] w (Wrote lo b v xs (vb n.toNat) 0 w) := by
  obtain ⟨m, rfl⟩ := Int.eq_ofNat_of_zero_le h0
  exact count_any lo b v xs 0 w h hlo m (by omega) (by omega)
/-- a struct stays where a pen writes -/
theorem pen_block {lo b : Nat} {v v' : Value} {xs : List Nat} {bad : Int} {w w' : World} (hp : PenAt lo b v xs bad w) (ht : Turns w b v w' v') {k : Nat} {t : TypeId} {cs : List Value} (hB : Block w k t cs) (hT : t ≠ 5) (hk : k ≠ b) : Block w' k t cs := by
  refine (ht.block k hB.lt hk ?_).trans hB
  intro e
  rcases hp.2.2.2 with ⟨hv, _⟩ | ⟨g, cap, cur, hv, _, hg, _⟩
  · rw [hv] at e; simp [Value.ownBlock] at e
  · rw [hv] at e
    simp [Value.ownBlock] at e
    subst e
    unfold Block at hB
    rw [hg] at hB
    exact hT ((Obj.cells.inj (Option.some.inj hB)).2.1.symm)
theorem fd_ty : (50 : TypeId) ≠ 5 := by decide
theorem fm_ty : (29 : TypeId) ≠ 5 := by decide
theorem sc_ty : (24 : TypeId) ≠ 5 := by decide
theorem turns_alloc (w : World) (b : Nat) (v : Value) (d : Obj) : Turns w b v (w.alloc d) v := turns_later ((Below.refl _ _).alloc (Nat.le_refl _) _)

theorem printField_any (lo b : Nat) (v : Value) (xs : List Nat) (w : World) (h : PenAt lo b v xs 0 w) (hlo : lo ≤ w.heap.size) (p : field.Fd) (hr : p.Right) (hn : xs.length ≤ 100000) :
    Calls Try.prog 39 #[.pointer (some ⟨b, 0, none⟩), .agg #[.int .i64 p.id, .int .i64 p.kind, .int .i64 p.lo, .int .i64 p.hi, .int .i64 p.most]] w (Wrote lo b v xs (fieldB p) 0 w) := by
  have hs := right_span hr
  have hk : p.kind = 1 ∨ p.kind = 2 ∨ p.kind = 3 ∨ p.kind = 4 := by omega
  have hbl := Block.new w 50 [.int .i64 p.id, .int .i64 p.kind, .int .i64 p.lo, .int .i64 p.hi, .int .i64 p.most]
  have hp0 := h.later (field.newB w (.cells #[.int .i64 p.id, .int .i64 p.kind, .int .i64 p.lo, .int .i64 p.hi, .int .i64 p.most] 50))
  have ht0 := turns_alloc w b v (.cells #[.int .i64 p.id, .int .i64 p.kind, .int .i64 p.lo, .int .i64 p.hi, .int .i64 p.most] 50)
  have hne : w.heap.size ≠ b := by have := h.1.lt; omega
  have hl0 : lo ≤ (w.alloc (.cells #[.int .i64 p.id, .int .i64 p.kind, .int .i64 p.lo, .int .i64 p.hi, .int .i64 p.most] 50)).heap.size := by simp; omega
  have l1 := vb_ten p.id.toNat (by omega)
  have l2 := vb_ten p.kind.toNat (by omega)
  have l3 := vb_ten (zig p.lo) (zig_lt _ (by omega) (by omega))
  have l4 := vb_ten (zig p.hi) (zig_lt _ (by omega) (by omega))
  have hfb : fieldB p = vb p.id.toNat ++ vb p.kind.toNat ++ (if p.kind = 1 then vb (zig p.lo) ++ vb (zig p.hi) else if p.kind = 3 ∨ p.kind = 4 then vb p.most.toNat else []) := rfl
  rw [hfb]
  clear hfb h hr
  obtain ⟨i, k, lw, hi, m⟩ := p
  simp only at *
  have c1 := count_int lo b v xs _ hp0 hl0 i (by omega) (by omega) (by omega)
  have c2 := fun v1 w1 hp hl => count_int lo b v1 (xs ++ vb i.toNat) w1 hp hl k (by omega) (by omega) (by simp only [List.length_append]; omega)
  have C3 := hid (fun v1 w1 hp hl => num_any lo b v1 (xs ++ vb i.toNat ++ vb k.toNat) 0 w1 hp hl lw (by omega) (by omega) (by simp only [List.length_append]; omega))
  have C4 := hid (fun v1 w1 hp hl => num_any lo b v1 (xs ++ vb i.toNat ++ vb k.toNat ++ vb (zig lw)) 0 w1 hp hl hi (by omega) (by omega) (by simp only [List.length_append]; omega))
  have C5 := hid (fun v1 w1 hp hl => count_int lo b v1 (xs ++ vb i.toNat ++ vb k.toNat) w1 hp hl m (by omega) (by omega) (by simp only [List.length_append]; omega))
  have HBL := hid hbl
  have HT0 := hid ht0
  clear hs l1 l2 l3 l4 ht0 hbl hlo hn
  rcases hk with rfl | rfl | rfl | rfl
  · have c3 := C3.out
    have c4 := C4.out
    clear C3 C4 C5
    rw [if_pos rfl]
    go_enter Try.func39, Try.ntmps39
    go_wp2_with (first
      | (go_at_call 38; ((with_reducible refine c1.mono ?_); rintro e w1 ⟨rfl, v1, hp1, ht1⟩; have hB1 := pen_block hp0 ht1 HBL.out fd_ty hne; have z0 := hB1.cell 0; have z1 := hB1.cell 1; have hl1 := Nat.le_trans hl0 ht1.size))
      | (go_at_call 38; ((with_reducible refine (c2 _ _ hp1 hl1).mono ?_); rintro e w2 ⟨rfl, v2, hp2, ht2⟩; have hB2 := pen_block hp1 ht2 hB1 fd_ty hne; have z1 := hB2.cell 1; have z2 := hB2.cell 2; have z4 := hB2.cell 4; have hl2 := Nat.le_trans hl1 ht2.size))
      | (go_at_call 57; ((with_reducible refine (c3 _ _ hp2 hl2).mono ?_); rintro e w3 ⟨rfl, v3, hp3, ht3⟩; have hB3 := pen_block hp2 ht3 hB2 fd_ty hne; have z3 := hB3.cell 3; have hl3 := Nat.le_trans hl2 ht3.size))
      | (go_at_call 57; ((with_reducible refine (c4 _ _ hp3 hl3).mono ?_); rintro e w4 ⟨rfl, v4, hp4, ht4⟩))
      | (go_at_call 38; ((with_reducible refine (c5 _ _ hp2 hl2).mono ?_); rintro e w3 ⟨rfl, v3, hp3, ht3⟩)))
    exact ret0 rfl rfl ⟨rfl, v4, by simpa only [List.append_assoc] using hp4, HT0.out.trans (ht1.trans (ht2.trans (ht3.trans ht4)))⟩
  · clear C3 C4 C5
    rw [if_neg (by decide), if_neg (by decide), List.append_nil]
    go_enter Try.func39, Try.ntmps39
    go_wp2_with (first
      | (go_at_call 38; ((with_reducible refine c1.mono ?_); rintro e w1 ⟨rfl, v1, hp1, ht1⟩; have hB1 := pen_block hp0 ht1 HBL.out fd_ty hne; have z0 := hB1.cell 0; have z1 := hB1.cell 1; have hl1 := Nat.le_trans hl0 ht1.size))
      | (go_at_call 38; ((with_reducible refine (c2 _ _ hp1 hl1).mono ?_); rintro e w2 ⟨rfl, v2, hp2, ht2⟩; have hB2 := pen_block hp1 ht2 hB1 fd_ty hne; have z1 := hB2.cell 1; have z2 := hB2.cell 2; have z4 := hB2.cell 4; have hl2 := Nat.le_trans hl1 ht2.size))
      | (go_at_call 57; ((with_reducible refine (c3 _ _ hp2 hl2).mono ?_); rintro e w3 ⟨rfl, v3, hp3, ht3⟩; have hB3 := pen_block hp2 ht3 hB2 fd_ty hne; have z3 := hB3.cell 3; have hl3 := Nat.le_trans hl2 ht3.size))
      | (go_at_call 57; ((with_reducible refine (c4 _ _ hp3 hl3).mono ?_); rintro e w4 ⟨rfl, v4, hp4, ht4⟩))
      | (go_at_call 38; ((with_reducible refine (c5 _ _ hp2 hl2).mono ?_); rintro e w3 ⟨rfl, v3, hp3, ht3⟩)))
    exact ret0 rfl rfl ⟨rfl, v2, by simpa only [List.append_assoc] using hp2, HT0.out.trans (ht1.trans ht2)⟩
  · have c5 := C5.out
    clear C3 C4 C5
    rw [if_neg (by decide), if_pos (by decide)]
    go_enter Try.func39, Try.ntmps39
    go_wp2_with (first
      | (go_at_call 38; ((with_reducible refine c1.mono ?_); rintro e w1 ⟨rfl, v1, hp1, ht1⟩; have hB1 := pen_block hp0 ht1 HBL.out fd_ty hne; have z0 := hB1.cell 0; have z1 := hB1.cell 1; have hl1 := Nat.le_trans hl0 ht1.size))
      | (go_at_call 38; ((with_reducible refine (c2 _ _ hp1 hl1).mono ?_); rintro e w2 ⟨rfl, v2, hp2, ht2⟩; have hB2 := pen_block hp1 ht2 hB1 fd_ty hne; have z1 := hB2.cell 1; have z2 := hB2.cell 2; have z4 := hB2.cell 4; have hl2 := Nat.le_trans hl1 ht2.size))
      | (go_at_call 57; ((with_reducible refine (c3 _ _ hp2 hl2).mono ?_); rintro e w3 ⟨rfl, v3, hp3, ht3⟩; have hB3 := pen_block hp2 ht3 hB2 fd_ty hne; have z3 := hB3.cell 3; have hl3 := Nat.le_trans hl2 ht3.size))
      | (go_at_call 57; ((with_reducible refine (c4 _ _ hp3 hl3).mono ?_); rintro e w4 ⟨rfl, v4, hp4, ht4⟩))
      | (go_at_call 38; ((with_reducible refine (c5 _ _ hp2 hl2).mono ?_); rintro e w3 ⟨rfl, v3, hp3, ht3⟩)))
    exact ret0 rfl rfl ⟨rfl, v3, by simpa only [List.append_assoc] using hp3, HT0.out.trans (ht1.trans (ht2.trans ht3))⟩
  · have c5 := C5.out
    clear C3 C4 C5
    rw [if_neg (by decide), if_pos (by decide)]
    go_enter Try.func39, Try.ntmps39
    go_wp2_with (first
      | (go_at_call 38; ((with_reducible refine c1.mono ?_); rintro e w1 ⟨rfl, v1, hp1, ht1⟩; have hB1 := pen_block hp0 ht1 HBL.out fd_ty hne; have z0 := hB1.cell 0; have z1 := hB1.cell 1; have hl1 := Nat.le_trans hl0 ht1.size))
      | (go_at_call 38; ((with_reducible refine (c2 _ _ hp1 hl1).mono ?_); rintro e w2 ⟨rfl, v2, hp2, ht2⟩; have hB2 := pen_block hp1 ht2 hB1 fd_ty hne; have z1 := hB2.cell 1; have z2 := hB2.cell 2; have z4 := hB2.cell 4; have hl2 := Nat.le_trans hl1 ht2.size))
      | (go_at_call 57; ((with_reducible refine (c3 _ _ hp2 hl2).mono ?_); rintro e w3 ⟨rfl, v3, hp3, ht3⟩; have hB3 := pen_block hp2 ht3 hB2 fd_ty hne; have z3 := hB3.cell 3; have hl3 := Nat.le_trans hl2 ht3.size))
      | (go_at_call 57; ((with_reducible refine (c4 _ _ hp3 hl3).mono ?_); rintro e w4 ⟨rfl, v4, hp4, ht4⟩))
      | (go_at_call 38; ((with_reducible refine (c5 _ _ hp2 hl2).mono ?_); rintro e w3 ⟨rfl, v3, hp3, ht3⟩)))
    exact ret0 rfl rfl ⟨rfl, v3, by simpa only [List.append_assoc] using hp3, HT0.out.trans (ht1.trans (ht2.trans ht3))⟩
end Go.Proofs.Ytacigmnnekphmaa.schema
