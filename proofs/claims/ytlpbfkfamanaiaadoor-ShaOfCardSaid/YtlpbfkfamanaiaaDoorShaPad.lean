/- Contracts of bytesOf and padding of layer 3: for every slice of at most 2^43 words; for every message of less than 2^60 bytes. -/
import Derived.Test.YtlpbfkfamanaiaaDoorShaMath
import Derived.Test.YtlpbfkfamanaiaaDoorWordBytes
import Derived.Test.YtlpbfkfamanaiaaDoorOpen
import Derived.Test.YtlpbfkfamanaiaaDoorArr
namespace Go.Proofs.YtlpbfkfamanaiaaDoor.sha
open Go.RowKit Go.Proofs.YtlpbfkfamanaiaaDoor.word
set_option linter.unusedVariables false

def u8s (xs : List Nat) : List Value := xs.map fun x : Nat => Value.int .u8 (x : Int)
def wordBytes (xs : List Nat) : List Nat := (List.range (4 * xs.length)).map (word.byteOf xs)
theorem bytesOf_all (xs : List Nat) : word.bytesOf xs ((4 * xs.length : Nat) : Int) = (0, wordBytes xs) := by
  have h := need_nat (4 * xs.length)
  have h1 : word.blank xs (4 * xs.length) = true   := word.blank_true (fun i hi => by omega)
  unfold word.bytesOf
  rw [if_neg (by omega), if_neg (by omega), if_neg (by omega), Int.toNat_natCast, if_neg (by rw [h1]; decide)]
  rfl
theorem bytesOf_any (a : Option Addr) (len cap : Nat) (xs : List Nat) (w : World) (hr : Reads .u32 w a len xs) (hx : ∀ x ∈ xs, x < 4294967296) (hl : len ≤ 8796093022208) :
    Calls Tryd.prog 20 #[.slice a len cap] w fun e w' => ∃ v, e = .returned v ∧ w'.ownsRow w.heap.size 5 1 v (4 * len) (u8s (wordBytes xs)) ∧ Below w.heap.size w w' := by
  have hlen := hr.1
  have hc : ∀ w', Below w.heap.size w w' → w'.heap.size = w.heap.size → Calls Tryd.prog 24 #[.slice a len cap, .int .i64 (4 * (len : Int))] w' fun e w'' => ∃ v, e = .returned (.tuple #[v, .int .i64 0]) ∧ w''.ownsRow w.heap.size 5 1 v (4 * len) (u8s (wordBytes xs)) ∧ Below w.heap.size w w'' := fun w' hb hs => by
    have h := bytes_any a len cap xs w' (hr.below hb) hx (by omega) (4 * (len : Int)) (by omega) (by omega)
    rw [show (4 * (len : Int)) = ((4 * xs.length : Nat) : Int) by rw [hlen]; omega, bytesOf_all] at h
    rw [show (4 * (len : Int)) = ((4 * xs.length : Nat) : Int) by rw [hlen]; omega]
    refine h.mono fun e w'' ⟨v, he, ho, hb'⟩ => ⟨v, he, ?_, hb.trans (by rw [hs] at hb'; exact hb')⟩
    have e : (wordBytes xs).length = 4 * len := by simp [wordBytes, hlen]
    rw [hs] at ho
    rw [← e]
    exact ho
  clear hx
  go_enter Tryd.func20, Tryd.ntmps20
  go_wp2_with (go_at_call 24; (with_reducible refine (hc _ (Below.refl _ _) rfl).mono ?_); rintro e w' ⟨v, rfl, ho, hb⟩)
  go_ret
  exact ⟨_, rfl, ho, hb⟩

/-- 'make' with room -/
theorem wpList_make_part {P : Program} (w : World) {ops : Array Oper} {rest : List Oper} {o : Oper} {a : Act} {Q : Exit → Act → World → Prop}
    (hg : o.guard = none) (l c : Operand) (t : TypeId) (hop : o.op = Op.makeSlice t l c)
    (base : Nat) (e : TypeId) (i : TypeInfo) (z : Value) (h1 : P.underlying t = some (.slice e)) (h2 : P.info? e = some i) (h3 : i.zero = some z) (h4 : i.size = 1) (hz : z.cells = #[z])
    (kl kc : IntKind) (L C : Int) (n m : Nat) (hl : a.eval l = .int kl L) (hc : a.eval c = .int kc C) (hL : L = (n : Int)) (hC : C = (m : Int)) (hnm : n ≤ m) (b2 : i.bytes * m ≤ 281474976710656) (b3 : m ≤ maxLen) (b4 : base ≤ w.heap.size)
    (hK : ∀ w', w'.ownsRow base e 1 (.slice (some ⟨w.heap.size, 0, none⟩) n m) n (List.replicate n z) → w.grownBy w' none → wpList P ops Q rest (a.put o.dst (.slice (some ⟨w.heap.size, 0, none⟩) n m)) w') :
    wpList P ops Q (o :: rest) a w := by
  refine wpList_plain hg fun K hK' => ?_
  have hb' : (i.bytes : Int) * (m : Int) ≤ 281474976710656 := by
    have h : ((i.bytes * m : Nat) : Int) ≤ 281474976710656 := by omega
    rwa [Int.natCast_mul] at h
  have hr := run_make (P := P) w t e i z h1 h2 h3 kl kc n m (by omega) (by omega) hb' (by simp [maxLen] at b3; omega)
  simp only [Int.toNat_natCast, h4, Nat.mul_one, hz] at hr
  subst hL
  subst hC
  unfold Oper.wp
  simp [execOp, hop, hl, hc, hr, Result.andThen]
  refine hK' _ _ (hK _ ⟨by simp, .inr ⟨w.heap.size, m, madeCells #[z] m, rfl, b4, heap_alloc_new w _, hnm, b3, by rw [size_madeCells]; omega, ?_⟩⟩ (World.grownBy_alloc w _ none))
  rw [toList_madeCells_one, Nat.mul_one, List.take_replicate, Nat.min_eq_left hnm]

theorem lenBytes_words (n : Nat) (h : n < 1152921504606846976) : wordBytes [8 * n / 4294967296, 8 * n % 4294967296] = lenBytes n := by
  have e : wordBytes [8 * n / 4294967296, 8 * n % 4294967296] = (List.range 8).map (word.byteOf [8 * n / 4294967296, 8 * n % 4294967296]) := rfl
  rw [e]
  unfold lenBytes
  apply List.map_congr_left
  intro i hi
  have : i = 0 ∨ i = 1 ∨ i = 2 ∨ i = 3 ∨ i = 4 ∨ i = 5 ∨ i = 6 ∨ i = 7 := by have := List.mem_range.1 hi; omega
  rcases this with rfl | rfl | rfl | rfl | rfl | rfl | rfl | rfl <;> simp [word.byteOf] <;> omega

set_option maxHeartbeats 1600000 in
theorem padding_any (n : Nat) (hn : n < 1152921504606846976) (w : World) :
    Calls Tryd.prog 22 #[.int .i64 n] w fun e w' => ∃ v, e = .returned v ∧ w'.ownsRow w.heap.size 5 1 v (pad n).length (u8s (pad n)) ∧ Below w.heap.size w w' := by
  obtain ⟨i0, hi, hz0, hz1, hz2⟩ := info_parts Trydinfo5
  have hzn : ∃ z : Nat, (119 - n % 64) % 64 = z := ⟨_, rfl⟩
  obtain ⟨z, hz⟩ := hzn
  have hzlt : z < 64 := by omega
  have hzz : (119 - (n : Int) % 64) % 64 = z := by omega
  have HP := hid (show pad n = 128 :: (List.replicate z 0 ++ lenBytes n) by rw [pad, hz])
  clear hz
  go_enter Tryd.func22, Tryd.ntmps22
  go_wp2_with (at_make; refine wpList_make_part _ rfl _ _ 22 rfl w.heap.size 5 i0 (.int .u8 0) Tryd.underlying22 hi hz0 hz1 rfl _ _ _ _ (1 + z) (1 + z + 8) rfl rfl (by omega) (by omega) (by omega) (by rw [hz2]; omega) (by unfold maxLen; omega) (Nat.le_refl _) ?_)
  intro w1 hown hgrow
  have hb1 := (Below.refl w.heap.size w).grown hgrow (Nat.le_refl _) (fun k h => by cases h)
  have c0 : w1.cell? ⟨w.heap.size, 0, none⟩ = some (.int .u8 0) := by
    rw [hown.cellAt 0 (by omega), List.getElem?_replicate, if_pos (by omega)]
  have f0 := hown.frozenAt 0
  have i0' : (0 : Int) < 1 + (z : Int) := by omega
  have hst := hown.stored 0 (.int .u8 128)
  have e1 : (List.replicate (1 + z) (Value.int .u8 0)).set 0 (.int .u8 128) = u8s (128 :: List.replicate z 0) := by
    rw [Nat.add_comm, List.replicate_succ]; simp [u8s]
  rw [e1] at hst
  have hb2 : Below w.heap.size w (w1.setCell ⟨w.heap.size, 0, none⟩ (.int .u8 128)) := hb1.setCell (Nat.le_refl _) _
  have HO := hid hst.1
  have HB := hid hb2
  clear hst hb2 hown hgrow hb1
  have h8 : (8 : Int) * n < 18446744073709551616 := by omega
  have hBy : ∀ (b : Nat) (w' : World), (∀ j v, [Value.int .u32 (8 * (n : Int) / 4294967296), Value.int .u32 (8 * (n : Int) % 4294967296)][j]? = some v → w'.cell? ⟨b, j, none⟩ = some v) → b < w'.heap.size →
      Calls Tryd.prog 20 #[.slice (some ⟨b, 0, none⟩) 2 2] w' fun e w'' => ∃ g c, e = .returned (.slice (some ⟨g, 0, none⟩) 8 c) ∧ (∀ j v, (u8s (lenBytes n))[j]? = some v → w''.cell? ((⟨g, 0, none⟩ : Addr).add j) = some v) ∧ Below w'.heap.size w' w'' := fun b w' hc hb => by
    have hr : Reads .u32 w' (some ⟨b, 0, none⟩) 2 [8 * n / 4294967296, 8 * n % 4294967296] := ⟨rfl, .inr ⟨b, 0, rfl, hb, fun i hi => by
      have : i = 0 ∨ i = 1 := by omega
      rcases this with rfl | rfl
      · rw [Nat.zero_add, hc 0 _ rfl]; rfl
      · rw [Nat.zero_add, hc 1 _ rfl]; rfl⟩⟩
    refine (bytesOf_any (some ⟨b, 0, none⟩) 2 2 _ w' hr (by intro x hx; simp at hx; omega) (by omega)).mono ?_
    rintro e w'' ⟨v, rfl, ho, hb'⟩
    obtain ⟨g, c, rfl, _, _, _⟩ := ownsRow_form ho (by decide)
    rw [lenBytes_words n hn] at ho
    refine ⟨g, c, rfl, fun j v hj => ?_, hb'⟩
    have hl : j < 8 := by
      have := (List.getElem?_eq_some_iff.1 hj).1
      simpa [u8s, lenBytes_length] using this
    rw [Addr.add_lit, Nat.zero_add, ho.cellAt j (by omega)]
    exact hj
  have hnew : ∀ j v, [Value.int .u32 (8 * (n : Int) / 4294967296), Value.int .u32 (8 * (n : Int) % 4294967296)][j]? = some v → ((w1.setCell ⟨w.heap.size, 0, none⟩ (.int .u8 128)).alloc (.cells #[Value.int .u32 (8 * (n : Int) / 4294967296), Value.int .u32 (8 * (n : Int) % 4294967296)] 24)).cell? ⟨w1.heap.size, j, none⟩ = some v := fun j v hj => by
    have h := cells_new (w1.setCell ⟨w.heap.size, 0, none⟩ (.int .u8 128)) 24 _ j v hj
    rw [Addr.add_lit, Nat.zero_add] at h
    simpa using h
  have HN := hid hnew
  clear hnew
  go_wp2_with (go_at_call 20; (with_reducible refine (hBy _ _ HN.out (by simp)).mono ?_))
  rintro e w3 ⟨g, c, rfl, hg, hb3⟩
  have hb4 := (HB.out.alloc HB.out.size (.cells #[Value.int .u32 (8 * (n : Int) / 4294967296), Value.int .u32 (8 * (n : Int) % 4294967296)] 24))
  have hs1 := HB.out.size
  have hb5 := hb4.trans (hb3.mono hb4.size)
  have ho3 : w3.ownsRow w.heap.size 5 1 (.slice (some ⟨w.heap.size, 0, none⟩) (1 + z) (1 + z + 8)) (1 + z) (u8s (128 :: List.replicate z 0)) := by
    exact ownsRow_later (HO.out.alloc _) hb3
  have H1 := hid (show ∀ u ∈ u8s (lenBytes n), u.oneCell' = true by intro v hv; obtain ⟨x, _, rfl⟩ := List.mem_map.1 hv; rfl)
  have HL := hid (show (u8s (lenBytes n)).length = 8 * 1 by simp [u8s, lenBytes_length])
  have HG := hid hg
  have HO3 := hid ho3
  have hs5 := hb5.size
  clear hg ho3 HN hBy
  generalize hL8 : u8s (lenBytes n) = L8 at *
  have HL8 := hid hL8
  clear hL8
  go_wp2_with (at_builtin; refine wpList_append_own _ rfl _ _ 22 rfl w.heap.size 5 i0 (.int .u8 0) 1 1 Tryd.underlying22 hi hz0 hz1 hz2 rfl (by decide) _ _ _ rfl HO3.out ⟨g, 0, none⟩ 8 c L8 rfl HL.out HG.out H1.out (by unfold maxLen; omega) (by omega) hs5 ?_)
  intro v' w4 ho4 hg4 _
  have hb6 := hb5.grown hg4 hs5 (fun k hk => by cases hk; exact Nat.le_refl _)
  have e2 : u8s (pad n) = u8s (128 :: List.replicate z 0) ++ L8 := by rw [HP.out, ← HL8.out]; simp [u8s]
  have e3 : (pad n).length = 1 + z + 8 := by rw [HP.out]; simp [lenBytes_length]; omega
  rw [← e2, ← e3] at ho4
  go_wp2
  go_ret
  exact ⟨_, rfl, ho4, hb6⟩
end Go.Proofs.YtlpbfkfamanaiaaDoor.sha
