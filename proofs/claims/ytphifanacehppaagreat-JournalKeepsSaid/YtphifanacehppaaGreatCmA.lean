/- Contracts and lemmas that the claims of this seat share: Kit, WordOnes, Open, ZerosCount, ZerosMath, ZerosTwin, ZerosTold, WordBit, WordRefOnes, ZerosSeal, FrameMath, WordBits, FlashClr. Each says its own conditions. -/
import Derived.Test.YtphifanacehppaaGreatRows
import Derived.WalkKit
import Derived.BigQuiet
import Derived.ProofKit
import Derived.OpenShut
import Derived.ShutString
import Derived.ChangeOld
import Derived.Below
import Derived.SizedLaws
import Derived.Laws.CopyOwn
import Derived.Laws.AppendOwnNone
/- Small lemmas on memory that the proofs of this seat share: what a slice of integers reads as, and what a quiet call leaves. No condition. -/
namespace Go.Proofs.YtphifanacehppaaGreat
open Go.RowKit

theorem hid {p : Prop} (h : p) : Hid p := h
theorem ret_int {k : IntKind} {a b : Int} (h : a = b) : Ending.returned (.int k a) = .returned (.int k b) := by rw [h]
theorem ret_bool {a b : Bool} (h : a = b) : Ending.returned (.bool a) = .returned (.bool b) := by rw [h]

/-- the call returns v and changes nothing; it may draw orders -/
def Quiet (v : Value) (w : World) (e : Ending) (w' : World) : Prop := e = .returned v ∧ ∃ n, w' = w.drewN n
theorem Quiet.mk0 {v : Value} {w : World} : Quiet v w (.returned v) w := ⟨rfl, 0, rfl⟩
theorem _root_.Go.Proofs.YtphifanacehppaaGreat.quietAt {P : Program} {f : FuncId} {args : Array Value} {w : World} {n : Nat} {v : Value}
    (h : Calls P f args (w.drewN n) (Quiet v (w.drewN n))) : Calls P f args (w.drewN n) fun e w'' => e = .returned v ∧ ∃ m, w'' = w.drewN m :=
  h.mono fun _ _ ⟨he, m, hm⟩ => ⟨he, n + m, by rw [hm, World.drewN_drewN]⟩

theorem below_drewN {B : Nat} {a w : World} (h : Below B a w) (n : Nat) : Below B a (w.drewN n) :=
  ⟨h.os, h.tape, h.output, h.size, h.block⟩

theorem _root_.Go.World.ownsRow.drewN {w : World} {base e size n : Nat} {v : Value} {xs : List Value} (h : w.ownsRow base e size v n xs) (m : Nat) : (w.drewN m).ownsRow base e size v n xs := h

/-- the slice at address a, of length len, reads as the numbers xs of kind k -/
def Reads (k : IntKind) (w : World) (a : Option Addr) (len : Nat) (xs : List Nat) : Prop :=
  xs.length = len ∧ (len = 0 ∨ ∃ b off, a = some ⟨b, off, none⟩ ∧ b < w.heap.size ∧ ∀ i, i < len → w.cell? ⟨b, off + i, none⟩ = some (.int k ((xs.getD i 0 : Nat) : Int)))

theorem Reads.at {k : IntKind} {w : World} {a : Option Addr} {len : Nat} {xs : List Nat} (h : Reads k w a len xs) {i : Nat} (hi : i < len) :
    ∃ b off, a = some ⟨b, off, none⟩ ∧ b < w.heap.size ∧ ∀ i, i < len → w.cell? ⟨b, off + i, none⟩ = some (.int k ((xs.getD i 0 : Nat) : Int)) := by
  rcases h.2 with h | h
  · omega
  · exact h
theorem Reads.below {k : IntKind} {w w' : World} {a : Option Addr} {len : Nat} {xs : List Nat} (h : Reads k w a len xs) (hb : Below w.heap.size w w') : Reads k w' a len xs := by
  refine ⟨h.1, ?_⟩
  rcases h.2 with h | ⟨b, off, ha, hlt, hc⟩
  · exact .inl h
  · exact .inr ⟨b, off, ha, Nat.lt_of_lt_of_le hlt hb.size, fun i hi => by rw [hb.cell (p := ⟨b, off + i, none⟩) hlt]; exact hc i hi⟩
theorem Reads.drewN {k : IntKind} {w : World} {a : Option Addr} {len : Nat} {xs : List Nat} (h : Reads k w a len xs) (n : Nat) : Reads k (w.drewN n) a len xs :=
  h.below (below_drewN (Below.refl _ _) n)
theorem Reads.nil {k : IntKind} {w : World} {a : Option Addr} : Reads k w a 0 [] := ⟨rfl, .inl rfl⟩

/-- what the call itself made reads so -/
theorem Reads.own {k : IntKind} {w : World} {base e n : Nat} {a : Option Addr} {cap : Nat} {xs : List Nat} (h : w.ownsRow base e 1 (.slice a n cap) n (xs.map fun x : Nat => Value.int k (x : Int))) :
    Reads k w a n xs := by
  obtain ⟨hl, hr⟩ := h
  simp at hl
  refine ⟨hl, ?_⟩
  rcases hr with ⟨hv, h0⟩ | ⟨g, cap', cur, hv, _, hg, _, _, _, htake⟩
  · exact .inl h0
  · cases hv
    refine .inr ⟨g, 0, rfl, (Array.getElem?_eq_some_iff.1 hg).1, fun i hi => ?_⟩
    rw [Nat.zero_add, cell_of_row w g i cur e (0, 0) hg]
    have h2 : (cur.toList.take (n * 1))[i]? = ((xs.map fun x : Nat => Value.int k (x : Int)))[i]? := by rw [htake]
    rw [List.getElem?_take, if_pos (by omega), List.getElem?_map] at h2
    rw [Array.getElem?_toList] at h2
    rw [h2, List.getD_eq_getElem?_getD, List.getElem?_eq_getElem (by omega)]
    simp

/-- a list of n numbers whose first k are filled by f, the others 0 -/
def upTo (f : Nat → Nat) (k n : Nat) : List Nat := (List.range n).map fun i => if i < k then f i else 0
theorem upTo_zero (f : Nat → Nat) (n : Nat) : upTo f 0 n = List.replicate n 0 := by
  apply List.ext_getElem?
  intro j
  unfold upTo
  by_cases hj : j < n <;> simp [hj]
theorem upTo_all (f : Nat → Nat) (n : Nat) : upTo f n n = (List.range n).map f := by
  unfold upTo
  apply List.map_congr_left
  intro i hi
  rw [if_pos (List.mem_range.1 hi)]
theorem upTo_set (f : Nat → Nat) (k n : Nat) (hk : k < n) : (upTo f k n).set k (f k) = upTo f (k + 1) n := by
  apply List.ext_getElem?
  intro j
  unfold upTo
  rw [List.getElem?_set]
  by_cases hj : j < n
  · by_cases h : k = j
    · subst h; simp [hj]
    · rw [if_neg h, List.getElem?_map, List.getElem?_map, List.getElem?_range hj]
      have e : j < k + 1 ↔ j < k := by omega
      simp [e]
  · rw [if_neg (by omega)]; simp [hj]
end Go.Proofs.YtphifanacehppaaGreat
/- Contracts of bits.OnesCount32 and of Ones of layer 1 (word), for every 32-bit argument. -/
namespace Go.Proofs.YtphifanacehppaaGreat.word
open Go.RowKit
set_option linter.unusedVariables false

/-- how many of the lowest k bits of x are 1 -/
def onesN : Nat → Nat → Nat
  | 0, _ => 0
  | k + 1, x => x % 2 + onesN k (x / 2)
theorem onesN_le (k x : Nat) : onesN k x ≤ k := by
  induction k generalizing x with
  | zero => simp [onesN]
  | succ k ih => have := ih (x / 2); simp only [onesN]; omega
theorem onesN_add (a b x : Nat) : onesN (a + b) x = onesN a x + onesN b (x / 2 ^ a) := by
  induction a generalizing x with
  | zero => simp [onesN]
  | succ a ih =>
    rw [show a + 1 + b = (a + b) + 1 from by omega]
    simp only [onesN, ih]
    rw [Nat.div_div_eq_div_mul, show 2 * 2 ^ a = 2 ^ (a + 1) from by rw [Nat.pow_succ, Nat.mul_comm]]
    omega
theorem onesN_mod (k x : Nat) : onesN k (x % 2 ^ k) = onesN k x := by
  induction k generalizing x with
  | zero => simp [onesN]
  | succ k ih =>
    simp only [onesN]
    rw [← ih (x / 2), show x % 2 ^ (k + 1) % 2 = x % 2 from by rw [Nat.pow_succ, Nat.mul_comm]; exact Nat.mod_mul_right_mod ..,
      show x % 2 ^ (k + 1) / 2 = x / 2 % 2 ^ k from by rw [Nat.pow_succ, Nat.mul_comm, Nat.mod_mul_right_div_self]]
/-- how many bits of a 32-bit word are 1 -/
def ones (x : Nat) : Nat := onesN 32 x
theorem ones_le (x : Nat) : ones x ≤ 32 := onesN_le 32 x
theorem ones_bytes (x : Nat) (hx : x < 4294967296) : ones x = onesN 8 (x / 16777216) + onesN 8 (x / 65536 % 256) + onesN 8 (x / 256 % 256) + onesN 8 (x % 256) := by
  have h1 := onesN_add 8 24 x
  have h2 := onesN_add 8 16 (x / 2 ^ 8)
  have h3 := onesN_add 8 8 (x / 2 ^ 8 / 2 ^ 8)
  have m0 := onesN_mod 8 x
  have m1 := onesN_mod 8 (x / 256)
  have m2 := onesN_mod 8 (x / 65536)
  rw [Nat.div_div_eq_div_mul] at h2 h3
  rw [Nat.div_div_eq_div_mul] at h3
  simp only [Nat.reducePow, Nat.reduceMul, Nat.reduceAdd] at h1 h2 h3 m0 m1 m2
  unfold ones
  omega
set_option maxRecDepth 1000000 in
theorem pop_any (x : Nat) (hx : x < 4294967296) (w : World) :
    Calls Tryz.prog 121 #[.int .u32 x] w (Quiet (.int .i64 (ones x)) w) := by
  have a1 := u32_and_nat (x / 65536) 255 (by omega) (by omega)
  have a2 := u32_and_nat (x / 256) 255 (by omega) (by omega)
  have a3 := u32_and_nat x 255 (by omega) (by omega)
  have e1 : x / 65536 &&& 255 = x / 65536 % 256 := Nat.and_two_pow_sub_one_eq_mod (x / 65536) 8
  have e2 : x / 256 &&& 255 = x / 256 % 256 := Nat.and_two_pow_sub_one_eq_mod (x / 256) 8
  have e3 : x &&& 255 = x % 256 := Nat.and_two_pow_sub_one_eq_mod x 8
  rw [e1] at a1
  rw [e2] at a2
  rw [e3] at a3
  clear e1 e2 e3
  simp only [Int.natCast_ediv, Int.natCast_emod, Int.cast_ofNat_Int] at a1 a2 a3
  go_enter Tryz.func121, Tryz.ntmps121
  go_wp2
  generalize hT : ByteArray.mk _ = T
  have hs : T.size = 256 := by rw [← hT]; decide +kernel
  have ht0 : ∀ i : Fin 256, (T.data.getD i.val 0).toNat = onesN 8 i.val := by rw [← hT]; decide +kernel
  have ht : ∀ (i : Nat) (h : i < T.size), i < 256 → (T[i]'h).toNat = onesN 8 i := fun i h hi => by
    rw [← ht0 ⟨i, hi⟩]
    have h' : i < T.data.size := h
    simp only [Array.getD, h', dif_pos]
    rfl
  have i1 : (x : Int) / 16777216 < T.size := by omega
  have i2 : (x : Int) / 65536 % 256 < T.size := by omega
  have i3 : (x : Int) / 256 % 256 < T.size := by omega
  have i4 : (x : Int) % 256 < T.size := by omega
  have j1 : 0 ≤ (x : Int) / 16777216 := by omega
  have j2 : 0 ≤ (x : Int) / 65536 % 256 := by omega
  have j3 : 0 ≤ (x : Int) / 256 % 256 := by omega
  have j4 : 0 ≤ (x : Int) % 256 := by omega
  have HT := hid ht
  have HS := hid hs
  clear hT hs ht ht0
  go_quiet (fail)
  go_wp2
  go_ret
  have b1 := HT.out (x / 16777216) (by omega) (by omega)
  have b2 := HT.out (x / 65536 % 256) (by omega) (by omega)
  have b3 := HT.out (x / 256 % 256) (by omega) (by omega)
  have b4 := HT.out (x % 256) (by omega) (by omega)
  refine ⟨ret_int ?_, nq, rfl⟩
  rw [b1, b2, b3, b4, ones_bytes x hx]
  have := onesN_le 8 (x / 16777216)
  have := onesN_le 8 (x / 65536 % 256)
  have := onesN_le 8 (x / 256 % 256)
  have := onesN_le 8 (x % 256)
  omega
theorem ones_any (x : Nat) (hx : x < 4294967296) (w : World) :
    Calls Tryz.prog 119 #[.int .u32 x] w (Quiet (.int .i64 (ones x)) w) := by
  go_enter Tryz.func119, Tryz.ntmps119
  go_wp2_with (go_at_call 121; refine (pop_any x hx _).mono ?_; rintro e w' ⟨rfl, n, rfl⟩)
  go_ret
  exact ⟨rfl, n, rfl⟩
end Go.Proofs.YtphifanacehppaaGreat.word
/- What the arguments of a law read as: slices of unsigned integers. No condition. -/
namespace Go.Proofs.YtphifanacehppaaGreat
open Go.ChangeShapes Go.WideShapes Go.ChangeAt Go.RowKit
open Go.ChangeMaps (open_string shut_string)

theorem own : ownKnob Tryz.prog.godebug = none := by kernel_rfl
theorem laidOut : laidOutB Tryz.prog = true := by kernel_rfl

/-- it returns true, and nothing that was there has turned -/
def Yes (w : World) (e : Ending) (w' : World) : Prop := e = .returned (.bool true) ∧ Below w.heap.size w w'

theorem wf_u8 (n : Int) (h : (Lit.int .u8 n).wf = true) : 0 ≤ n ∧ n < 256 := by
  simp [Lit.wf, IntKind.min, IntKind.max, IntKind.signed, IntKind.bits] at h; omega
theorem wf_u32 (n : Int) (h : (Lit.int .u32 n).wf = true) : 0 ≤ n ∧ n < 4294967296 := by
  simp [Lit.wf, IntKind.min, IntKind.max, IntKind.signed, IntKind.bits] at h; omega
theorem wf_u64 (n : Int) (h : (Lit.int .u64 n).wf = true) : 0 ≤ n ∧ n < 18446744073709551616 := by
  simp [Lit.wf, IntKind.min, IntKind.max, IntKind.signed, IntKind.bits] at h; omega
theorem wf_i64 (n : Int) (h : (Lit.int .i64 n).wf = true) : -9223372036854775808 ≤ n ∧ n ≤ 9223372036854775807 := by
  simp [Lit.wf, IntKind.min, IntKind.max, IntKind.signed, IntKind.bits] at h; omega

theorem open_uints {H : Type} {enc : TypeId × Value → H} {P : Program} {W : World} {t e : TypeId} {k : IntKind} {M bytes : Nat} {a : Option Addr} {len cap : Nat} {d : DataW H} {p : List MemPlace} {ts : List TypeId} {ds : List (DataW H)} {j : Nat}
    (ht : P.underlying t = some (.slice e)) (he : P.underlying e = some (.int k)) (hc : P.cellsOf e = 1) (hby : P.bytesOf e = bytes)
    (hM : ∀ n : Int, (Lit.int k n).wf = true → 0 ≤ n ∧ n < M)
    (h0 : DataW.Trod enc P W 0 (fun _ => true) true t (.slice a len cap) d p)
    (hsz : (DataW.weightsEach P ts ds).all (· ≤ reachBytes) = true) (hts : ts[j]? = some t) (hds : ds[j]? = some d) :
    ∃ xs : List Nat, Reads k W a len xs ∧ (∀ x ∈ xs, x < M) ∧ len ≤ cap ∧ cap * bytes ≤ 140737488351232 := by
  have h0' := h0
  obtain ⟨fuel, hf⟩ := h0
  rcases open_ints ht he hc hf with ⟨hcs, _⟩ | ⟨x, l, c, zs, hcs, _, hl, hm, hz, hx, hcell, hwz⟩
  · simp [Value.cells] at hcs
    obtain ⟨rfl, rfl, rfl⟩ := hcs
    exact ⟨[], Reads.nil, by simp, Nat.le_refl _, by omega⟩
  · simp [Value.cells] at hcs
    obtain ⟨rfl, rfl, rfl⟩ := hcs
    simp only [if_true] at hz
    have hd : d = .slice (lits k (zs.take len)) (lits k (zs.drop len)) := by
      have := congrArg Prod.fst hx
      simpa using this
    have hs := sized_slice hsz hts (by rw [hds, hd]) ht
    rw [hby] at hs
    simp only [lits, List.length_map, List.length_take, List.length_drop, reachBytes, hz] at hs
    rw [show min len cap + (cap - len) = cap from by omega] at hs
    have hlt := h0'
    refine ⟨(zs.take len).map Int.toNat, ⟨by simp; omega, ?_⟩, ?_, hl, by simpa using hs⟩
    · by_cases h : len = 0
      · exact .inl h
      · right
        obtain ⟨b, off, spot⟩ := x
        have hspot : spot = none := by simpa [Addr.add] using World.cell?_spot (hcell 0 (by omega))
        subst hspot
        have hb : b < W.heap.size := by
          have := World.block_lt_of_cell? W _ (hcell 0 (by omega))
          simpa [Addr.add] using this
        refine ⟨b, off, rfl, hb, fun i hi => ?_⟩
        have h1 := hcell i (by omega)
        rw [Addr.add_lit] at h1
        rw [h1]
        have hi' : i < zs.length := by omega
        have hn : 0 ≤ zs[i] := (hM _ (hwz _ (List.getElem_mem hi'))).1
        simp [List.getD, hi, hi']
        omega
    · intro y hy
      obtain ⟨z, hz', rfl⟩ := List.mem_map.1 hy
      have := hM z (hwz z (List.mem_of_mem_take hz'))
      omega

/-- a slice that came in: nil has no room, and its reading holds as many values as it has places -/
theorem open_room {H : Type} {enc : TypeId × Value → H} {P : Program} {W : World} {t e : TypeId} {k : IntKind} {a : Option Addr} {len cap : Nat} {d : DataW H} {p : List MemPlace}
    (ht : P.underlying t = some (.slice e)) (he : P.underlying e = some (.int k)) (hc : P.cellsOf e = 1)
    (h0 : DataW.Trod enc P W 0 (fun _ => true) true t (.slice a len cap) d p) :
    (a = none → cap = 0) ∧ (cap = 0 ∨ ∃ es sp, d = .slice es sp ∧ es.length + sp.length = cap) := by
  obtain ⟨fuel, hf⟩ := h0
  rcases open_ints ht he hc hf with ⟨hcs, _⟩ | ⟨x, l, c, zs, hcs, _, hl, hm, hz, hx, hcell, hwz⟩
  · simp [Value.cells] at hcs
    obtain ⟨rfl, rfl, rfl⟩ := hcs
    exact ⟨fun _ => rfl, .inl rfl⟩
  · simp [Value.cells] at hcs
    obtain ⟨rfl, rfl, rfl⟩ := hcs
    simp only [if_true] at hz
    have hd : d = .slice (lits k (zs.take len)) (lits k (zs.drop len)) := by
      have := congrArg Prod.fst hx
      simpa using this
    exact ⟨fun h => (by cases h), .inr ⟨_, _, hd, by simp [lits, hz]; omega⟩⟩

theorem bulk_one {H : Type} (d : DataW H) : 1 ≤ Rows.uptoBulk d := by
  cases d with
  | lit l => cases l <;> simp [Rows.uptoBulk]
  | _ => simp [Rows.uptoBulk]
theorem bulk_len {H : Type} : ∀ l : List (DataW H), l.length ≤ Rows.uptoBulkAll l
  | [] => by simp [Rows.uptoBulkAll]
  | d :: l => by have := bulk_one d; have := bulk_len l; simp only [Rows.uptoBulkAll, List.length_cons]; omega
theorem bulk_at {H : Type} {d : DataW H} : ∀ {l : List (DataW H)} {j : Nat}, l[j]? = some d → Rows.uptoBulk d ≤ Rows.uptoBulkAll l
  | [], j, h => by simp at h
  | x :: l, 0, h => by simp at h; subst h; simp only [Rows.uptoBulkAll]; omega
  | x :: l, j + 1, h => by have := bulk_at (l := l) (j := j) (by simpa using h); simp only [Rows.uptoBulkAll]; omega
/-- the bound on what came in bounds each slice -/
theorem small_cap {H : Type} {ds : List (DataW H)} {d : DataW H} {j cap : Nat} (hk : Rows.uptoSmall H ds = true) (hd : ds[j]? = some d) (hr : cap = 0 ∨ ∃ es sp, d = .slice es sp ∧ es.length + sp.length = cap) : cap ≤ 1048576 := by
  have h : Rows.uptoBulkAll ds ≤ 1048576 := of_decide_eq_true hk
  rcases hr with h0 | ⟨es, sp, rfl, hl⟩
  · omega
  · have h1 := bulk_at hd
    have h2 := bulk_len es
    have h3 := bulk_len sp
    simp only [Rows.uptoBulk] at h1
    omega

theorem ownsRow_slice {w : World} {base e size n : Nat} {v : Value} {xs : List Value} (h : w.ownsRow base e size v n xs) : ∃ a cap, v = .slice a n cap ∧ n ≤ cap := by
  rcases h.2 with ⟨hv, h0⟩ | ⟨g, cap, cur, hv, hb, hg, h1, h2, _⟩
  · exact ⟨none, 0, by rw [hv, h0], by omega⟩
  · exact ⟨_, cap, hv, h1⟩
/-- the text of a list of bytes -/
def strOf (xs : List Nat) : ByteArray := strOfNums (xs.map fun x : Nat => (x : Int))
theorem Reads.str {P : Program} {w : World} {a : Option Addr} {len : Nat} {xs : List Nat} (h : Reads .u8 w a len xs) (src e : TypeId) (hs : P.underlying src = some (.slice e)) (he : P.underlying e = some (.int .u8)) (cap : Nat) :
    ∀ dst, P.underlying dst = some .string → (convert src dst (.slice a len cap)).run P w = .ok (.string (strOf xs)) w := by
  intro dst hd
  by_cases h0 : len = 0
  · subst h0
    obtain rfl : xs = [] := List.eq_nil_of_length_eq_zero h.1
    cases a with
    | none => exact run_convert_bytes_nil w src e hs he 0 cap dst hd
    | some x =>
      rw [run_convert_bytes_string w src dst e _ 0 cap hs he hd]
      exact run_bytesToString w x 0 cap [] (by simpa using run_loadCells_list (P := P) w x [] (fun j v hj => by simp at hj))
  · obtain ⟨b, off, rfl, _, hc⟩ := h.at (i := 0) (by omega)
    refine run_convert_bytes_arg w src e hs he b off len cap _ (by simpa using h.1) (fun i hi => ?_) dst hd
    rw [hc i hi]
    have : i < xs.length := by rw [h.1]; exact hi
    simp [List.getD, this]

theorem ownsRow_prefix {w : World} {base e n m cap : Nat} {a : Option Addr} {xs : List Value} (h : w.ownsRow base e 1 (.slice a n cap) n xs) (hm : m ≤ n) : w.ownsRow base e 1 (.slice a m cap) m (xs.take m) := by
  have hl := h.1
  rcases h.2 with ⟨hv, h0⟩ | ⟨g, cap', cur, hv, hb, hg, h1, h2, h3, h4⟩
  · cases hv
    obtain rfl : m = 0 := by omega
    exact World.ownsRow_nil _ _ _ _
  · cases hv
    refine ⟨by simp; omega, .inr ⟨g, cap, cur, rfl, hb, hg, by omega, h2, h3, ?_⟩⟩
    rw [← h4, List.take_take, show min m (n * 1) = m * 1 from by omega]

/-- the cells of a block that has just been made -/
theorem cells_new (w : World) (e : TypeId) (vs : List Value) : ∀ (j : Nat) (u : Value), vs[j]? = some u → (w.alloc (.cells vs.toArray e)).cell? ((⟨w.heap.size, 0, none⟩ : Addr).add j) = some u := by
  intro j u h
  rw [Addr.add_lit, Nat.zero_add, World.cell?_alloc_new]
  simpa using h
theorem one_new (w : World) (e : TypeId) (v : Value) : ∀ (j : Nat) (u : Value), [v][j]? = some u → (w.alloc (.cells #[v] e)).cell? ((⟨w.heap.size, 0, none⟩ : Addr).add j) = some u :=
  cells_new w e [v]
theorem one_cell {v : Value} (h : v.oneCell' = true) : ∀ u ∈ [v], u.oneCell' = true := by
  intro u hu; rw [List.mem_singleton] at hu; rw [hu]; exact h

theorem ownsRow_form {w : World} {base e size n : Nat} {v : Value} {xs : List Value} (h : w.ownsRow base e size v n xs) (hn : 0 < n) :
    ∃ g cap, v = .slice (some ⟨g, 0, none⟩) n cap ∧ base ≤ g ∧ g < w.heap.size ∧ n ≤ cap ∧ cap ≤ maxLen := by
  rcases h.2 with ⟨_, h0⟩ | ⟨g, cap, cur, hv, hb, hg, h1, h2, _⟩
  · omega
  · exact ⟨g, cap, hv, hb, (Array.getElem?_eq_some_iff.1 hg).1, h1, h2⟩
end Go.Proofs.YtphifanacehppaaGreat
/- Contracts of count, Sum and Right of layer 2 (zeros), for every slice of words of at most 2^45 words. -/
namespace Go.Proofs.YtphifanacehppaaGreat.zeros
open Go.RowKit Go.Proofs.YtphifanacehppaaGreat.word
set_option linter.unusedVariables false

/-- how many bits of the words are 0 -/
def zcount : List Nat → Nat
  | [] => 0
  | x :: r => (32 - ones x) + zcount r
theorem zcount_append (a b : List Nat) : zcount (a ++ b) = zcount a + zcount b := by
  induction a with
  | nil => simp [zcount]
  | cons x a ih => simp only [List.cons_append, zcount, ih]; omega
theorem zcount_le (a : List Nat) : zcount a ≤ 32 * a.length := by
  induction a with
  | nil => simp [zcount]
  | cons x a ih => simp only [zcount, List.length_cons]; omega
theorem take_snoc (xs : List Nat) (k : Nat) (h : k < xs.length) : xs.take (k + 1) = xs.take k ++ [xs.getD k 0] := by
  rw [List.take_succ_eq_append_getElem h, List.getD_eq_getElem?_getD, List.getElem?_eq_getElem h]; rfl
theorem zcount_snoc (xs : List Nat) (k : Nat) (h : k < xs.length) : zcount (xs.take (k + 1)) = zcount (xs.take k) + (32 - ones (xs.getD k 0)) := by
  rw [take_snoc xs k h, zcount_append]; simp [zcount]
theorem onesN_compl (k x : Nat) (h : x < 2 ^ k) : onesN k (2 ^ k - 1 - x) = k - onesN k x := by
  induction k generalizing x with
  | zero => simp [onesN]
  | succ k ih =>
    have hk : x / 2 < 2 ^ k := by rw [Nat.pow_succ] at h; omega
    have h1 := ih (x / 2) hk
    have h2 := onesN_le k (x / 2)
    have e1 : (2 ^ (k + 1) - 1 - x) % 2 = 1 - x % 2 := by rw [Nat.pow_succ] at h ⊢; omega
    have e2 : (2 ^ (k + 1) - 1 - x) / 2 = 2 ^ k - 1 - x / 2 := by rw [Nat.pow_succ] at h ⊢; omega
    simp only [onesN, e1, e2, h1]
    omega
theorem ones_compl (x : Nat) (h : x < 4294967296) : ones (4294967295 - x) = 32 - ones x := onesN_compl 32 x h
theorem u32_not_nat (x : Nat) (h : x < 4294967296) : bits .xor .u32 IntKind.u32.max (x : Int) = ((4294967295 - x : Nat) : Int) := by
  have h1 := u32_xor_nat 4294967295 x (by decide) h
  have h2 : 4294967295 ^^^ x = 4294967295 - x := by
    apply Nat.eq_of_testBit_eq
    intro i
    rw [Nat.testBit_xor, show 4294967295 = 2 ^ 32 - 1 from rfl, Nat.testBit_two_pow_sub_one, show 2 ^ 32 - 1 - x = 2 ^ 32 - (x + 1) from by omega, Nat.testBit_two_pow_sub_succ (n := 32) h]
    by_cases hi : i < 32
    · simp [hi]
    · have : x < 2 ^ i := Nat.lt_of_lt_of_le h (Nat.pow_le_pow_right (n := 2) (by decide) (by omega : 32 ≤ i))
      simp [hi, Nat.testBit_lt_two_pow this]
  rw [h2] at h1
  exact h1

theorem getD32_lt (xs : List Nat) (hx : ∀ x ∈ xs, x < 4294967296) (i : Nat) : xs.getD i 0 < 4294967296 := by
  rw [List.getD_eq_getElem?_getD]
  by_cases h : i < xs.length
  · rw [List.getElem?_eq_getElem h]; exact hx _ (List.getElem_mem _)
  · rw [List.getElem?_eq_none (by omega)]; decide
set_option maxHeartbeats 1600000 in
theorem count_any (a : Option Addr) (len cap : Nat) (xs : List Nat) (w : World) (hr : Reads .u32 w a len xs) (hx : ∀ x ∈ xs, x < 4294967296) (hl : len ≤ 35184372088832) :
    Calls Tryz.prog 112 #[.slice a len cap] w (Quiet (.int .u64 (zcount xs)) w) := by
  have hlen := hr.1
  go_enter Tryz.func112, Tryz.ntmps112
  go_wp2
  go_loopw [3, 8] (fun n i wr => ∃ k : Nat, k ≤ len ∧ i = .int .i64 k ∧ n = .int .u64 (zcount (xs.take k)) ∧ ∃ m, wr = w.drewN m) (fun _ i _ => len - (intOf i).toNat)
  case atStart => exact ⟨0, Nat.zero_le _, rfl, rfl, 0, rfl⟩
  case round =>
    obtain ⟨k, hk, rfl, rfl, m, rfl⟩ := hrel
    by_cases hlt : k < len
    · obtain ⟨b, off, rfl, hbs, hc⟩ := hr.at hlt
      have c1 : (w.drewN m).cell? ⟨b, off + k, none⟩ = some (.int .u32 ((xs.getD k 0 : Nat) : Int)) := hc k hlt
      have hx1 := getD32_lt xs hx k
      have HS := hid (zcount_snoc xs k (by omega))
      have hz := zcount_le (xs.take k)
      have hzl : (xs.take k).length ≤ k := List.length_take_le _ _
      have hb : zcount (xs.take k) ≤ 32 * k := by omega
      clear hc hz hzl hlen
      generalize zcount (xs.take k) = z at *
      generalize xs.getD k 0 = x1 at *
      have hn := u32_not_nat x1 hx1
      have ho := ones_le x1
      have c := fun w' => ones_any (4294967295 - x1) (by omega) w'
      rw [ones_compl x1 hx1] at c
      have hy1 : 4294967295 - x1 < 4294967296 := by omega
      generalize 4294967295 - x1 = y at *
      generalize ones x1 = o at *
      clear hx hr
      go_wp2_with (go_at_call 119; (with_reducible refine (c _).mono ?_); rintro e w' ⟨rfl, m2, rfl⟩)
      exact ⟨⟨k + 1, by omega, by go_num, congrArg (Value.int .u64) (by rw [HS.out]; omega), ⟨_, rfl⟩⟩, by simp [intOf]; omega⟩
    · obtain rfl : k = len := by omega
      go_wp2
      go_ret
      exact ⟨ret_int (by rw [List.take_of_length_le (by omega)]), _, rfl⟩
theorem sum_any (a : Option Addr) (len cap : Nat) (xs : List Nat) (w : World) (hr : Reads .u32 w a len xs) (hx : ∀ x ∈ xs, x < 4294967296) (hl : len ≤ 35184372088832) :
    Calls Tryz.prog 120 #[.slice a len cap] w (Quiet (.int .u32 (zcount xs % 4294967296 : Nat)) w) := by
  have c := fun w' (h : Reads .u32 w' a len xs) => count_any a len cap xs w' h hx hl
  have hz := zcount_le xs
  have hlen := hr.1
  have hb : zcount xs ≤ 1125899906842624 := by omega
  clear hz
  generalize zcount xs = z at *
  go_enter Tryz.func120, Tryz.ntmps120
  go_wp2_with (go_at_call 112; refine (c _ hr).mono ?_; rintro e w' ⟨rfl, m2, rfl⟩)
  go_ret
  exact ⟨ret_int (by omega), _, rfl⟩

/-- is the last word the number of zero bits of the words before it? -/
def rightB (xs : List Nat) : Bool := decide (xs.length ≠ 0) && (xs.getD (xs.length - 1) 0 == zcount (xs.take (xs.length - 1)))
theorem right_zero (a : Option Addr) (cap : Nat) (w : World) :
    Calls Tryz.prog 93 #[.slice a 0 cap] w (Quiet (.bool false) w) := by
  go_enter Tryz.func93, Tryz.ntmps93
  go_wp2
  go_ret
  exact ⟨rfl, 0, rfl⟩
theorem readsTake {k : IntKind} {w : World} {a : Option Addr} {len : Nat} {xs : List Nat} (h : Reads k w a len xs) (n : Nat) (hn : n ≤ len) : Reads k w a n (xs.take n) := by
  refine ⟨by rw [List.length_take, h.1]; omega, ?_⟩
  rcases h.2 with h0 | ⟨b, off, ha, hlt, hc⟩
  · exact .inl (by omega)
  · refine .inr ⟨b, off, ha, hlt, fun i hi => ?_⟩
    rw [hc i (by omega)]
    simp only [List.getD_eq_getElem?_getD, List.getElem?_take, if_pos hi]
set_option maxHeartbeats 1600000 in
theorem right_any (a : Option Addr) (len cap : Nat) (xs : List Nat) (w : World) (hr : Reads .u32 w a len xs) (hx : ∀ x ∈ xs, x < 4294967296) (hl : len ≤ 35184372088832) (hlc : len ≤ cap) (hcap : cap ≤ maxLen) :
    Calls Tryz.prog 93 #[.slice a len cap] w (Quiet (.bool (rightB xs)) w) := by
  have hlen := hr.1
  unfold maxLen at hcap
  by_cases h0 : len = 0
  · subst h0
    obtain rfl : xs = [] := List.eq_nil_of_length_eq_zero hlen
    exact right_zero a cap w
  · obtain ⟨n, rfl⟩ : ∃ n, len = n + 1 := ⟨len - 1, by omega⟩
    obtain ⟨b, off, rfl, hbs, hc⟩ := hr.at (show n < n + 1 by omega)
    have c1 := hc n (by omega)
    have hx1 := getD32_lt xs hx n
    have hp := readsTake hr n (by omega)
    have c := fun w' (h : Reads .u32 w' (some ⟨b, off, none⟩) n (xs.take n)) => count_any (some ⟨b, off, none⟩) n cap (xs.take n) w' h (fun x h => hx x (List.mem_of_mem_take h)) (by omega)
    have hz := zcount_le (xs.take n)
    have hR : rightB xs = (xs.getD n 0 == zcount (xs.take n)) := by unfold rightB; rw [hlen]; simp
    rw [hR]
    have hbz : zcount (xs.take n) ≤ 1125899906842624 := by rw [hp.1] at hz; omega
    clear hR hz hc
    generalize zcount (xs.take n) = z at *
    generalize xs.getD n 0 = x1 at *
    go_enter Tryz.func93, Tryz.ntmps93
    go_wp2
    go_quiet ((go_at_call 112; exact quietAt (c _ hp)))
    go_wp2
    go_ret
    exact ⟨ret_bool (by rw [Bool.eq_iff_iff]; simp; omega), nq, rfl⟩
end Go.Proofs.YtphifanacehppaaGreat.zeros
/- Lists of words whose bits went up: their sum tells. Plain lists, no condition. -/
namespace Go.Proofs.YtphifanacehppaaGreat.zeros
open Go.RowKit Go.Proofs.YtphifanacehppaaGreat.word
set_option linter.unusedVariables false

/-- words with the bits of other words set, place by place -/
def orL : List Nat → List Nat → List Nat
  | x :: s, y :: u => (x ||| y) :: orL s u
  | s, _ => s
theorem orL_nil (s : List Nat) : orL s [] = s := by cases s <;> rfl
theorem orL_length (s u : List Nat) : (orL s u).length = s.length := by
  induction s generalizing u with
  | nil => cases u <;> rfl
  | cons x s ih => cases u with
    | nil => rfl
    | cons y u => simp [orL, ih]
theorem orL_lt (s u : List Nat) (hs : ∀ x ∈ s, x < 4294967296) (hu : ∀ x ∈ u, x < 4294967296) : ∀ x ∈ orL s u, x < 4294967296 := by
  induction s generalizing u with
  | nil => cases u <;> simp [orL]
  | cons x s ih => cases u with
    | nil => simpa [orL] using hs
    | cons y u =>
      intro z hz
      simp only [orL, List.mem_cons] at hz
      rcases hz with rfl | hz
      · exact Nat.or_lt_two_pow (n := 32) (hs x (by simp)) (hu y (by simp))
      · exact ih u (fun a h => hs a (by simp [h])) (fun a h => hu a (by simp [h])) z hz
theorem orL_getD (s u : List Nat) (k : Nat) (hk : k < s.length) : (orL s u).getD k 0 = s.getD k 0 ||| u.getD k 0 := by
  induction s generalizing u k with
  | nil => simp at hk
  | cons x s ih => cases u with
    | nil => simp [orL]
    | cons y u => cases k with
      | zero => simp [orL]
      | succ k => simpa [orL] using ih u k (by simpa using hk)
theorem orL_take_succ (s u : List Nat) (k : Nat) (hk : k < s.length) (hu : k < u.length) : orL s (u.take (k + 1)) = (orL s (u.take k)).set k (s.getD k 0 ||| u.getD k 0) := by
  induction s generalizing u k with
  | nil => simp at hk
  | cons x s ih => cases u with
    | nil => simp at hu
    | cons y u => cases k with
      | zero => simp [orL, orL_nil]
      | succ k => simpa [orL] using ih u k (by simpa using hk) (by simpa using hu)
theorem orL_take_getD (s u : List Nat) (k : Nat) (hk : k < s.length) : (orL s (u.take k)).getD k 0 = s.getD k 0 := by
  rw [orL_getD s _ k hk]
  have : (u.take k).getD k 0 = 0 := by
    rw [List.getD_eq_getElem?_getD, List.getElem?_eq_none (by simp; omega)]; rfl
  rw [this]; simp
theorem orL_take_all (s u : List Nat) (k : Nat) (hk : s.length ≤ k) : orL s (u.take k) = orL s u := by
  induction s generalizing u k with
  | nil => cases u.take k <;> cases u <;> rfl
  | cons x s ih => cases u with
    | nil => simp
    | cons y u => cases k with
      | zero => simp at hk
      | succ k => simpa [orL] using ih u k (by simpa using hk)
theorem set_eq_iff (a s : List Nat) (k v : Nat) (hk : k < s.length) (hl : a.length = s.length) (ha : a.getD k 0 = s.getD k 0) : a.set k v = s ↔ a = s ∧ v = s.getD k 0 := by
  constructor
  · intro h
    have hv : s.getD k 0 = v := by rw [← h, List.getD_eq_getElem?_getD, List.getElem?_set_self (by omega)]; rfl
    refine ⟨?_, hv.symm⟩
    rw [← h]
    apply List.ext_getElem?
    intro i
    by_cases hi : i = k
    · subst hi
      rw [List.getElem?_set_self (by omega), ← hv, ← ha, List.getD_eq_getElem?_getD, List.getElem?_eq_getElem (by omega)]; rfl
    · rw [List.getElem?_set_ne (by omega)]
  · rintro ⟨rfl, rfl⟩
    rw [List.getD_eq_getElem?_getD, List.getElem?_eq_getElem hk]
    simp
theorem onesN_or (k a u : Nat) : onesN k a ≤ onesN k (a ||| u) ∧ (onesN k (a ||| u) = onesN k a → (a ||| u) % 2 ^ k = a % 2 ^ k) := by
  induction k generalizing a u with
  | zero => simp [onesN, Nat.mod_one]
  | succ k ih =>
    have h1 : (a ||| u) % 2 = a % 2 ||| u % 2 := Nat.or_mod_two_pow (n := 1)
    have h2 : (a ||| u) / 2 = a / 2 ||| u / 2 := Nat.or_div_two_pow (n := 1)
    have h3 : a % 2 ≤ a % 2 ||| u % 2 := Nat.left_le_or
    obtain ⟨i1, i2⟩ := ih (a / 2) (u / 2)
    have e1 : (a ||| u) % 2 ^ (k + 1) = (a ||| u) % 2 + 2 * ((a ||| u) / 2 % 2 ^ k) := by
      rw [Nat.pow_succ, Nat.mul_comm (2 ^ k) 2]; exact Nat.mod_mul
    have e2 : a % 2 ^ (k + 1) = a % 2 + 2 * (a / 2 % 2 ^ k) := by
      rw [Nat.pow_succ, Nat.mul_comm (2 ^ k) 2]; exact Nat.mod_mul
    simp only [onesN]
    rw [e1, e2, h2]
    refine ⟨by omega, fun h => ?_⟩
    rw [i2 (by omega)]
    omega
theorem ones_or (a u : Nat) (ha : a < 4294967296) (hu : u < 4294967296) : ones a ≤ ones (a ||| u) ∧ (ones (a ||| u) = ones a → a ||| u = a) := by
  obtain ⟨h1, h2⟩ := onesN_or 32 a u
  refine ⟨h1, fun h => ?_⟩
  have h3 := h2 h
  rwa [Nat.mod_eq_of_lt (Nat.or_lt_two_pow (n := 32) ha hu), Nat.mod_eq_of_lt ha] at h3
theorem zcount_or (s u : List Nat) (hs : ∀ x ∈ s, x < 4294967296) (hu : ∀ x ∈ u, x < 4294967296) : zcount (orL s u) ≤ zcount s ∧ (zcount (orL s u) = zcount s → orL s u = s) := by
  induction s generalizing u with
  | nil => cases u <;> simp [orL]
  | cons x s ih => cases u with
    | nil => simp [orL]
    | cons y u =>
      obtain ⟨i1, i2⟩ := ih u (fun a h => hs a (by simp [h])) (fun a h => hu a (by simp [h]))
      obtain ⟨o1, o2⟩ := ones_or x y (hs x (by simp)) (hu y (by simp))
      have l1 := ones_le x
      have l2 := ones_le (x ||| y)
      simp only [orL, zcount]
      refine ⟨by omega, fun h => ?_⟩
      rw [i2 (by omega), o2 (by omega)]
theorem orL_snoc (s : List Nat) (z : Nat) (u : List Nat) : orL (s ++ [z]) u = orL s u ++ [z ||| u.getD s.length 0] := by
  induction s generalizing u with
  | nil => cases u with
    | nil => simp [orL]
    | cons y u => cases u <;> simp [orL]
  | cons x s ih => cases u with
    | nil => simp [orL]
    | cons y u => simp [orL, ih]
theorem rightB_snoc (s : List Nat) (z : Nat) : rightB (s ++ [z]) = (z == zcount s) := by
  unfold rightB
  simp [List.getD_eq_getElem?_getD]
/-- sealed words whose bits went up are right only if none did -/
theorem sure (xs u : List Nat) (hs : ∀ x ∈ xs, x < 4294967296) (hu : ∀ x ∈ u, x < 4294967296) :
    rightB (orL (xs ++ [zcount xs]) u) = decide (orL (xs ++ [zcount xs]) u = xs ++ [zcount xs]) := by
  rw [orL_snoc, rightB_snoc, Bool.eq_iff_iff]
  obtain ⟨z1, z2⟩ := zcount_or xs u hs hu
  have l : zcount xs ≤ zcount xs ||| u.getD xs.length 0 := Nat.left_le_or
  generalize zcount xs ||| u.getD xs.length 0 = y at *
  simp only [beq_iff_eq, decide_eq_true_eq]
  constructor
  · intro h
    rw [z2 (by omega), show y = zcount xs by omega]
  · intro h
    obtain ⟨h1, h2⟩ := List.append_inj h (by rw [orL_length])
    simp only [List.cons.injEq, and_true] at h2
    rw [h1, h2]
end Go.Proofs.YtphifanacehppaaGreat.zeros
/- Contracts of twin, Twin and Told of layer 2 (zeros) and of the reference's Twin and Told. -/
namespace Go.Proofs.YtphifanacehppaaGreat.zeros
open Go.RowKit
set_option linter.unusedVariables false

/-- the number in the lower half, its complement in the upper one -/
def twinN (n : Nat) : Nat := (65535 - n) * 65536 + n
theorem u16_not_nat (x : Nat) (h : x < 65536) : bits .xor .u16 IntKind.u16.max (x : Int) = ((65535 - x : Nat) : Int) := by
  have h1 := u16_xor_nat 65535 x (by decide) h
  have h2 : 65535 ^^^ x = 65535 - x := by
    apply Nat.eq_of_testBit_eq
    intro i
    rw [Nat.testBit_xor, show 65535 = 2 ^ 16 - 1 from rfl, Nat.testBit_two_pow_sub_one, show 2 ^ 16 - 1 - x = 2 ^ 16 - (x + 1) from by omega, Nat.testBit_two_pow_sub_succ (n := 16) h]
    by_cases hi : i < 16
    · simp [hi]
    · have : x < 2 ^ i := Nat.lt_of_lt_of_le h (Nat.pow_le_pow_right (n := 2) (by decide) (by omega : 16 ≤ i))
      simp [hi, Nat.testBit_lt_two_pow this]
  rw [h2] at h1
  exact h1
theorem twin_any (n : Nat) (hn : n < 65536) (w : World) :
    Calls Tryz.prog 118 #[.int .u16 n] w (Quiet (.int .u32 (twinN n)) w) := by
  have hx := u16_not_nat n hn
  have hy : 65535 - n < 65536 := by omega
  have ho := u32_or_nat ((65535 - n) * 65536) n (by omega) (by omega)
  have hj := nat_join 16 ((65535 - n) * 65536) n (by omega) (by omega)
  have HT : Hid (twinN n = (65535 - n) * 65536 + n) := rfl
  rw [hj] at ho
  clear hj
  generalize 65535 - n = y at *
  generalize twinN n = t at *
  have HO := hid ho
  clear ho
  go_enter Tryz.func118, Tryz.ntmps118
  go_wp2
  go_ret
  refine ⟨ret_int ?_, 0, rfl⟩
  have e : (y : Int) % 4294967296 * 65536 % 4294967296 = ((y * 65536 : Nat) : Int) := by omega
  rw [e, HO.out, HT.out]
theorem twinN_lt (n : Nat) (h : n < 65536) : twinN n < 4294967296 := by unfold twinN; omega
theorem twin_yes (n : Nat) (hn : n < 65536) (w : World) :
    Calls Tryz.prog 113 #[.int .i64 n] w (Quiet (.tuple #[.int .u32 (twinN n), .int .i64 0]) w) := by
  have c := fun w' => twin_any n hn w'
  generalize twinN n = t at *
  go_enter Tryz.func113, Tryz.ntmps113
  go_wp2_with (go_at_call 118; (with_reducible refine (c _).mono ?_); rintro e w' ⟨rfl, m2, rfl⟩)
  go_ret2
  exact ⟨rfl, _, rfl⟩
theorem twin_no (n : Int) (h : n < 0 ∨ 65535 < n) (w : World) :
    Calls Tryz.prog 113 #[.int .i64 n] w (Quiet (.tuple #[.int .u32 0, .int .i64 2]) w) := by
  rcases h with h | h
  · go_enter Tryz.func113, Tryz.ntmps113
    go_wp2
    go_ret2
    exact ⟨rfl, 0, rfl⟩
  · have h' : ¬ n < 0 := by omega
    go_enter Tryz.func113, Tryz.ntmps113
    go_wp2
    go_ret2
    exact ⟨rfl, 0, rfl⟩

/-- what Told answers -/
def toldN (x : Nat) : Nat × Bool := if twinN (x % 65536) = x then (x % 65536, true) else (0, false)
def toldV (x : Nat) : Value := .tuple #[.int .i64 ((toldN x).1 : Int), .bool (toldN x).2]
theorem told_any (x : Nat) (hx : x < 4294967296) (w : World) :
    Calls Tryz.prog 111 #[.int .u32 x] w (Quiet (toldV x) w) := by
  have hw : IntKind.u16.wrap (x : Int) = ((x % 65536 : Nat) : Int) := by simp [IntKind.wrap, IntKind.bits, IntKind.signed]
  have hm : x % 65536 < 65536 := by omega
  have c := fun w' => twin_any (x % 65536) hm w'
  have ht : twinN (x % 65536) < 4294967296 := twinN_lt _ (by omega)
  unfold toldV toldN
  generalize x % 65536 = m at *
  by_cases h : twinN m = x
  · rw [if_pos h]
    rw [h] at c
    have hq : ((x : Int) != x) = false := by simp
    clear h ht
    go_enter Tryz.func111, Tryz.ntmps111
    go_wp2_with (go_at_call 118; (with_reducible refine (c _).mono ?_); rintro e w' ⟨rfl, m2, rfl⟩)
    go_ret2
    exact ⟨rfl, _, rfl⟩
  · rw [if_neg h]
    generalize twinN m = t at *
    have hq : ((x : Int) != t) = true := by rw [bne_iff_ne]; omega
    clear h ht
    go_enter Tryz.func111, Tryz.ntmps111
    go_wp2_with (go_at_call 118; (with_reducible refine (c _).mono ?_); rintro e w' ⟨rfl, m2, rfl⟩)
    go_ret2
    exact ⟨rfl, _, rfl⟩
end Go.Proofs.YtphifanacehppaaGreat.zeros
/- What Told answers for a twin, and for a twin some of whose bits went up. Plain numbers, no condition. -/
namespace Go.Proofs.YtphifanacehppaaGreat.zeros
open Go.RowKit
set_option linter.unusedVariables false
theorem told_twin (n : Nat) (h : n < 65536) : toldN (twinN n) = (n, true) := by
  have e : twinN n % 65536 = n := by unfold twinN; omega
  unfold toldN
  rw [e, if_pos rfl]
theorem told_up (n up : Nat) (h : n < 65536) (hne : twinN n ||| up ≠ twinN n) : toldN (twinN n ||| up) = (0, false) := by
  unfold toldN
  rw [if_neg]
  intro he
  apply hne
  have h1 : (twinN n ||| up) % 2 ^ 16 = twinN n % 2 ^ 16 ||| up % 2 ^ 16 := Nat.or_mod_two_pow
  have h2 : (twinN n ||| up) / 2 ^ 16 = twinN n / 2 ^ 16 ||| up / 2 ^ 16 := Nat.or_div_two_pow
  have l1 : twinN n % 2 ^ 16 ≤ twinN n % 2 ^ 16 ||| up % 2 ^ 16 := Nat.left_le_or
  have l2 : twinN n / 2 ^ 16 ≤ twinN n / 2 ^ 16 ||| up / 2 ^ 16 := Nat.left_le_or
  rw [← h1] at l1
  rw [← h2] at l2
  generalize twinN n ||| up = y at *
  unfold twinN at *
  simp only [Nat.reducePow] at *
  omega
end Go.Proofs.YtphifanacehppaaGreat.zeros
/- Contract of the reference's bit of layer 1, for every 32-bit argument. -/
namespace Go.Proofs.YtphifanacehppaaGreat.word
open Go.RowKit
set_option linter.unusedVariables false

theorem bit_any (x i : Nat) (hx : x < 4294967296) (hi : i < 64) (w : World) :
    Calls Tryz.prog 109 #[.int .u32 x, .int .i64 i] w (Quiet (.int .u32 (x / 2 ^ i % 2 : Nat)) w) := by
  go_enter Tryz.func109, Tryz.ntmps109
  go_wp2
  go_loop [0, 5] (fun v k => ∃ j : Nat, j ≤ i ∧ k = .int .i64 j ∧ v = .int .u32 (x / 2 ^ j : Nat)) (fun _ k => i - (intOf k).toNat)
  case atStart => exact ⟨0, Nat.zero_le _, rfl, by simp⟩
  case round =>
    obtain ⟨j, hj, rfl, rfl⟩ := hrel
    have hlt : x / 2 ^ j < 4294967296 := Nat.lt_of_le_of_lt (Nat.div_le_self _ _) hx
    have hdd : x / 2 ^ j / 2 = x / 2 ^ (j + 1) := by rw [Nat.div_div_eq_div_mul, Nat.pow_succ]
    have HD := hid hdd
    clear hdd
    generalize hy : x / 2 ^ j = y at *
    by_cases h : j < i
    · have HY := hid hy
      clear hy
      go_wp2
      exact ⟨⟨j + 1, by omega, by go_num, by rw [← HD.out]; simp⟩, by simp [intOf]; omega⟩
    · obtain rfl : j = i := by omega
      have HY := hid hy
      clear hy
      go_wp2
      go_ret
      exact ⟨ret_int (by rw [← HY.out]; simp), 0, rfl⟩
end Go.Proofs.YtphifanacehppaaGreat.word
/- Contract of the reference's Ones of layer 1, for every 32-bit argument. -/
namespace Go.Proofs.YtphifanacehppaaGreat.word
open Go.RowKit
set_option linter.unusedVariables false

theorem onesN_succ (k x : Nat) : onesN (k + 1) x = onesN k x + x / 2 ^ k % 2 := by
  rw [onesN_add k 1 x]; simp [onesN]
theorem refOnes_any (x : Nat) (hx : x < 4294967296) (w : World) :
    Calls Tryz.prog 117 #[.int .u32 x] w (Quiet (.int .i64 (ones x)) w) := by
  go_enter Tryz.func117, Tryz.ntmps117
  go_wp2
  go_loopw [3, 4] (fun v k wr => ∃ j : Nat, j ≤ 32 ∧ k = .int .i64 j ∧ v = .int .i64 (onesN j x) ∧ ∃ m, wr = w.drewN m) (fun _ k _ => 32 - (intOf k).toNat)
  case atStart => exact ⟨0, Nat.zero_le _, rfl, rfl, 0, rfl⟩
  case round =>
    obtain ⟨j, hj, rfl, rfl, m, rfl⟩ := hrel
    have hle := onesN_le j x
    have HS := hid (onesN_succ j x)
    by_cases h : j < 32
    · have c := fun w' => bit_any x j hx (by omega) w'
      have hb : x / 2 ^ j % 2 < 2 := Nat.mod_lt _ (by decide)
      generalize x / 2 ^ j % 2 = b at *
      generalize onesN j x = o at *
      go_wp2_with (go_at_call 109; refine (c _).mono ?_; rintro e w' ⟨rfl, m2, rfl⟩)
      exact ⟨⟨j + 1, by omega, by go_num, by rw [HS.out]; simp, ⟨_, rfl⟩⟩, by simp [intOf]; omega⟩
    · obtain rfl : j = 32 := by omega
      go_wp2
      go_ret
      exact ⟨rfl, _, rfl⟩
end Go.Proofs.YtphifanacehppaaGreat.word
/- Contracts of Seal of layer 2 (zeros) and of the reference's Sum, Seal and Right, for slices of words. -/
namespace Go.Proofs.YtphifanacehppaaGreat.zeros
open Go.RowKit Go.Proofs.YtphifanacehppaaGreat.word
set_option linter.unusedVariables false

/-- words followed by the number of their zero bits -/
def sealed (xs : List Nat) : List Nat := xs ++ [zcount xs % 4294967296]
theorem Tryzinfo34 : (Tryz.prog.info? 43).map (fun i => (i.zero, i.size, i.bytes)) = some (some (.int .u32 0), 1, 4) := by kernel_rfl
theorem Reads.cells {k : IntKind} {w : World} {a : Option Addr} {len : Nat} {xs : List Nat} (h : Reads k w a len xs) : 0 < (xs.map fun x : Nat => Value.int k (x : Int)).length → ∃ ad, a = some ad ∧ ∀ (j : Nat) (v : Value), (xs.map fun x : Nat => Value.int k (x : Int))[j]? = some v → w.cell? (ad.add j) = some v := by
  intro hp
  have hl : xs.length = len := h.1
  obtain ⟨b, off, rfl, hb, hc⟩ := h.at (i := 0) (by simp at hp; omega)
  refine ⟨_, rfl, fun j v hj => ?_⟩
  have hj' : j < xs.length := by
    have := (List.getElem?_eq_some_iff.1 hj).1
    simpa using this
  rw [Addr.add_lit, hc j (by omega)]
  rw [List.getElem?_map, List.getElem?_eq_getElem hj'] at hj
  simp only [Option.map_some, Option.some.injEq] at hj
  subst hj
  rw [List.getD_eq_getElem?_getD, List.getElem?_eq_getElem hj']; rfl
theorem ints_one (k : IntKind) (xs : List Nat) : ∀ v ∈ xs.map (fun x : Nat => Value.int k (x : Int)), v.oneCell' = true := by
  intro v hv
  obtain ⟨x, _, rfl⟩ := List.mem_map.1 hv
  rfl
set_option maxHeartbeats 1600000 in
theorem seal_any (a : Option Addr) (len cap : Nat) (xs : List Nat) (w : World) (hr : Reads .u32 w a len xs) (hx : ∀ x ∈ xs, x < 4294967296) (hl : len ≤ 35184372088832) :
    Calls Tryz.prog 114 #[.slice a len cap] w fun e w' => ∃ v, e = .returned v ∧ w'.ownsRow w.heap.size 43 1 v (len + 1) ((sealed xs).map fun x : Nat => Value.int .u32 (x : Int)) ∧ Below w.heap.size w w' := by
  obtain ⟨i0, hi, hz0, hz1, hz2⟩ := info_parts Tryzinfo34
  have hlen := hr.1
  have c := fun w' (h : Reads .u32 w' a len xs) => sum_any a len cap xs w' h hx (by omega)
  have q1 : IntKind.i64.wrap ((len : Int) + 1) = (len : Int) + 1 := IntWalk.i64_in _ (by omega)
  unfold sealed
  generalize zcount xs % 4294967296 = z at *
  have HX := hid hx
  have HL := hid hlen
  clear hx hlen
  go_enter Tryz.func114, Tryz.ntmps114
  go_wp2_with (at_make; refine wpList_make_full _ rfl _ _ 24 rfl w.heap.size 43 i0 (.int .u32 0) 1 Tryz.underlying24 hi hz0 hz1 _ _ _ _ (len + 1) rfl rfl (by simp) (by simp) (by rw [hz2]; omega) (by unfold maxLen; omega) (Nat.le_refl _) ?_)
  intro w1 hown hgrow
  rw [toList_madeCells_one] at hown
  have hb1 := (Below.refl w.heap.size w).grown hgrow (Nat.le_refl _) (fun k h => by cases h)
  have hr1 := hr.below hb1
  obtain ⟨hol, hor⟩ := hown
  rcases hor with ⟨_, h0⟩ | ⟨g, cap', cur, hv, hb, hg, h1, h2, h3, h4⟩
  · omega
  · simp only [Value.slice.injEq, Option.some.injEq, Addr.mk.injEq, and_true, true_and] at hv
    obtain ⟨rfl, rfl⟩ := hv
    have hcur : cur.toList = List.replicate (len + 1) (.int .u32 0) := by
      rw [← h4, List.take_of_length_le (by rw [Array.length_toList]; omega)]
    have hg2 : w1.heap[w.heap.size]? = some (.cells (List.replicate (len + 1) (Value.int .u32 0)).toArray 43 (0, 0)) := by rw [← hcur]; simpa using hg
    have hsz1 : (Tryz.prog.info? 43).map (·.size) = some 1 := by rw [hi]; simp [hz1]
    have hpos : 0 < (xs.map fun x : Nat => Value.int .u32 (x : Int)).length → some (⟨w.heap.size, 0, none⟩ : Addr) = some ⟨w.heap.size, 0, none⟩ ∧ ∃ ad, a = some ad ∧ ∀ j v, (xs.map fun x : Nat => Value.int .u32 (x : Int))[j]? = some v → w1.cell? (ad.add j) = some v := fun h => ⟨rfl, Reads.cells hr1 h⟩
    have hn : (xs.map fun x : Nat => Value.int .u32 (x : Int)).length = Nat.min len (len + 1) := by rw [List.length_map, HL.out]; exact (Nat.min_eq_left (by omega)).symm
    have hfit : 0 + (xs.map fun x : Nat => Value.int .u32 (x : Int)).length ≤ (List.replicate (len + 1) (Value.int .u32 0)).length := by rw [List.length_map, HL.out, List.length_replicate]; omega
    have hone := ints_one .u32 xs
    have HN := hid hn
    have HF := hid hfit
    have HO := hid hone
    have HG := hid hg2
    have HP := hid hpos
    clear hn hfit hone hg2 hpos hg hcur h4 hr1 hol hb
    go_wp2_with (with_reducible refine wpList_copy_splice rfl (.tmp 8) (.tmp 9) 24 24 rfl 43 Tryz.underlying24 hsz1 (some ⟨w.heap.size, 0, none⟩) a (len + 1) (len + 1) len cap rfl rfl w.heap.size 0 (List.replicate (len + 1) (Value.int .u32 0)) 43 HG.out (xs.map fun x : Nat => Value.int .u32 (x : Int)) HN.out HP.out HF.out HO.out w.heap.size w hb1 (Nat.le_refl _) ?_)
    intro w2 HG2 hb2
    have hr2 := hr.below hb2
    have ho2 : w2.ownsRow w.heap.size 43 1 (.slice (some ⟨w.heap.size, 0, none⟩) (len + 1) (len + 1)) (len + 1) ((xs.map fun x : Nat => Value.int .u32 (x : Int)) ++ [Value.int .u32 0]) := by
      refine ⟨by simp [HL.out], .inr ⟨w.heap.size, len + 1, _, rfl, Nat.le_refl _, HG2.out, Nat.le_refl _, h2, ?_, ?_⟩⟩
      · rw [List.size_toArray, length_splice _ _ _ HF.out]; simp
      · simp only [splice, List.take_zero, List.nil_append, Nat.zero_add]
        rw [List.length_map, HL.out, List.drop_replicate, List.take_of_length_le (by simp [HL.out])]
        simp
    have f2 := ho2.frozenAt len
    have c2 : w2.cell? ⟨w.heap.size, len, none⟩ = some (.int .u32 0) := by
      rw [ho2.cellAt len (by omega)]
      rw [List.getElem?_append_right (by simp [HL.out])]
      simp [HL.out]
    have HO2 := hid ho2
    clear ho2
    rw [HL.out]
    go_wp2_with (go_at_call 120; (with_reducible refine (c _ hr2).mono ?_); rintro e w' ⟨rfl, m2, rfl⟩)
    go_ret
    have hst := (HO2.out.drewN m2).stored len (.int .u32 (z : Int))
    have hmap : ((xs.map fun x : Nat => Value.int .u32 (x : Int)) ++ [Value.int .u32 0]).set len (.int .u32 (z : Int)) = (xs ++ [z]).map fun x : Nat => Value.int .u32 (x : Int) := by
      rw [List.set_append_right _ _ (by simp [HL.out])]
      simp [HL.out]
    rw [hmap] at hst
    exact ⟨_, rfl, hst.1, (below_drewN hb2 m2).setCell (Nat.le_refl _) _⟩
end Go.Proofs.YtphifanacehppaaGreat.zeros
/- The words of a frame, and what any words are read as. Plain lists, no condition. -/
namespace Go.Proofs.YtphifanacehppaaGreat.frame
open Go.RowKit Go.Proofs.YtphifanacehppaaGreat.word Go.Proofs.YtphifanacehppaaGreat.zeros
set_option linter.unusedVariables false

/-- may a frame have that kind, that sequence number? -/
def markB (k s : Int) : Bool := (decide (k = 1) || decide (k = 2)) && decide (1 ≤ s) && decide (s ≤ 1073741823)
def sizeN (n : Nat) : Nat := if 1 ≤ n ∧ n ≤ 56 then n + 3 else 0
theorem sizeN_le (n : Nat) : sizeN n ≤ 59 := by unfold sizeN; split <;> omega
/-- may a frame be? -/
def okB (k s : Int) (n : Nat) : Bool := markB k s && decide (1 ≤ n) && decide (n ≤ 56)
theorem markB_true {k s : Int} : markB k s = true ↔ (k = 1 ∨ k = 2) ∧ 1 ≤ s ∧ s ≤ 1073741823 := by
  simp [markB, and_assoc]
theorem okB_true {k s : Int} {n : Nat} : okB k s n = true ↔ (k = 1 ∨ k = 2) ∧ 1 ≤ s ∧ s ≤ 1073741823 ∧ 1 ≤ n ∧ n ≤ 56 := by
  simp [okB, markB, and_assoc]
/-- the words before the sum -/
def body (k s : Nat) (L : List Nat) : List Nat := twinN L.length :: (k * 1073741824 + s) :: L
def words (k s : Nat) (L : List Nat) : List Nat := body k s L ++ [zcount (body k s L)]
theorem body_length (k s : Nat) (L : List Nat) : (body k s L).length = L.length + 2 := by simp [body]
theorem words_length (k s : Nat) (L : List Nat) : (words k s L).length = L.length + 3 := by simp [words, body]
theorem zcount_body (k s : Nat) (L : List Nat) (h : L.length ≤ 56) : zcount (body k s L) ≤ 1856 := by
  have := zcount_le (body k s L)
  rw [body_length] at this
  omega
theorem sealed_body (k s : Nat) (L : List Nat) (h : L.length ≤ 56) : sealed (body k s L) = words k s L := by
  have := zcount_body k s L h
  unfold sealed words
  rw [Nat.mod_eq_of_lt (by omega)]
theorem body_lt (k s : Nat) (L : List Nat) (hk : k < 4) (hs : s < 1073741824) (hn : L.length ≤ 56) (hL : ∀ x ∈ L, x < 4294967296) : ∀ x ∈ body k s L, x < 4294967296 := by
  intro x hx
  simp only [body, List.mem_cons] at hx
  rcases hx with rfl | rfl | hx
  · exact twinN_lt _ (by omega)
  · omega
  · exact hL x hx
theorem words_lt (k s : Nat) (L : List Nat) (hk : k < 4) (hs : s < 1073741824) (hn : L.length ≤ 56) (hL : ∀ x ∈ L, x < 4294967296) : ∀ x ∈ words k s L, x < 4294967296 := by
  intro x hx
  rcases List.mem_append.1 hx with hx | hx
  · exact body_lt k s L hk hs hn hL x hx
  · rw [List.mem_singleton] at hx
    have := zcount_body k s L hn
    omega

/-- the number of words that the first word tells, or 0 -/
def toldS (xs : List Nat) : Nat :=
  if xs.length = 0 then 0 else if (toldN (xs.getD 0 0)).2 = true ∧ sizeN (toldN (xs.getD 0 0)).1 ≤ xs.length then sizeN (toldN (xs.getD 0 0)).1 else 0
theorem toldS_le (xs : List Nat) : toldS xs ≤ xs.length := by
  unfold toldS
  split
  · omega
  · split
    · rename_i h; exact h.2
    · omega
theorem toldS_cases (xs : List Nat) : toldS xs = 0 ∨ ∃ n, 1 ≤ n ∧ n ≤ 56 ∧ toldS xs = n + 3 ∧ toldN (xs.getD 0 0) = (n, true) ∧ n + 3 ≤ xs.length := by
  unfold toldS
  by_cases h0 : xs.length = 0
  · rw [if_pos h0]; exact .inl rfl
  · rw [if_neg h0]
    by_cases h1 : (toldN (xs.getD 0 0)).2 = true ∧ sizeN (toldN (xs.getD 0 0)).1 ≤ xs.length
    · rw [if_pos h1]
      unfold sizeN
      by_cases h2 : 1 ≤ (toldN (xs.getD 0 0)).1 ∧ (toldN (xs.getD 0 0)).1 ≤ 56
      · rw [if_pos h2]
        refine .inr ⟨_, h2.1, h2.2, rfl, Prod.ext rfl h1.1, ?_⟩
        have := h1.2
        unfold sizeN at this
        rwa [if_pos h2] at this
      · rw [if_neg h2]; exact .inl rfl
    · rw [if_neg h1]; exact .inl rfl
/-- what words are read as -/
def readN (xs : List Nat) : Option (Nat × Nat × List Nat) :=
  if toldS xs = 0 then none else
  if rightB (xs.take (toldS xs)) = false then none else
  if markB ((xs.getD 1 0 / 1073741824 : Nat) : Int) ((xs.getD 1 0 % 1073741824 : Nat) : Int) = false then none else
  some (xs.getD 1 0 / 1073741824, xs.getD 1 0 % 1073741824, (xs.take (toldS xs - 1)).drop 2)
theorem toldN_fst {x n : Nat} {b : Bool} (h : toldN x = (n, b)) (hn : n ≠ 0) : twinN n = x ∧ b = true := by
  unfold toldN at h
  split at h
  · rename_i hx
    simp only [Prod.mk.injEq] at h
    rw [← h.1, h.2]
    exact ⟨hx, rfl⟩
  · simp only [Prod.mk.injEq] at h
    omega
/-- words that begin with n + 3 words of which the last is their sum -/
theorem parts (xs : List Nat) (n : Nat) (h : n + 3 ≤ xs.length) : ∃ x0 x1 z L T, xs = (x0 :: x1 :: L ++ [z]) ++ T ∧ L.length = n := by
  match xs, h with
  | x0 :: x1 :: r, h =>
    simp only [List.length_cons] at h
    refine ⟨x0, x1, r.getD n 0, r.take n, r.drop (n + 1), ?_, by rw [List.length_take]; omega⟩
    have h1 : r = r.take n ++ r.getD n 0 :: r.drop (n + 1) := by
      rw [List.getD_eq_getElem?_getD, List.getElem?_eq_getElem (by omega)]
      simp
    simp only [List.cons_append, List.append_assoc, List.nil_append]
    exact congrArg _ (congrArg _ h1)
theorem twin_of {x n : Nat} (h : toldN x = (n, true)) (hn : n ≠ 0) : x = twinN n := (toldN_fst h hn).1.symm
/-- words that are read as a frame begin with its words, and the frame may be -/
theorem readN_some {xs : List Nat} {k s : Nat} {L : List Nat} (h : readN xs = some (k, s, L)) : okB k s L.length = true ∧ xs.take (L.length + 3) = words k s L ∧ L.length + 3 ≤ xs.length := by
  unfold readN at h
  rcases toldS_cases xs with h0 | ⟨n, h1, h2, h3, h4, h5⟩
  · rw [if_pos h0] at h; cases h
  · rw [if_neg (by omega), h3] at h
    obtain ⟨x0, x1, z, L', T, rfl, hL⟩ := parts xs n h5
    have e1 : ((x0 :: x1 :: L' ++ [z]) ++ T).take (n + 3) = x0 :: x1 :: L' ++ [z] := by rw [List.take_append_of_le_length (by simp [hL]), List.take_of_length_le (by simp [hL])]
    have e2 : ((x0 :: x1 :: L' ++ [z]) ++ T).take (n + 3 - 1) = x0 :: x1 :: L' := by
      rw [show n + 3 - 1 = n + 2 by omega, List.append_assoc, List.take_append_of_le_length (by simp [hL]), List.take_of_length_le (by simp [hL])]
    have e3 : ((x0 :: x1 :: L' ++ [z]) ++ T).getD 0 0 = x0 := rfl
    have e4 : ((x0 :: x1 :: L' ++ [z]) ++ T).getD 1 0 = x1 := rfl
    rw [e1, e2, e4] at h
    rw [e3] at h4
    have ht := twin_of h4 (by omega)
    split at h
    · cases h
    · rename_i hr
      split at h
      · cases h
      · rename_i hm
        simp only [Option.some.injEq, Prod.mk.injEq, List.drop_succ_cons, List.drop_zero] at h
        obtain ⟨rfl, rfl, rfl⟩ := h
        rw [Bool.not_eq_false] at hr hm
        have hm' := markB_true.1 hm
        refine ⟨okB_true.2 ⟨hm'.1, hm'.2.1, hm'.2.2, by omega, by omega⟩, ?_, by omega⟩
        rw [hL, e1]
        have e5 : rightB ((x0 :: x1 :: L') ++ [z]) = (z == zcount (x0 :: x1 :: L')) := rightB_snoc _ _
        rw [e5, beq_iff_eq] at hr
        have e6 : x1 / 1073741824 * 1073741824 + x1 % 1073741824 = x1 := by omega
        unfold words body
        rw [e6, hL, ← ht, hr]
theorem readN_words (k s : Nat) (L T : List Nat) (h : okB k s L.length = true) : readN (words k s L ++ T) = some (k, s, L) := by
  obtain ⟨hk, h1, h2, h3, h4⟩ := okB_true.1 h
  have hs : toldS (words k s L ++ T) = L.length + 3 := by
    unfold toldS
    have e0 : (words k s L ++ T).getD 0 0 = twinN L.length := rfl
    rw [e0, told_twin _ (by omega), if_neg (by simp [words_length])]
    have e1 : sizeN L.length = L.length + 3 := by unfold sizeN; rw [if_pos ⟨h3, h4⟩]
    rw [e1, if_pos ⟨rfl, by simp [words_length]⟩]
  unfold readN
  rw [hs, if_neg (by omega)]
  have e1 : (words k s L ++ T).take (L.length + 3) = words k s L := by
    rw [List.take_append_of_le_length (by rw [words_length]; exact Nat.le_refl _), List.take_of_length_le (by rw [words_length]; exact Nat.le_refl _)]
  have e2 : (words k s L ++ T).take (L.length + 3 - 1) = body k s L := by
    unfold words
    rw [List.append_assoc, List.take_append_of_le_length (by rw [body_length]; omega), List.take_of_length_le (by rw [body_length]; omega)]
  have e3 : (words k s L ++ T).getD 1 0 = k * 1073741824 + s := rfl
  have e4 : rightB (words k s L) = true := by unfold words; rw [rightB_snoc]; simp
  have e5 : (k * 1073741824 + s) / 1073741824 = k := by omega
  have e6 : (k * 1073741824 + s) % 1073741824 = s := by omega
  have e7 : markB k s = true := markB_true.2 ⟨hk, h1, h2⟩
  rw [e1, e2, e3, e4, e5, e6, e7]
  rfl
/-- a frame's words whose bits went up, whatever stands behind -/
theorem readN_up (k s : Nat) (L u T : List Nat) (h : okB k s L.length = true) (hL : ∀ x ∈ L, x < 4294967296) (hu : ∀ x ∈ u, x < 4294967296) :
    readN (orL (words k s L) u ++ T) = if orL (words k s L) u = words k s L then some (k, s, L) else none := by
  by_cases he : orL (words k s L) u = words k s L
  · rw [if_pos he, he]; exact readN_words k s L T h
  · rw [if_neg he]
    obtain ⟨hk, h1, h2, h3, h4⟩ := okB_true.1 h
    have hsu := sure (body k s L) u (body_lt k s L (by omega) (by omega) h4 hL) hu
    have hw : body k s L ++ [zcount (body k s L)] = words k s L := rfl
    rw [hw, decide_eq_false he] at hsu
    have hlen : (orL (words k s L) u).length = L.length + 3 := by rw [orL_length, words_length]
    unfold readN
    rcases toldS_cases (orL (words k s L) u ++ T) with h0 | ⟨n, n1, n2, n3, n4, n5⟩
    · rw [if_pos h0]
    · have e0 : (orL (words k s L) u ++ T).getD 0 0 = twinN L.length ||| u.getD 0 0 := by
        rw [List.getD_eq_getElem?_getD, List.getElem?_append_left (by omega), ← List.getD_eq_getElem?_getD, orL_getD _ _ _ (by rw [words_length]; omega)]
        rfl
      rw [e0] at n4
      by_cases hx : twinN L.length ||| u.getD 0 0 = twinN L.length
      · rw [hx, told_twin _ (by omega), Prod.mk.injEq] at n4
        obtain ⟨rfl, _⟩ := n4
        rw [if_neg (by omega), n3, List.take_append_of_le_length (by omega), List.take_of_length_le (by omega), if_pos hsu]
      · rw [told_up _ _ (by omega) hx, Prod.mk.injEq] at n4
        omega
theorem or_ones (x : Nat) (hx : x < 4294967296) : x ||| 4294967295 = 4294967295 := by
  apply Nat.eq_of_testBit_eq
  intro j
  rw [Nat.testBit_or, show 4294967295 = 2 ^ 32 - 1 from rfl, Nat.testBit_two_pow_sub_one]
  by_cases hj : j < 32
  · simp [hj]
  · rw [Nat.testBit_lt_two_pow (show x < 2 ^ j from Nat.lt_of_lt_of_le hx (Nat.pow_le_pow_right (n := 2) (by decide) (by omega : 32 ≤ j)))]
    simp
theorem cut_key (N n m c : Nat) (hc : ∀ x, x < 4294967296 → x ||| c = c) (hn : n < N + 3) (h4 : N ≤ 56) (ws : List Nat) (hl : ws.length = N + 3) (hw : ∀ x ∈ ws, x < 4294967296) : ws.take n ++ [ws.getD n 0 ||| m] ++ List.replicate (99 - n) c =
      orL ws (List.replicate n 0 ++ [m] ++ List.replicate (N + 2 - n) c) ++ List.replicate (97 - N) c := by
    apply List.ext_getElem?
    intro i
    have hol : (orL ws (List.replicate n 0 ++ [m] ++ List.replicate (N + 2 - n) c)).length = N + 3 := by rw [orL_length, hl]
    have htl : (ws.take n ++ [ws.getD n 0 ||| m]).length = n + 1 := by rw [List.length_append, List.length_take]; simp; omega
    have hog : ∀ i, i < N + 3 → (orL ws (List.replicate n 0 ++ [m] ++ List.replicate (N + 2 - n) c))[i]? = some (ws.getD i 0 ||| (List.replicate n 0 ++ [m] ++ List.replicate (N + 2 - n) c).getD i 0) := by
      intro i hi
      have := orL_getD ws (List.replicate n 0 ++ [m] ++ List.replicate (N + 2 - n) c) i (by omega)
      rw [← this, List.getElem?_eq_getElem (by omega), List.getD_eq_getElem?_getD, List.getElem?_eq_getElem (by omega)]
      rfl
    by_cases c1 : i < n
    · rw [List.getElem?_append_left (by omega), List.getElem?_append_left (by rw [List.length_take]; omega), List.getElem?_append_left (by omega), hog i (by omega)]
      rw [List.getElem?_take, if_pos c1, List.getElem?_eq_getElem (by omega)]
      have e : (List.replicate n 0 ++ [m] ++ List.replicate (N + 2 - n) c).getD i 0 = 0 := by
        rw [List.getD_eq_getElem?_getD, List.getElem?_append_left (by simp; omega), List.getElem?_append_left (by simp; omega)]
        simp [c1]
      rw [e, Nat.or_zero, List.getD_eq_getElem?_getD, List.getElem?_eq_getElem (by omega)]
      rfl
    · by_cases c2 : i = n
      · subst c2
        rw [List.getElem?_append_left (by omega), List.getElem?_append_right (by rw [List.length_take]; omega), List.getElem?_append_left (by omega), hog i (by omega)]
        have e : (List.replicate i 0 ++ [m] ++ List.replicate (N + 2 - i) c).getD i 0 = m := by
          rw [List.getD_eq_getElem?_getD, List.getElem?_append_left (by simp), List.getElem?_append_right (by simp)]
          simp
        rw [e, List.length_take, Nat.min_eq_left (by omega), Nat.sub_self]
        rfl
      · have hr : ∀ (a b : Nat), (List.replicate b c)[a]? = if a < b then some c else none := fun a b => List.getElem?_replicate
        rw [List.getElem?_append_right (by omega), htl, hr]
        by_cases c3 : i < N + 3
        · rw [if_pos (by omega), List.getElem?_append_left (by omega), hog i c3]
          have e : (List.replicate n 0 ++ [m] ++ List.replicate (N + 2 - n) c).getD i 0 = c := by
            rw [List.getD_eq_getElem?_getD, List.getElem?_append_right (by simp; omega), hr, if_pos (by simp; omega)]
            rfl
          rw [e]
          rw [hc _ (getD32_lt ws hw i)]
        · rw [List.getElem?_append_right (by omega), hol, hr]
          by_cases c4 : i < 100
          · rw [if_pos (by omega), if_pos (by omega)]
          · rw [if_neg (by omega), if_neg (by omega)]
theorem cut_eq (N n m c : Nat) (hc : ∀ x, x < 4294967296 → x ||| c = c) (hc2 : 1856 < c) (hn : n < N + 3) (ws : List Nat) (hwl : ws.length = N + 3) (hlast : ws.getD (N + 2) 0 ≤ 1856) : orL ws (List.replicate n 0 ++ [m] ++ List.replicate (N + 2 - n) c) = ws ↔ (n = N + 2 ∧ (ws).getD n 0 ||| m = (ws).getD n 0) := by
    have hog := fun i (hi : i < N + 3) => orL_getD ws (List.replicate n 0 ++ [m] ++ List.replicate (N + 2 - n) c) i (by omega)
    have en : (List.replicate n 0 ++ [m] ++ List.replicate (N + 2 - n) c).getD n 0 = m := by
      rw [List.getD_eq_getElem?_getD, List.getElem?_append_left (by simp), List.getElem?_append_right (by simp)]
      simp
    constructor
    · intro hE
      rw [hE] at hog
      have h5 := hog n hn
      rw [en] at h5
      refine ⟨?_, h5.symm⟩
      have h6 := hog (N + 2) (by omega)
      apply Classical.byContradiction
      intro hne
      have e : (List.replicate n 0 ++ [m] ++ List.replicate (N + 2 - n) c).getD (N + 2) 0 = c := by
        rw [List.getD_eq_getElem?_getD, List.getElem?_append_right (by simp; omega), List.getElem?_replicate, if_pos (by simp; omega)]
        rfl
      rw [e] at h6
      have := hc (ws.getD (N + 2) 0) (by omega)
      omega
    · rintro ⟨rfl, h5⟩
      apply List.ext_getElem?
      intro i
      by_cases hi : i < N + 3
      · rw [List.getElem?_eq_getElem (by rw [orL_length]; omega), List.getElem?_eq_getElem (by omega)]
        have h6 := hog i hi
        rw [List.getD_eq_getElem?_getD, List.getElem?_eq_getElem (by rw [orL_length]; omega), Option.getD_some] at h6
        rw [h6]
        by_cases ci : i = N + 2
        · subst ci
          rw [en, h5, List.getD_eq_getElem?_getD, List.getElem?_eq_getElem (by omega)]
          rfl
        · have e : (List.replicate (N + 2) 0 ++ [m] ++ List.replicate (N + 2 - (N + 2)) c).getD i 0 = 0 := by
            rw [List.getD_eq_getElem?_getD, List.getElem?_append_left (by simp; omega), List.getElem?_append_left (by simp; omega)]
            simp [show i < N + 2 by omega]
          rw [e, Nat.or_zero, List.getD_eq_getElem?_getD, List.getElem?_eq_getElem (by omega)]
          rfl
      · rw [List.getElem?_eq_none (by rw [orL_length]; omega), List.getElem?_eq_none (by omega)]
theorem getD_last (b : List Nat) (z n : Nat) (h : b.length = n) : (b ++ [z]).getD n 0 = z := by
  subst h
  rw [List.getD_eq_getElem?_getD, List.getElem?_append_right (Nat.le_refl _), Nat.sub_self]
  rfl
theorem words_last (k s : Nat) (L : List Nat) : (words k s L).getD (L.length + 2) 0 = zcount (body k s L) :=
  getD_last (body k s L) (zcount (body k s L)) (L.length + 2) (body_length k s L)
/-- the first words of a frame, the last of them torn, ones behind -/
theorem cut_ups (k s : Nat) (L : List Nat) (n m c : Nat) (hc : ∀ x, x < 4294967296 → x ||| c = c) (hc2 : 1856 < c) (hc3 : c < 4294967296) (h : okB k s L.length = true) (hL : ∀ x ∈ L, x < 4294967296) (hm : m < 4294967296) (hn : n < L.length + 3) :
    (readN ((words k s L).take n ++ [(words k s L).getD n 0 ||| m] ++ List.replicate (99 - n) c)).isSome = decide (n = L.length + 2 ∧ (words k s L).getD n 0 ||| m = (words k s L).getD n 0) := by
  obtain ⟨hk, h1, h2, h3, h4⟩ := okB_true.1 h
  have hwl := words_length k s L
  have hlt := words_lt k s L (by omega) (by omega) h4 hL
  have heq := cut_eq L.length n m c hc hc2 hn (words k s L) hwl (by rw [words_last k s L]; exact zcount_body k s L h4)
  have hu : ∀ x ∈ List.replicate n 0 ++ [m] ++ List.replicate (L.length + 2 - n) c, x < 4294967296 := by
    intro x hx
    rcases List.mem_append.1 hx with hx | hx
    · rcases List.mem_append.1 hx with hx | hx
      · rw [List.eq_of_mem_replicate hx]; omega
      · rw [List.mem_singleton.1 hx]; exact hm
    · rw [List.eq_of_mem_replicate hx]; exact hc3
  have hr := readN_up k s L _ (List.replicate (97 - L.length) c) h hL hu
  have hkey := cut_key L.length n m c hc hn h4 _ hwl hlt
  rw [hkey, hr]
  clear hr hkey hu
  generalize words k s L = ws at *
  generalize orL ws _ = os at *
  by_cases hE : os = ws
  · rw [if_pos hE, decide_eq_true (heq.1 hE), Option.isSome_some]
  · rw [if_neg hE, decide_eq_false (fun h => hE (heq.2 h)), Option.isSome_none]
theorem cut_up (k s : Nat) (L : List Nat) (n m : Nat) (h : okB k s L.length = true) (hL : ∀ x ∈ L, x < 4294967296) (hm : m < 4294967296) (hn : n < L.length + 3) :
    (readN ((words k s L).take n ++ [(words k s L).getD n 0 ||| m] ++ List.replicate (99 - n) 4294967295)).isSome = decide (n = L.length + 2 ∧ (words k s L).getD n 0 ||| m = (words k s L).getD n 0) :=
  cut_ups k s L n m 4294967295 or_ones (by decide) (by decide) h hL hm hn
end Go.Proofs.YtphifanacehppaaGreat.frame
/- Contracts of the functions Torn, Within, Raised of layer 1 (word), for every 32-bit argument. -/
namespace Go.Proofs.YtphifanacehppaaGreat.word
open Go.RowKit
set_option linter.unusedVariables false

/-- the bits of a that are not in b, of 32 -/
def clr (a b : Nat) : Nat := a &&& (4294967295 - b)

theorem within_any (a b : Nat) (ha : a < 4294967296) (hb : b < 4294967296) (w : World) :
    Calls Tryz.prog 115 #[.int .u32 a, .int .u32 b] w (Quiet (.bool (clr a b == 0)) w) := by
  have h := u32_andNot_nat a b ha hb
  go_enter Tryz.func115, Tryz.ntmps115
  go_wp2
  go_ret
  exact ⟨ret_bool (by unfold clr; rw [Bool.eq_iff_iff]; simp), 0, rfl⟩
theorem torn_any (was x mask : Nat) (hw : was < 4294967296) (hx : x < 4294967296) (hm : mask < 4294967296) (w : World) :
    Calls Tryz.prog 116 #[.int .u32 was, .int .u32 x, .int .u32 mask] w (Quiet (.int .u32 (clr was (clr mask x))) w) := by
  have h1 := u32_andNot_nat mask x hm hx
  have h2 := u32_andNot_nat was (mask &&& (4294967295 - x)) hw (Nat.lt_of_le_of_lt Nat.and_le_left hm)
  go_enter Tryz.func116, Tryz.ntmps116
  go_wp2
  go_ret
  exact ⟨rfl, 0, rfl⟩
theorem raised_any (was mask : Nat) (hw : was < 4294967296) (hm : mask < 4294967296) (w : World) :
    Calls Tryz.prog 101 #[.int .u32 was, .int .u32 mask] w (Quiet (.int .u32 (was ||| mask : Nat)) w) := by
  have h1 := u32_or_nat was mask hw hm
  go_enter Tryz.func101, Tryz.ntmps101
  go_wp2
  go_ret
  exact ⟨rfl, 0, rfl⟩
theorem bit_clr (a b i : Nat) (ha : a < 4294967296) (hb : b < 4294967296) : (clr a b).testBit i = (a.testBit i && !b.testBit i) := by
  unfold clr
  rw [Nat.testBit_and]
  have e : 4294967295 - b = 2 ^ 32 - (b + 1) := by omega
  rw [e, Nat.testBit_two_pow_sub_succ (by omega)]
  by_cases hi : i < 32
  · simp [hi]
  · have : a.testBit i = false := Nat.testBit_lt_two_pow (Nat.lt_of_lt_of_le ha (by show 2 ^ 32 ≤ 2 ^ i; exact Nat.pow_le_pow_right (by decide) (by omega)))
    simp [this]
theorem clr_lt (a b : Nat) (ha : a < 4294967296) : clr a b < 4294967296 := Nat.lt_of_le_of_lt Nat.and_le_left ha
end Go.Proofs.YtphifanacehppaaGreat.word
/- Bits that are taken from a word, and quiet calls behind a region that drew. No condition. -/
namespace Go.Proofs.YtphifanacehppaaGreat.flash
open Go.RowKit Go.Proofs.YtphifanacehppaaGreat.word
set_option linter.unusedVariables false

/-- a quiet call behind a region that drew -/
theorem quietAt2 {P : Program} {f : FuncId} {args : Array Value} {w : World} {n m : Nat} {v : Value} (h : Calls P f args (w.drewN (n + m)) (Quiet v (w.drewN (n + m)))) : Calls P f args (w.drewN (n + m)) fun e w'' => e = .returned v ∧ ∃ k, w'' = w.drewN (n + k) :=
  h.mono fun _ _ ⟨he, k, hk⟩ => ⟨he, m + k, by rw [hk, World.drewN_drewN, Nat.add_assoc]⟩
theorem clr_none {a b : Nat} (ha : a < 4294967296) (hb : b < 4294967296) (h : ∀ i, a.testBit i = true → b.testBit i = true) : clr a b = 0 := by
  apply Nat.eq_of_testBit_eq
  intro i
  rw [bit_clr a b i ha hb, Nat.zero_testBit]
  cases h1 : a.testBit i
  · rfl
  · rw [h i h1]; rfl
theorem clr_self {a : Nat} (ha : a < 4294967296) : clr a a = 0 := clr_none ha ha fun _ h => h
theorem clr_clr {a b : Nat} (ha : a < 4294967296) (hb : b < 4294967296) : clr (clr a b) a = 0 := by
  refine clr_none (clr_lt a b ha) ha fun i h => ?_
  rw [bit_clr a b i ha hb] at h
  revert h
  cases a.testBit i <;> simp
theorem clr_or {a b : Nat} (ha : a < 4294967296) (hb : b < 4294967296) : clr a (a ||| b) = 0 := by
  refine clr_none ha (Nat.or_lt_two_pow (n := 32) ha hb) fun i h => ?_
  rw [Nat.testBit_or, h]; rfl
theorem clr_blank (a : Nat) : clr a 4294967295 = 0 := by simp [clr]
end Go.Proofs.YtphifanacehppaaGreat.flash
