/- Contracts and lemmas that the claims of this seat share: Kit, WordBits, FlashClr, FlashMath, GeomMath, DriveMath, Arr, Open, Append, Vals. Each says its own conditions. -/
import Derived.Test.YtcigijhoeghnnaaRows
import Derived.WalkKit
import Derived.BigQuiet
import Derived.Deep.MidRow
import Derived.Deep.WholeRow
import Derived.Laws.OwnMore
import Derived.ProofKit
import Derived.OpenShut
import Derived.ShutString
import Derived.ChangeOld
import Derived.Below
import Derived.SizedLaws
import Derived.Deep.Upon
/- Small lemmas on memory that the proofs of this seat share: what a slice of integers reads as, and what a quiet call leaves. No condition. -/
namespace Go.Proofs.Ytcigijhoeghnnaa
open Go.RowKit

theorem hid {p : Prop} (h : p) : Hid p := h
theorem ret_int {k : IntKind} {a b : Int} (h : a = b) : Ending.returned (.int k a) = .returned (.int k b) := by rw [h]
theorem ret_bool {a b : Bool} (h : a = b) : Ending.returned (.bool a) = .returned (.bool b) := by rw [h]

/-- the call returns v and changes nothing; it may draw orders -/
def Quiet (v : Value) (w : World) (e : Ending) (w' : World) : Prop := e = .returned v ∧ ∃ n, w' = w.drewN n
theorem Quiet.mk0 {v : Value} {w : World} : Quiet v w (.returned v) w := ⟨rfl, 0, rfl⟩
theorem _root_.Go.Proofs.Ytcigijhoeghnnaa.quietAt {P : Program} {f : FuncId} {args : Array Value} {w : World} {n : Nat} {v : Value}
    (h : Calls P f args (w.drewN n) (Quiet v (w.drewN n))) : Calls P f args (w.drewN n) fun e w'' => e = .returned v ∧ ∃ m, w'' = w.drewN m :=
  h.mono fun _ _ ⟨he, m, hm⟩ => ⟨he, n + m, by rw [hm, World.drewN_drewN]⟩

theorem below_drewN {B : Nat} {a w : World} (h : Below B a w) (n : Nat) : Below B a (w.drewN n) :=
  ⟨h.os, h.tape, h.output, h.size, h.block⟩

theorem _root_.Go.World.ownsRow.drewN {w : World} {base e size n : Nat} {v : Value} {xs : List Value} (h : w.ownsRow base e size v n xs) (m : Nat) : (w.drewN m).ownsRow base e size v n xs := h

/-- the slice at address a, of length len, reads as the numbers xs of kind k -/
def Reads (k : IntKind) (w : World) (a : Option Addr) (len : Nat) (xs : List Nat) : Prop :=
  xs.length = len ∧ (len = 0 ∨ ∃ b off, a = some ⟨b, off, none⟩ ∧ b < w.heap.size ∧ ∀ i, i < len → w.cell? ⟨b, off + i, none⟩ = some (.int k ((xs.getD i 0 : Nat) : Int)))

theorem Reads.at {k : IntKind} {w : World} {a : Option Addr} {len : Nat} {xs : List Nat} (h : Reads k w a len xs) {i : Nat} (hi : i < len) :
    ∃ b off, a = some ⟨b, off, none⟩ ∧ b < w.heap.size ∧ ∀ i, i < len → w.cell? ⟨b, off + i, none⟩ = some (.int k ((xs.getD i 0 : Nat) : Int)) := by
  rcases h.2 with h | h
  · omega
  · exact h
theorem Reads.below {k : IntKind} {w w' : World} {a : Option Addr} {len : Nat} {xs : List Nat} (h : Reads k w a len xs) (hb : Below w.heap.size w w') : Reads k w' a len xs := by
  refine ⟨h.1, ?_⟩
  rcases h.2 with h | ⟨b, off, ha, hlt, hc⟩
  · exact .inl h
  · exact .inr ⟨b, off, ha, Nat.lt_of_lt_of_le hlt hb.size, fun i hi => by rw [hb.cell (p := ⟨b, off + i, none⟩) hlt]; exact hc i hi⟩
theorem Reads.drewN {k : IntKind} {w : World} {a : Option Addr} {len : Nat} {xs : List Nat} (h : Reads k w a len xs) (n : Nat) : Reads k (w.drewN n) a len xs :=
  h.below (below_drewN (Below.refl _ _) n)
theorem Reads.nil {k : IntKind} {w : World} {a : Option Addr} : Reads k w a 0 [] := ⟨rfl, .inl rfl⟩

/-- what the call itself made reads so -/
theorem Reads.own {k : IntKind} {w : World} {base e n : Nat} {a : Option Addr} {cap : Nat} {xs : List Nat} (h : w.ownsRow base e 1 (.slice a n cap) n (xs.map fun x : Nat => Value.int k (x : Int))) :
    Reads k w a n xs := by
  obtain ⟨hl, hr⟩ := h
  simp at hl
  refine ⟨hl, ?_⟩
  rcases hr with ⟨hv, h0⟩ | ⟨g, cap', cur, hv, _, hg, _, _, _, htake⟩
  · exact .inl h0
  · cases hv
    refine .inr ⟨g, 0, rfl, (Array.getElem?_eq_some_iff.1 hg).1, fun i hi => ?_⟩
    rw [Nat.zero_add, cell_of_row w g i cur e (0, 0) hg]
    have h2 : (cur.toList.take (n * 1))[i]? = ((xs.map fun x : Nat => Value.int k (x : Int)))[i]? := by rw [htake]
    rw [List.getElem?_take, if_pos (by omega), List.getElem?_map] at h2
    rw [Array.getElem?_toList] at h2
    rw [h2, List.getD_eq_getElem?_getD, List.getElem?_eq_getElem (by omega)]
    simp

/-- a list of n numbers whose first k are filled by f, the others 0 -/
def upTo (f : Nat → Nat) (k n : Nat) : List Nat := (List.range n).map fun i => if i < k then f i else 0
theorem upTo_zero (f : Nat → Nat) (n : Nat) : upTo f 0 n = List.replicate n 0 := by
  apply List.ext_getElem?
  intro j
  unfold upTo
  by_cases hj : j < n <;> simp [hj]
theorem upTo_all (f : Nat → Nat) (n : Nat) : upTo f n n = (List.range n).map f := by
  unfold upTo
  apply List.map_congr_left
  intro i hi
  rw [if_pos (List.mem_range.1 hi)]
theorem upTo_set (f : Nat → Nat) (k n : Nat) (hk : k < n) : (upTo f k n).set k (f k) = upTo f (k + 1) n := by
  apply List.ext_getElem?
  intro j
  unfold upTo
  rw [List.getElem?_set]
  by_cases hj : j < n
  · by_cases h : k = j
    · subst h; simp [hj]
    · rw [if_neg h, List.getElem?_map, List.getElem?_map, List.getElem?_range hj]
      have e : j < k + 1 ↔ j < k := by omega
      simp [e]
  · rw [if_neg (by omega)]; simp [hj]
end Go.Proofs.Ytcigijhoeghnnaa
/- Contracts of the functions Torn, Within, Raised of layer 1 (word), for every 32-bit argument. -/
namespace Go.Proofs.Ytcigijhoeghnnaa.word
open Go.RowKit
set_option linter.unusedVariables false

/-- the bits of a that are not in b, of 32 -/
def clr (a b : Nat) : Nat := a &&& (4294967295 - b)

theorem within_any (a b : Nat) (ha : a < 4294967296) (hb : b < 4294967296) (w : World) :
    Calls Try.prog 57 #[.int .u32 a, .int .u32 b] w (Quiet (.bool (clr a b == 0)) w) := by
  have h := u32_andNot_nat a b ha hb
  go_enter Try.func57, Try.ntmps57
  go_wp2
  go_ret
  exact ⟨ret_bool (by unfold clr; rw [Bool.eq_iff_iff]; simp), 0, rfl⟩
theorem torn_any (was x mask : Nat) (hw : was < 4294967296) (hx : x < 4294967296) (hm : mask < 4294967296) (w : World) :
    Calls Try.prog 59 #[.int .u32 was, .int .u32 x, .int .u32 mask] w (Quiet (.int .u32 (clr was (clr mask x))) w) := by
  have h1 := u32_andNot_nat mask x hm hx
  have h2 := u32_andNot_nat was (mask &&& (4294967295 - x)) hw (Nat.lt_of_le_of_lt Nat.and_le_left hm)
  go_enter Try.func59, Try.ntmps59
  go_wp2
  go_ret
  exact ⟨rfl, 0, rfl⟩
theorem raised_any (was mask : Nat) (hw : was < 4294967296) (hm : mask < 4294967296) (w : World) :
    Calls Try.prog 62 #[.int .u32 was, .int .u32 mask] w (Quiet (.int .u32 (was ||| mask : Nat)) w) := by
  have h1 := u32_or_nat was mask hw hm
  go_enter Try.func62, Try.ntmps62
  go_wp2
  go_ret
  exact ⟨rfl, 0, rfl⟩
theorem bit_clr (a b i : Nat) (ha : a < 4294967296) (hb : b < 4294967296) : (clr a b).testBit i = (a.testBit i && !b.testBit i) := by
  unfold clr
  rw [Nat.testBit_and]
  have e : 4294967295 - b = 2 ^ 32 - (b + 1) := by omega
  rw [e, Nat.testBit_two_pow_sub_succ (by omega)]
  by_cases hi : i < 32
  · simp [hi]
  · have : a.testBit i = false := Nat.testBit_lt_two_pow (Nat.lt_of_lt_of_le ha (by show 2 ^ 32 ≤ 2 ^ i; exact Nat.pow_le_pow_right (by decide) (by omega)))
    simp [this]
theorem clr_lt (a b : Nat) (ha : a < 4294967296) : clr a b < 4294967296 := Nat.lt_of_le_of_lt Nat.and_le_left ha
end Go.Proofs.Ytcigijhoeghnnaa.word
/- Bits that are taken from a word, and quiet calls behind a region that drew. No condition. -/
namespace Go.Proofs.Ytcigijhoeghnnaa.flash
open Go.RowKit Go.Proofs.Ytcigijhoeghnnaa.word
set_option linter.unusedVariables false

/-- a quiet call behind a region that drew -/
theorem quietAt2 {P : Program} {f : FuncId} {args : Array Value} {w : World} {n m : Nat} {v : Value} (h : Calls P f args (w.drewN (n + m)) (Quiet v (w.drewN (n + m)))) : Calls P f args (w.drewN (n + m)) fun e w'' => e = .returned v ∧ ∃ k, w'' = w.drewN (n + k) :=
  h.mono fun _ _ ⟨he, k, hk⟩ => ⟨he, m + k, by rw [hk, World.drewN_drewN, Nat.add_assoc]⟩
theorem clr_none {a b : Nat} (ha : a < 4294967296) (hb : b < 4294967296) (h : ∀ i, a.testBit i = true → b.testBit i = true) : clr a b = 0 := by
  apply Nat.eq_of_testBit_eq
  intro i
  rw [bit_clr a b i ha hb, Nat.zero_testBit]
  cases h1 : a.testBit i
  · rfl
  · rw [h i h1]; rfl
theorem clr_self {a : Nat} (ha : a < 4294967296) : clr a a = 0 := clr_none ha ha fun _ h => h
theorem clr_clr {a b : Nat} (ha : a < 4294967296) (hb : b < 4294967296) : clr (clr a b) a = 0 := by
  refine clr_none (clr_lt a b ha) ha fun i h => ?_
  rw [bit_clr a b i ha hb] at h
  revert h
  cases a.testBit i <;> simp
theorem clr_or {a b : Nat} (ha : a < 4294967296) (hb : b < 4294967296) : clr a (a ||| b) = 0 := by
  refine clr_none ha (Nat.or_lt_two_pow (n := 32) ha hb) fun i h => ?_
  rw [Nat.testBit_or, h]; rfl
theorem clr_blank (a : Nat) : clr a 4294967295 = 0 := by simp [clr]
end Go.Proofs.Ytcigijhoeghnnaa.flash
/- A flash as values: its words, its wear, its fuse, and what each write makes of them. No condition. -/
namespace Go.Proofs.Ytcigijhoeghnnaa.flash
open Go.RowKit Go.Proofs.Ytcigijhoeghnnaa.word
set_option linter.unusedVariables false

/-- a flash: its words, how many a sector has, the erasures of each sector, the writes, whether it is without power, and the fuse: how many writes come first, and the masks -/
structure Fl where
  (ws : List Nat) (long : Nat) (worn : List Nat) (count : Nat) (dark : Bool) (fuse : Option (Nat × List Nat))
/-- the mask of word i -/
def maskAt (M : List Nat) (i : Nat) : Nat := if M.length = 0 then 0 else M.getD (i % M.length) 0
theorem maskAt_take (M : List Nat) (L i : Nat) (hi : i < L) : maskAt (M.take L) i = maskAt M i := by
  unfold maskAt
  rw [List.length_take]
  by_cases h : M.length ≤ L
  · rw [List.take_of_length_le h, Nat.min_eq_right h]
  · have h2 : L ≤ M.length := by omega
    rw [Nat.min_eq_left h2, if_neg (by omega), if_neg (by omega), Nat.mod_eq_of_lt hi, Nat.mod_eq_of_lt (by omega)]
    simp [List.getD, hi]
theorem maskAt_lt (M : List Nat) (i : Nat) (h : ∀ x ∈ M, x < 4294967296) : maskAt M i < 4294967296 := by
  unfold maskAt
  split
  · decide
  · have hi : i % M.length < M.length := Nat.mod_lt _ (by omega)
    rw [List.getD_eq_getElem?_getD, List.getElem?_eq_getElem hi]
    exact h _ (List.getElem_mem hi)
theorem getD_lt {l : List Nat} {B : Nat} (h : ∀ x ∈ l, x < B) (hB : 0 < B) (i : Nat) : l.getD i 0 < B := by
  rw [List.getD_eq_getElem?_getD]
  cases hx : l[i]? with
  | none => simpa using hB
  | some x => exact h x (List.mem_of_getElem? hx)
/-- k words from lo on turned -/
def run (f : Nat → Nat → Nat) (lo : Nat) : Nat → List Nat → List Nat
  | 0, ws => ws
  | k + 1, ws => (run f lo k ws).set (lo + k) (f k (ws.getD (lo + k) 0))
theorem run_length (f : Nat → Nat → Nat) (lo : Nat) : ∀ (k : Nat) (ws : List Nat), (run f lo k ws).length = ws.length
  | 0, _ => rfl
  | k + 1, ws => by rw [run, List.length_set, run_length f lo k ws]
theorem run_getD (f : Nat → Nat → Nat) (lo : Nat) : ∀ (k : Nat) (ws : List Nat) (j : Nat), lo + k ≤ ws.length → (run f lo k ws).getD j 0 = if lo ≤ j ∧ j < lo + k then f (j - lo) (ws.getD j 0) else ws.getD j 0
  | 0, ws, j, _ => by rw [run, if_neg (by omega)]
  | k + 1, ws, j, h => by
    have ih := run_getD f lo k ws j (by omega)
    have hl := run_length f lo k ws
    rw [run, List.getD_eq_getElem?_getD, List.getElem?_set]
    by_cases hj : lo + k = j
    · subst hj
      rw [if_pos rfl, if_pos (by omega), if_pos (by omega), Option.getD_some, Nat.add_sub_cancel_left]
    · rw [if_neg hj, ← List.getD_eq_getElem?_getD, ih]
      by_cases h2 : lo ≤ j ∧ j < lo + k
      · rw [if_pos h2, if_pos (by omega)]
      · rw [if_neg h2, if_neg (by omega)]
theorem mem_of_getD {l : List Nat} {P : Nat → Prop} (h : ∀ j, j < l.length → P (l.getD j 0)) : ∀ x ∈ l, P x := by
  intro x hx
  obtain ⟨j, hj, rfl⟩ := List.getElem_of_mem hx
  have := h j hj
  rwa [List.getD_eq_getElem?_getD, List.getElem?_eq_getElem hj, Option.getD_some] at this
theorem run_lt (f : Nat → Nat → Nat) (lo k : Nat) (ws : List Nat) (B : Nat) (hk : lo + k ≤ ws.length) (h : ∀ x ∈ ws, x < B) (hf : ∀ i x, x < B → f i x < B) (hB : 0 < B) : ∀ x ∈ run f lo k ws, x < B := by
  refine mem_of_getD (fun j hj => ?_)
  rw [run_getD f lo k ws j hk]
  split
  · exact hf _ _ (getD_lt h hB j)
  · exact getD_lt h hB j
theorem run_congr (f g : Nat → Nat → Nat) (lo : Nat) : ∀ (k : Nat) (ws : List Nat), (∀ i x, i < k → f i x = g i x) → run f lo k ws = run g lo k ws
  | 0, _, _ => rfl
  | k + 1, ws, h => by rw [run, run, run_congr f g lo k ws (fun i x hi => h i x (by omega)), h k _ (by omega)]
/-- what a torn erasure makes of a word -/
def tornWord (M : List Nat) (i x : Nat) : Nat := x ||| maskAt M i
def blank (_ _ : Nat) : Nat := 4294967295
/-- the fuse behind a write that it does not tear -/
def burnt : Option (Nat × List Nat) → Option (Nat × List Nat)
  | none => none
  | some (n, M) => some (n - 1, M)
/-- the masks where the next write is torn -/
def tears : Option (Nat × List Nat) → Option (List Nat)
  | some (0, M) => some M
  | _ => none
namespace Fl
/-- a write of words ws, not torn -/
def wrote (F : Fl) (ws worn : List Nat) : Fl := { F with ws := ws, worn := worn, count := F.count + 1, fuse := burnt F.fuse }
/-- a write that leaves words ws, torn -/
def tore (F : Fl) (ws worn : List Nat) : Fl := { F with ws := ws, worn := worn, count := F.count + 1, dark := true, fuse := none }
def read (F : Fl) (a : Int) : Nat × Int := if F.dark = true then (0, 10) else if a < 0 ∨ (F.ws.length : Int) ≤ a then (0, 3) else (F.ws.getD a.toNat 0, 0)
def program (F : Fl) (a : Int) (x : Nat) : Int × Fl :=
  if F.dark = true then (10, F) else if a < 0 ∨ (F.ws.length : Int) ≤ a then (3, F) else
  if clr x (F.ws.getD a.toNat 0) ≠ 0 then (11, F) else
  match tears F.fuse with
  | some M => (10, F.tore (F.ws.set a.toNat (clr (F.ws.getD a.toNat 0) (clr (maskAt M 0) x))) F.worn)
  | none => (0, F.wrote (F.ws.set a.toNat x) F.worn)
def worn1 (F : Fl) (s : Nat) : List Nat := F.worn.set s (F.worn.getD s 0 + 1)
def erase (F : Fl) (s : Int) : Int × Fl :=
  if F.dark = true then (10, F) else if s < 0 ∨ (F.worn.length : Int) ≤ s then (3, F) else
  match tears F.fuse with
  | some M => (10, F.tore (run (tornWord M) (s.toNat * F.long) F.long F.ws) (F.worn1 s.toNat))
  | none => (0, F.wrote (run blank (s.toNat * F.long) F.long F.ws) (F.worn1 s.toNat))
def arm (F : Fl) (n : Int) (M : List Nat) : Fl := { F with fuse := if n < 0 then none else some (n.toNat, M) }
def power (F : Fl) : Fl := { F with dark := false, fuse := none }
def fresh (s l : Nat) : Fl := ⟨List.replicate (s * l) 4294967295, l, List.replicate s 0, 0, false, none⟩
/-- what stands of every flash -/
structure Ok (F : Fl) : Prop where
  l1 : 1 ≤ F.long
  l2 : F.long ≤ 1024
  s1 : 1 ≤ F.worn.length
  s2 : F.worn.length ≤ 512
  n : F.ws.length = F.worn.length * F.long
  w : ∀ x ∈ F.ws, x < 4294967296
  c : ∀ x ∈ F.worn, x ≤ F.count
  m : ∀ n M, F.fuse = some (n, M) → n ≤ 9223372036854775807 ∧ M.length ≤ 140737488355328 ∧ ∀ x ∈ M, x < 4294967296
variable {F : Fl}
theorem Ok.ws_le (h : F.Ok) : F.ws.length ≤ 524288 := by
  rw [h.n]; exact Nat.mul_le_mul h.s2 h.l2
theorem Ok.ws_pos (h : F.Ok) : 1 ≤ F.ws.length := by
  rw [h.n]; exact Nat.mul_pos h.s1 h.l1
theorem Ok.sector (h : F.Ok) {s : Nat} (hs : s < F.worn.length) : s * F.long + F.long ≤ F.ws.length := by
  rw [h.n, ← Nat.succ_mul]; exact Nat.mul_le_mul_right _ hs
theorem worn1_length (F : Fl) (s : Nat) : (F.worn1 s).length = F.worn.length := by simp [worn1]
theorem worn1_le (h : F.Ok) (s : Nat) : ∀ x ∈ F.worn1 s, x ≤ F.count + 1 := by
  intro x hx
  rcases List.mem_or_eq_of_mem_set hx with hx | rfl
  · have := h.c x hx; omega
  · have : F.worn.getD s 0 < F.count + 1 := getD_lt (fun x hx => by have := h.c x hx; omega) (by omega) s
    omega
theorem burnt_m (h : F.Ok) : ∀ n M, burnt F.fuse = some (n, M) → n ≤ 9223372036854775807 ∧ M.length ≤ 140737488355328 ∧ ∀ x ∈ M, x < 4294967296 := by
  intro n M hf
  cases hF : F.fuse with
  | none => rw [hF] at hf; cases hf
  | some q =>
    obtain ⟨n', M'⟩ := q
    rw [hF] at hf
    cases hf
    have := h.m n' _ hF
    exact ⟨by omega, this.2⟩
theorem Ok.wrote (h : F.Ok) {ws worn : List Nat} (h1 : ws.length = F.ws.length) (h2 : ∀ x ∈ ws, x < 4294967296) (h3 : worn.length = F.worn.length) (h4 : ∀ x ∈ worn, x ≤ F.count + 1) : (F.wrote ws worn).Ok :=
  ⟨h.l1, h.l2, by show 1 ≤ worn.length; rw [h3]; exact h.s1, by show worn.length ≤ 512; rw [h3]; exact h.s2, by show ws.length = worn.length * F.long; rw [h1, h3]; exact h.n, h2, h4, burnt_m h⟩
theorem Ok.tore (h : F.Ok) {ws worn : List Nat} (h1 : ws.length = F.ws.length) (h2 : ∀ x ∈ ws, x < 4294967296) (h3 : worn.length = F.worn.length) (h4 : ∀ x ∈ worn, x ≤ F.count + 1) : (F.tore ws worn).Ok :=
  ⟨h.l1, h.l2, by show 1 ≤ worn.length; rw [h3]; exact h.s1, by show worn.length ≤ 512; rw [h3]; exact h.s2, by show ws.length = worn.length * F.long; rw [h1, h3]; exact h.n, h2, h4, fun _ _ hf => by cases hf⟩
theorem set_lt {l : List Nat} {B : Nat} (h : ∀ x ∈ l, x < B) {i v : Nat} (hv : v < B) : ∀ x ∈ l.set i v, x < B := by
  intro x hx
  rcases List.mem_or_eq_of_mem_set hx with hx | rfl
  · exact h x hx
  · exact hv
theorem tears_m (h : F.Ok) {M : List Nat} (ht : tears F.fuse = some M) : F.fuse = some (0, M) ∧ ∀ x ∈ M, x < 4294967296 := by
  match hF : F.fuse with
  | none => rw [hF] at ht; cases ht
  | some (0, M') => rw [hF] at ht; cases ht; exact ⟨rfl, (h.m _ _ hF).2.2⟩
  | some (n + 1, M') => rw [hF] at ht; cases ht
theorem Ok.program (h : F.Ok) (a : Int) {x : Nat} (hx : x < 4294967296) : (F.program a x).2.Ok := by
  unfold Fl.program
  split
  · exact h
  · split
    · exact h
    · split
      · exact h
      · split
        · exact h.tore (by simp) (set_lt h.w (clr_lt _ _ (getD_lt h.w (by decide) _))) rfl (fun x hx => by have := h.c x hx; omega)
        · exact h.wrote (by simp) (set_lt h.w hx) rfl (fun x hx => by have := h.c x hx; omega)
theorem Ok.erase (h : F.Ok) (s : Int) : (F.erase s).2.Ok := by
  unfold Fl.erase
  split
  · exact h
  · split
    · exact h
    · rename_i h2
      have hs : s.toNat < F.worn.length := by omega
      have h3 := h.sector hs
      split
      · rename_i M hM
        have hm := (tears_m h hM).2
        exact h.tore (run_length _ _ _ _) (run_lt _ _ _ _ _ h3 h.w (fun i x hx => Nat.or_lt_two_pow (n := 32) hx (maskAt_lt M i hm)) (by decide)) (worn1_length F _) (worn1_le h _)
      · exact h.wrote (run_length _ _ _ _) (run_lt _ _ _ _ _ h3 h.w (fun i x hx => by unfold blank; decide) (by decide)) (worn1_length F _) (worn1_le h _)
theorem Ok.arm (h : F.Ok) {n : Int} {M : List Nat} (hn : n ≤ 9223372036854775807) (hM : M.length ≤ 140737488355328) (hm : ∀ x ∈ M, x < 4294967296) : (F.arm n M).Ok :=
  ⟨h.l1, h.l2, h.s1, h.s2, h.n, h.w, h.c, fun n' M' hf => by
    simp only [Fl.arm] at hf
    split at hf
    · cases hf
    · cases hf; exact ⟨by omega, hM, hm⟩⟩
theorem Ok.power (h : F.Ok) : F.power.Ok := ⟨h.l1, h.l2, h.s1, h.s2, h.n, h.w, h.c, fun _ _ hf => by cases hf⟩
theorem Ok.fresh {s l : Nat} (h1 : 1 ≤ s) (h2 : s ≤ 512) (h3 : 1 ≤ l) (h4 : l ≤ 1024) : (Fl.fresh s l).Ok :=
  ⟨h3, h4, by simpa [Fl.fresh] using h1, by simpa [Fl.fresh] using h2, by simp [Fl.fresh], fun x hx => by rw [List.eq_of_mem_replicate hx]; decide, fun x hx => by rw [List.eq_of_mem_replicate hx]; exact Nat.zero_le _, fun _ _ hf => by cases hf⟩
end Fl
end Go.Proofs.Ytcigijhoeghnnaa.flash
/- Geometries by plain numbers: when one is right, what each sector is, and where each thing lies. No condition. -/
namespace Go.Proofs.Ytcigijhoeghnnaa.geom
set_option linter.unusedVariables false

/-- a geometry -/
structure Geo where
  (sector slot data quota tries life : Int)
def Geo.Right (g : Geo) : Prop :=
  (64 ≤ g.sector ∧ g.sector ≤ 1024) ∧ (2 ≤ g.slot ∧ g.slot ≤ 32) ∧ (2 ≤ g.quota ∧ g.quota ≤ g.sector - 8) ∧ (g.quota + 3 ≤ g.data ∧ g.data ≤ 128) ∧ (1 ≤ g.tries ∧ g.tries ≤ 9) ∧ (1 ≤ g.life ∧ g.life ≤ 1073741823)
instance (g : Geo) : Decidable g.Right := by unfold Geo.Right; infer_instance
/-- the first part of a geometry that is not right -/
theorem Geo.wrong {g : Geo} (h : ¬ g.Right) :
    (g.sector < 64 ∨ 1024 < g.sector) ∨
    ((64 ≤ g.sector ∧ g.sector ≤ 1024) ∧ (g.slot < 2 ∨ 32 < g.slot)) ∨
    ((64 ≤ g.sector ∧ g.sector ≤ 1024) ∧ (2 ≤ g.slot ∧ g.slot ≤ 32) ∧ (g.quota < 2 ∨ g.sector - 8 < g.quota)) ∨
    ((64 ≤ g.sector ∧ g.sector ≤ 1024) ∧ (2 ≤ g.slot ∧ g.slot ≤ 32) ∧ (2 ≤ g.quota ∧ g.quota ≤ g.sector - 8) ∧ (g.data < g.quota + 3 ∨ 128 < g.data)) ∨
    ((64 ≤ g.sector ∧ g.sector ≤ 1024) ∧ (2 ≤ g.slot ∧ g.slot ≤ 32) ∧ (2 ≤ g.quota ∧ g.quota ≤ g.sector - 8) ∧ (g.quota + 3 ≤ g.data ∧ g.data ≤ 128) ∧ (g.tries < 1 ∨ 9 < g.tries)) ∨
    ((64 ≤ g.sector ∧ g.sector ≤ 1024) ∧ (2 ≤ g.slot ∧ g.slot ≤ 32) ∧ (2 ≤ g.quota ∧ g.quota ≤ g.sector - 8) ∧ (g.quota + 3 ≤ g.data ∧ g.data ≤ 128) ∧ (1 ≤ g.tries ∧ g.tries ≤ 9) ∧ (g.life < 1 ∨ 1073741823 < g.life)) := by
  unfold Geo.Right at h
  omega
/-- the sectors of a geometry -/
def Geo.pages (g : Geo) : Int := 2 + 2 * g.slot
def Geo.sectors (g : Geo) : Int := if g.Right then 2 + 2 * g.slot + g.data else 0
/-- what sector k is -/
def Geo.at (g : Geo) (k : Int) : Int × Int × Int :=
  if k < 2 then (0, 0, k) else if 2 + 2 * g.slot ≤ k then (3, 0, k - (2 + 2 * g.slot)) else if (k - 2) % g.slot = 0 then (1, (k - 2) / g.slot, 0) else (2, (k - 2) / g.slot, (k - 2) % g.slot - 1)
def Geo.ledger (g : Geo) (a : Int) : Int := if g.Right ∧ 0 ≤ a ∧ a ≤ 1 then 2 + a * g.slot else -1
def Geo.chunk (g : Geo) (a i : Int) : Int := if g.Right ∧ (0 ≤ a ∧ a ≤ 1) ∧ 0 ≤ i ∧ i ≤ g.slot - 2 then 2 + a * g.slot + 1 + i else -1
def Geo.page (g : Geo) (p : Int) : Int := if g.Right ∧ 0 ≤ p ∧ p ≤ g.data - 1 then 2 + 2 * g.slot + p else -1
def Geo.long (g : Geo) : Int := if g.Right then 4 * g.sector else 0
def Geo.cap (g : Geo) : Int := if g.Right then 4 * g.sector * (g.slot - 1) else 0
def Geo.chunks (g : Geo) (t : Int) : Int := if g.Right ∧ 1 ≤ t ∧ t ≤ 4 * g.sector * (g.slot - 1) then (t - 1) / (4 * g.sector) + 1 else 0
def Geo.part (g : Geo) (t i : Int) : Int := if 0 ≤ i ∧ i ≤ g.chunks t - 1 then min (4 * g.sector) (t - i * (4 * g.sector)) else 0

/-- the first sector that is such a thing, or -1 -/
def Geo.IsFind (g : Geo) (t : Int × Int × Int) (v : Int) : Prop :=
  (0 ≤ v ∧ v < g.sectors ∧ g.at v = t) ∨ (v = -1 ∧ ∀ k, 0 ≤ k → k < g.sectors → g.at k ≠ t)

theorem Geo.at_cases (g : Geo) (h : g.Right) (k : Int) (h0 : 0 ≤ k) (h1 : k < g.sectors) :
    (k < 2 ∧ g.at k = (0, 0, k)) ∨ (2 + 2 * g.slot ≤ k ∧ k < 2 + 2 * g.slot + g.data ∧ g.at k = (3, 0, k - (2 + 2 * g.slot))) ∨
    (∃ a, 0 ≤ a ∧ a ≤ 1 ∧ k = 2 + a * g.slot ∧ g.at k = (1, a, 0)) ∨ (∃ a i, 0 ≤ a ∧ a ≤ 1 ∧ 0 ≤ i ∧ i ≤ g.slot - 2 ∧ k = 2 + a * g.slot + 1 + i ∧ g.at k = (2, a, i)) := by
  have hr := h
  unfold Geo.Right at hr
  unfold Geo.sectors at h1
  rw [if_pos h] at h1
  by_cases c1 : k < 2
  · exact .inl ⟨c1, by rw [Geo.at, if_pos c1]⟩
  · by_cases c2 : 2 + 2 * g.slot ≤ k
    · exact .inr (.inl ⟨c2, h1, by rw [Geo.at, if_neg c1, if_pos c2]⟩)
    · have hs : 0 < g.slot := by omega
      have m0 := Int.emod_nonneg (k - 2) (show g.slot ≠ 0 by omega)
      have m1 := Int.emod_lt_of_pos (k - 2) hs
      have me := Int.mul_ediv_add_emod (k - 2) g.slot
      have q0 : 0 ≤ (k - 2) / g.slot := Int.ediv_nonneg (by omega) (by omega)
      have q1 : (k - 2) / g.slot < 2 := by
        rw [Int.ediv_lt_iff_lt_mul hs]; omega
      by_cases c3 : (k - 2) % g.slot = 0
      · refine .inr (.inr (.inl ⟨(k - 2) / g.slot, q0, by omega, ?_, by rw [Geo.at, if_neg c1, if_neg c2, if_pos c3]⟩))
        rw [Int.mul_comm]; omega
      · refine .inr (.inr (.inr ⟨(k - 2) / g.slot, (k - 2) % g.slot - 1, q0, by omega, by omega, by omega, ?_, by rw [Geo.at, if_neg c1, if_neg c2, if_neg c3]⟩))
        rw [Int.mul_comm]; omega
theorem Geo.at_ledger (g : Geo) (h : g.Right) (a : Int) (h0 : 0 ≤ a) (h1 : a ≤ 1) : g.at (2 + a * g.slot) = (1, a, 0) ∧ 0 ≤ 2 + a * g.slot ∧ 2 + a * g.slot < g.sectors := by
  have hr := h
  unfold Geo.Right at hr
  rw [Geo.sectors, if_pos h]
  have : a = 0 ∨ a = 1 := by omega
  have hs : g.slot ≠ 0 := by omega
  rcases this with rfl | rfl
  · refine ⟨?_, by omega, by omega⟩
    rw [Geo.at, if_neg (by omega), if_neg (by omega), if_pos (by simp)]
    simp
  · refine ⟨?_, by omega, by omega⟩
    rw [Geo.at, if_neg (by omega), if_neg (by omega), if_pos (by rw [show 2 + 1 * g.slot - 2 = g.slot by omega]; exact Int.emod_self)]
    rw [show 2 + 1 * g.slot - 2 = g.slot by omega, Int.ediv_self hs]
theorem Geo.at_chunk (g : Geo) (h : g.Right) (a i : Int) (h0 : 0 ≤ a) (h1 : a ≤ 1) (h2 : 0 ≤ i) (h3 : i ≤ g.slot - 2) : g.at (2 + a * g.slot + 1 + i) = (2, a, i) ∧ 0 ≤ 2 + a * g.slot + 1 + i ∧ 2 + a * g.slot + 1 + i < g.sectors := by
  have hr := h
  unfold Geo.Right at hr
  rw [Geo.sectors, if_pos h]
  have ha : a = 0 ∨ a = 1 := by omega
  have hs : g.slot ≠ 0 := by omega
  have hb : 0 ≤ a * g.slot ∧ a * g.slot ≤ g.slot := by rcases ha with rfl | rfl <;> omega
  have e : 2 + a * g.slot + 1 + i - 2 = (i + 1) + a * g.slot := by omega
  have e1 : ((i + 1) + a * g.slot) % g.slot = i + 1 := by
    rw [Int.add_mul_emod_self_right, Int.emod_eq_of_lt (by omega) (by omega)]
  have e2 : ((i + 1) + a * g.slot) / g.slot = a := by
    rw [Int.add_mul_ediv_right _ _ hs, Int.ediv_eq_zero_of_lt (by omega) (by omega)]; omega
  refine ⟨?_, by omega, by omega⟩
  rw [Geo.at, if_neg (by omega), if_neg (by omega), if_neg (by rw [e, e1]; omega), e, e1, e2]
  simp
theorem Geo.at_page (g : Geo) (h : g.Right) (p : Int) (h0 : 0 ≤ p) (h1 : p ≤ g.data - 1) : g.at (2 + 2 * g.slot + p) = (3, 0, p) ∧ 0 ≤ 2 + 2 * g.slot + p ∧ 2 + 2 * g.slot + p < g.sectors := by
  have hr := h
  unfold Geo.Right at hr
  rw [Geo.sectors, if_pos h]
  refine ⟨?_, by omega, by omega⟩
  rw [Geo.at, if_neg (by omega), if_pos (by omega), show 2 + 2 * g.slot + p - (2 + 2 * g.slot) = p by omega]
theorem Geo.find_ledger {g : Geo} {a v : Int} (h : g.IsFind (1, a, 0) v) : v = g.ledger a := by
  by_cases hr : g.Right
  · rcases h with ⟨h0, h1, h2⟩ | ⟨rfl, hn⟩
    · rcases g.at_cases hr v h0 h1 with ⟨_, e⟩ | ⟨_, _, e⟩ | ⟨b, b0, b1, hk, e⟩ | ⟨b, i, _, _, _, _, _, e⟩
      · rw [e] at h2; simp at h2
      · rw [e] at h2; simp at h2
      · rw [e] at h2; simp at h2; subst h2; rw [Geo.ledger, if_pos ⟨hr, b0, b1⟩, hk]
      · rw [e] at h2; simp at h2
    · by_cases ha : 0 ≤ a ∧ a ≤ 1
      · obtain ⟨e, e0, e1⟩ := g.at_ledger hr a ha.1 ha.2
        exact absurd e (hn _ e0 e1)
      · rw [Geo.ledger, if_neg (fun k => ha k.2)]
  · rcases h with ⟨h0, h1, h2⟩ | ⟨rfl, hn⟩
    · rw [Geo.sectors, if_neg hr] at h1; omega
    · rw [Geo.ledger, if_neg (fun k => hr k.1)]
theorem Geo.find_chunk {g : Geo} {a b v : Int} (h : g.IsFind (2, a, b) v) : v = g.chunk a b := by
  by_cases hr : g.Right
  · rcases h with ⟨h0, h1, h2⟩ | ⟨rfl, hn⟩
    · rcases g.at_cases hr v h0 h1 with ⟨_, e⟩ | ⟨_, _, e⟩ | ⟨b, b0, b1, hk, e⟩ | ⟨b, i, b0, b1, i0, i1, hk, e⟩
      · rw [e] at h2; simp at h2
      · rw [e] at h2; simp at h2
      · rw [e] at h2; simp at h2
      · rw [e] at h2; simp at h2; obtain ⟨rfl, rfl⟩ := h2; rw [Geo.chunk, if_pos ⟨hr, ⟨b0, b1⟩, i0, i1⟩, hk]
    · by_cases ha : (0 ≤ a ∧ a ≤ 1) ∧ 0 ≤ b ∧ b ≤ g.slot - 2
      · obtain ⟨e, e0, e1⟩ := g.at_chunk hr a b ha.1.1 ha.1.2 ha.2.1 ha.2.2
        exact absurd e (hn _ e0 e1)
      · rw [Geo.chunk, if_neg (fun k => ha k.2)]
  · rcases h with ⟨h0, h1, h2⟩ | ⟨rfl, hn⟩
    · rw [Geo.sectors, if_neg hr] at h1; omega
    · rw [Geo.chunk, if_neg (fun k => hr k.1)]
theorem Geo.find_page {g : Geo} {b v : Int} (h : g.IsFind (3, 0, b) v) : v = g.page b := by
  by_cases hr : g.Right
  · rcases h with ⟨h0, h1, h2⟩ | ⟨rfl, hn⟩
    · rcases g.at_cases hr v h0 h1 with ⟨_, e⟩ | ⟨c1, c2, e⟩ | ⟨b, b0, b1, hk, e⟩ | ⟨b, i, b0, b1, i0, i1, hk, e⟩
      · rw [e] at h2; simp at h2
      · rw [e] at h2; simp at h2; subst h2; rw [Geo.page, if_pos ⟨hr, by omega, by omega⟩]; omega
      · rw [e] at h2; simp at h2
      · rw [e] at h2; simp at h2
    · by_cases ha : 0 ≤ b ∧ b ≤ g.data - 1
      · obtain ⟨e, e0, e1⟩ := g.at_page hr b ha.1 ha.2
        exact absurd e (hn _ e0 e1)
      · rw [Geo.page, if_neg (fun k => ha k.2)]
  · rcases h with ⟨h0, h1, h2⟩ | ⟨rfl, hn⟩
    · rw [Geo.sectors, if_neg hr] at h1; omega
    · rw [Geo.page, if_neg (fun k => hr k.1)]
end Go.Proofs.Ytcigijhoeghnnaa.geom
/- A drive as values: what each call answers, and what it makes of the flash. No condition. -/
namespace Go.Proofs.Ytcigijhoeghnnaa.drive
open Go.Proofs.Ytcigijhoeghnnaa.flash Go.Proofs.Ytcigijhoeghnnaa.geom Go.Proofs.Ytcigijhoeghnnaa.word
set_option linter.unusedVariables false

/-- the error of an access to a run: 3: it is not there, 10: no power -/
def bad (F : Fl) (g : Geo) (s a n : Int) : Int :=
  if 0 ≤ s ∧ s < g.sectors ∧ 0 ≤ a ∧ 0 ≤ n ∧ n ≤ g.sector - a then (if F.dark = true then 10 else 0) else 3
theorem bad_zero {F : Fl} {g : Geo} {s a n : Int} (h : bad F g s a n = 0) : (0 ≤ s ∧ s < g.sectors ∧ 0 ≤ a ∧ 0 ≤ n ∧ n ≤ g.sector - a) ∧ F.dark = false := by
  unfold bad at h
  split at h
  · rename_i h1
    split at h
    · cases h
    · exact ⟨h1, by simpa using ‹¬ F.dark = true›⟩
  · cases h
theorem bad_or (F : Fl) (g : Geo) (s a n : Int) : bad F g s a n = 0 ∨ bad F g s a n = 3 ∨ bad F g s a n = 10 := by
  unfold bad
  split
  · split
    · exact .inr (.inr rfl)
    · exact .inl rfl
  · exact .inr (.inl rfl)
def addr (g : Geo) (s a : Int) : Nat := (s * g.sector + a).toNat
def span (F : Fl) (a n : Nat) : List Nat := (List.range n).map fun i => F.ws.getD (a + i) 0
theorem span_length (F : Fl) (a n : Nat) : (span F a n).length = n := by simp [span]
theorem span_getD (F : Fl) (a n i : Nat) (h : i < n) : (span F a n).getD i 0 = F.ws.getD (a + i) 0 := by
  simp [span, List.getD_eq_getElem?_getD, h]
def read (F : Fl) (g : Geo) (s a n : Int) : List Nat × Int := if bad F g s a n ≠ 0 then ([], bad F g s a n) else (span F (addr g s a) n.toNat, 0)
def fits (F : Fl) (a : Nat) (W : List Nat) : Prop := ∀ i, i < W.length → clr (W.getD i 0) (F.ws.getD (a + i) 0) = 0
instance (F : Fl) (a : Nat) (W : List Nat) : Decidable (fits F a W) := Nat.decidableBallLT W.length fun i _ => clr (W.getD i 0) (F.ws.getD (a + i) 0) = 0
/-- word after word: what differs is programmed; the first error ends it -/
def prog (F : Fl) (a : Nat) : List Nat → Int × Fl
  | [] => (0, F)
  | x :: l => if F.ws.getD a 0 = x then prog F (a + 1) l else if (F.program a x).1 ≠ 0 then F.program a x else prog (F.program a x).2 (a + 1) l
def write (F : Fl) (g : Geo) (s a : Int) (W : List Nat) : Int × Fl :=
  if bad F g s a W.length ≠ 0 then (bad F g s a W.length, F) else if ¬ fits F (addr g s a) W then (11, F) else prog F (addr g s a) W
/-- are the n words from a on ones? -/
def ones (F : Fl) (a n : Nat) : Bool := (List.range n).all fun i => F.ws.getD (a + i) 0 == 4294967295
def blankAt (F : Fl) (g : Geo) (s a : Int) : Bool × Int :=
  if bad F g s a (g.sector - a) ≠ 0 then (false, bad F g s a (g.sector - a)) else (ones F (addr g s a) (g.sector - a).toNat, 0)
def clean (F : Fl) (g : Geo) (s : Int) : Int × Fl := if (blankAt F g s 0).2 ≠ 0 ∨ (blankAt F g s 0).1 = true then ((blankAt F g s 0).2, F) else F.erase s
def fresh (F : Fl) (g : Geo) (s : Int) (W : List Nat) : Int × Fl :=
  if bad F g s 0 W.length ≠ 0 then (bad F g s 0 W.length, F) else if (clean F g s).1 ≠ 0 then clean F g s else write (clean F g s).2 g s 0 W

/-- a flash that has the sectors of a geometry -/
structure Fit (F : Fl) (g : Geo) : Prop where
  right : g.Right
  n : (F.worn.length : Int) = g.sectors
  l : (F.long : Int) = g.sector
/-- nothing but words, wear, writes, power and the fuse has turned -/
structure Like (F G : Fl) : Prop where
  long : G.long = F.long
  worn : G.worn.length = F.worn.length
theorem Like.refl (F : Fl) : Like F F := ⟨rfl, rfl⟩
theorem Like.trans {F G H : Fl} (h : Like F G) (k : Like G H) : Like F H := ⟨k.long.trans h.long, k.worn.trans h.worn⟩
theorem Fit.like {F G : Fl} {g : Geo} (h : Fit F g) (k : Like F G) : Fit G g := ⟨h.right, by rw [k.worn]; exact h.n, by rw [k.long]; exact h.l⟩
theorem Like.ws {F G : Fl} (h : Like F G) (ok : F.Ok) (ok2 : G.Ok) : G.ws.length = F.ws.length := by rw [ok.n, ok2.n, h.long, h.worn]
theorem program_like (F : Fl) (a : Int) (x : Nat) : Like F (F.program a x).2 := by
  unfold Fl.program
  split
  · exact .refl F
  · split
    · exact .refl F
    · split
      · exact .refl F
      · split <;> exact ⟨rfl, rfl⟩
theorem erase_like (F : Fl) (s : Int) : Like F (F.erase s).2 := by
  unfold Fl.erase
  split
  · exact .refl F
  · split
    · exact .refl F
    · split <;> exact ⟨rfl, Fl.worn1_length F _⟩
theorem program_count (F : Fl) (a : Int) (x : Nat) : F.count ≤ (F.program a x).2.count ∧ (F.program a x).2.count ≤ F.count + 1 := by
  unfold Fl.program
  split
  · exact ⟨Nat.le_refl _, Nat.le_succ _⟩
  · split
    · exact ⟨Nat.le_refl _, Nat.le_succ _⟩
    · split
      · exact ⟨Nat.le_refl _, Nat.le_succ _⟩
      · split <;> exact ⟨Nat.le_succ _, Nat.le_refl _⟩
theorem erase_count (F : Fl) (s : Int) : F.count ≤ (F.erase s).2.count ∧ (F.erase s).2.count ≤ F.count + 1 := by
  unfold Fl.erase
  split
  · exact ⟨Nat.le_refl _, Nat.le_succ _⟩
  · split
    · exact ⟨Nat.le_refl _, Nat.le_succ _⟩
    · split <;> exact ⟨Nat.le_succ _, Nat.le_refl _⟩
/-- what stands behind a call that writes at most n times -/
structure Step (F G : Fl) (n : Nat) : Prop where
  ok : G.Ok
  like : Like F G
  c1 : F.count ≤ G.count
  c2 : G.count ≤ F.count + n
theorem Step.refl {F : Fl} (ok : F.Ok) (n : Nat) : Step F F n := ⟨ok, .refl F, Nat.le_refl _, Nat.le_add_right _ _⟩
theorem Step.trans {F G H : Fl} {n m : Nat} (h : Step F G n) (k : Step G H m) : Step F H (n + m) := ⟨k.ok, h.like.trans k.like, by have := h.c1; have := k.c1; omega, by have := h.c2; have := k.c2; omega⟩
theorem Step.more {F G : Fl} {n m : Nat} (h : Step F G n) (hn : n ≤ m) : Step F G m := ⟨h.ok, h.like, h.c1, by have := h.c2; omega⟩
theorem program_step {F : Fl} (ok : F.Ok) (a : Int) {x : Nat} (hx : x < 4294967296) : Step F (F.program a x).2 1 := ⟨ok.program a hx, program_like F a x, (program_count F a x).1, (program_count F a x).2⟩
theorem erase_step {F : Fl} (ok : F.Ok) (s : Int) : Step F (F.erase s).2 1 := ⟨ok.erase s, erase_like F s, (erase_count F s).1, (erase_count F s).2⟩
theorem prog_step : ∀ (W : List Nat) (F : Fl) (a : Nat), F.Ok → (∀ x ∈ W, x < 4294967296) → Step F (prog F a W).2 W.length
  | [], F, a, ok, _ => .refl ok _
  | x :: l, F, a, ok, hw => by
    rw [prog]
    split
    · exact (prog_step l F (a + 1) ok fun y hy => hw y (List.mem_cons_of_mem _ hy)).more (by simp)
    · have h1 := program_step ok a (hw x List.mem_cons_self)
      split
      · exact h1.more (by simp)
      · have h2 := h1.trans (prog_step l _ (a + 1) h1.ok fun y hy => hw y (List.mem_cons_of_mem _ hy))
        exact h2.more (by simp; omega)
theorem write_step {F : Fl} (ok : F.Ok) (g : Geo) (s a : Int) {W : List Nat} (hw : ∀ x ∈ W, x < 4294967296) : Step F (write F g s a W).2 W.length := by
  unfold write
  split
  · exact .refl ok _
  · split
    · exact .refl ok _
    · exact prog_step W F _ ok hw
theorem clean_step {F : Fl} (ok : F.Ok) (g : Geo) (s : Int) : Step F (clean F g s).2 1 := by
  unfold clean
  split
  · exact .refl ok _
  · exact erase_step ok s
theorem fresh_step {F : Fl} (ok : F.Ok) (g : Geo) (s : Int) {W : List Nat} (hw : ∀ x ∈ W, x < 4294967296) : Step F (fresh F g s W).2 (W.length + 1) := by
  unfold fresh
  split
  · exact .refl ok _
  · have h1 := clean_step ok g s
    split
    · exact h1.more (by omega)
    · exact (h1.trans (write_step h1.ok g s 0 hw)).more (by omega)
/-- an act, and what it answers -/
def step (F : Fl) (g : Geo) (k s a n : Int) (W : List Nat) : (List Nat × Bool × Int) × Fl :=
  if k = 0 then (((read F g s a n).1, false, (read F g s a n).2), F) else
  if k = 1 ∨ k = 2 then (([], false, (write F g s a W).1), (write F g s a W).2) else
  if k = 3 then (([], (blankAt F g s a).1, (blankAt F g s a).2), F) else
  if k = 4 then (([], false, (clean F g s).1), (clean F g s).2) else
  if k = 5 then (([], false, (fresh F g s W).1), (fresh F g s W).2) else
  if k = 6 then (([], false, 0), F.arm n W) else if k = 7 then (([], false, 0), F.power) else (([], false, 0), F)
theorem step_step {F : Fl} (ok : F.Ok) (g : Geo) {k s a n : Int} {W : List Nat} (hn : n ≤ 9223372036854775807) (hl : W.length ≤ 140737488355328) (hw : ∀ x ∈ W, x < 4294967296) : Step F (step F g k s a n W).2 (W.length + 1) := by
  unfold step
  split
  · exact .refl ok _
  · split
    · exact (write_step ok g s a hw).more (by omega)
    · split
      · exact .refl ok _
      · split
        · exact (clean_step ok g s).more (by omega)
        · split
          · exact fresh_step ok g s hw
          · split
            · exact ⟨ok.arm hn hl hw, ⟨rfl, rfl⟩, Nat.le_refl _, Nat.le_add_right _ _⟩
            · split
              · exact ⟨ok.power, ⟨rfl, rfl⟩, Nat.le_refl _, Nat.le_add_right _ _⟩
              · exact .refl ok _

/-- where a run lies -/
theorem addr_in {F : Fl} {g : Geo} (ok : F.Ok) (ft : Fit F g) {s a n : Int} (h : 0 ≤ s ∧ s < g.sectors ∧ 0 ≤ a ∧ 0 ≤ n ∧ n ≤ g.sector - a) :
    ((addr g s a : Nat) : Int) = s * g.sector + a ∧ (addr g s a) + n.toNat ≤ F.ws.length ∧ 0 ≤ s * g.sector ∧ s * g.sector ≤ 524288 ∧ n ≤ 1024 ∧ a ≤ 1024 := by
  obtain ⟨h1, h2, h3, h4, h5⟩ := h
  have hr := ft.right
  unfold Geo.Right at hr
  have hw := ok.ws_le
  obtain ⟨k, rfl⟩ := Int.eq_ofNat_of_zero_le h1
  have hk : k < F.worn.length := by have := ft.n; omega
  have hs := ok.sector hk
  have e : (k : Int) * g.sector = ((k * F.long : Nat) : Int) := by rw [← ft.l]; simp
  have hl := ft.l
  unfold addr
  rw [e]
  omega
end Go.Proofs.Ytcigijhoeghnnaa.drive
/- A block that is known whole: what its cells are before and behind stores. No condition. -/
namespace Go.Proofs.Ytcigijhoeghnnaa
open Go.RowKit
set_option linter.unusedVariables false

/-- block b holds just these cells, and may be written -/
def Block (w : World) (b : Nat) (t : TypeId) (cs : List Value) : Prop := w.heap[b]? = some (.cells cs.toArray t (0, 0))
theorem Block.lt {w : World} {b : Nat} {t : TypeId} {cs : List Value} (h : Block w b t cs) : b < w.heap.size := (Array.getElem?_eq_some_iff.1 h).1
theorem Block.cell {w : World} {b : Nat} {t : TypeId} {cs : List Value} (h : Block w b t cs) (j : Nat) : w.cell? ⟨b, j, none⟩ = cs[j]? := by
  rw [cell_of_row w b j cs.toArray t (0, 0) h]; simp
theorem Block.frozen {w : World} {b : Nat} {t : TypeId} {cs : List Value} (h : Block w b t cs) (j : Nat) : w.frozen? ⟨b, j, none⟩ = false := frozen_of_row w b j cs.toArray t h
theorem Block.range {w : World} {b : Nat} {t : TypeId} {cs : List Value} (h : Block w b t cs) (o : Nat) (vs : List Value) (hv : ∀ j v, vs[j]? = some v → cs[o + j]? = some v) : w.rangeAt b o vs :=
  fun j v hj => by rw [h.cell]; exact hv j v hj
theorem Block.whole {w : World} {b : Nat} {t : TypeId} {cs : List Value} (h : Block w b t cs) : w.rangeAt b 0 cs := h.range 0 cs (fun j v hj => by rw [Nat.zero_add]; exact hj)
theorem Block.there {w : World} {b : Nat} {t : TypeId} {cs : List Value} (h : Block w b t cs) (o n : Nat) (hn : o + n ≤ cs.length) : w.there b o n :=
  fun j hj => ⟨by rw [h.cell, List.getElem?_eq_getElem (by omega)]; rfl, h.frozen _⟩
theorem Block.setCell {w : World} {b : Nat} {t : TypeId} {cs : List Value} (h : Block w b t cs) (j : Nat) (v : Value) : Block (w.setCell ⟨b, j, none⟩ v) b t (cs.set j v) := by
  have := heap_setCell_same w b j cs.toArray t v h
  unfold Block
  rw [this]
  simp
/-- the cells from o on turned -/
def put (cs : List Value) : Nat → List Value → List Value
  | _, [] => cs
  | o, v :: r => put (cs.set o v) (o + 1) r
theorem put_mid (A X C Y : List Value) (h : X.length = Y.length) : put (A ++ X ++ C) A.length Y = A ++ Y ++ C := by
  induction Y generalizing A X with
  | nil => obtain rfl : X = [] := List.eq_nil_of_length_eq_zero (by simpa using h); rfl
  | cons y r ih =>
    cases X with
    | nil => simp at h
    | cons x X =>
      have e : (A ++ x :: X ++ C).set A.length y = (A ++ [y]) ++ X ++ C := by simp
      have := ih (A ++ [y]) X (by simpa using h)
      rw [put, e, show A.length + 1 = (A ++ [y]).length by simp, this]
      simp
theorem put_all (X Y : List Value) (h : X.length = Y.length) : put X 0 Y = Y := by
  have := put_mid [] X [] Y h
  simpa using this
theorem Block.setCells {b : Nat} {t : TypeId} : ∀ {vs : List Value} {o : Nat} {w : World} {cs : List Value}, Block w b t cs → Block (w.setCells b o vs) b t (put cs o vs)
  | [], _, _, _, h => h
  | v :: r, o, w, cs, h => Block.setCells (vs := r) (o := o + 1) (h.setCell o v)
theorem Block.alloc {w : World} {b : Nat} {t : TypeId} {cs : List Value} (h : Block w b t cs) (ob : Obj) : Block (w.alloc ob) b t cs := (Below.heap_alloc w ob b h.lt).trans h
theorem Block.new (w : World) (t : TypeId) (cs : List Value) : Block (w.alloc (.cells cs.toArray t)) w.heap.size t cs := heap_alloc_last w _
theorem Block.drewN {w : World} {b : Nat} {t : TypeId} {cs : List Value} (h : Block w b t cs) (n : Nat) : Block (w.drewN n) b t cs := h
theorem Block.below {w w' : World} {b B : Nat} {t : TypeId} {cs : List Value} (h : Block w b t cs) (hb : Below B w w') (hB : b < B) : Block w' b t cs := (hb.block b hB).trans h
theorem Block.later {w w' : World} {b : Nat} {t : TypeId} {cs : List Value} (h : Block w b t cs) (hb : Below w.heap.size w w') : Block w' b t cs := h.below hb h.lt
theorem Block.apart {w : World} {b : Nat} {t : TypeId} {cs : List Value} (h : Block w b t cs) (g o : Nat) (v : Value) (hg : b ≠ g) : Block (w.setCell ⟨g, o, none⟩ v) b t cs :=
  (Below.heap_setCell w ⟨g, o, none⟩ v b hg).trans h
theorem heap_setCells (g : Nat) : ∀ (vs : List Value) (o : Nat) (w : World) (k : Nat), k ≠ g → (w.setCells g o vs).heap[k]? = w.heap[k]?
  | [], _, _, _, _ => rfl
  | v :: r, o, w, k, h => (heap_setCells g r (o + 1) _ k h).trans (Below.heap_setCell w ⟨g, o, none⟩ v k h)
theorem size_setCells (g : Nat) : ∀ (vs : List Value) (o : Nat) (w : World), (w.setCells g o vs).heap.size = w.heap.size
  | [], _, _ => rfl
  | v :: r, o, w => (size_setCells g r (o + 1) _).trans (by simp)
theorem rest_setCells (g : Nat) : ∀ (vs : List Value) (o : Nat) (w : World), (w.setCells g o vs).os = w.os ∧ (w.setCells g o vs).tape = w.tape ∧ (w.setCells g o vs).output = w.output
  | [], _, _ => ⟨rfl, rfl, rfl⟩
  | v :: r, o, w => rest_setCells g r (o + 1) (w.setCell ⟨g, o, none⟩ v)
theorem Block.aparts {w : World} {b : Nat} {t : TypeId} {cs : List Value} (h : Block w b t cs) (g o : Nat) (vs : List Value) (hg : b ≠ g) : Block (w.setCells g o vs) b t cs :=
  (heap_setCells g vs o w b hg).trans h
theorem below_setCells {B g : Nat} {a w : World} (h : Below B a w) (hg : B ≤ g) (o : Nat) (vs : List Value) : Below B a (w.setCells g o vs) :=
  h.trans ⟨(rest_setCells g vs o w).1, (rest_setCells g vs o w).2.1, (rest_setCells g vs o w).2.2, by rw [size_setCells]; exact Nat.le_refl _, fun k hk => heap_setCells g vs o w k (by omega)⟩

/-- copy into a block -/
theorem wpList_copy_block {P : Program} {w : World} {ops : Array Oper} {rest : List Oper} {o : Oper} {a : Act} {Q : Exit → Act → World → Prop} (hgd : o.guard = none) (d s : Operand) (dT sT : TypeId)
    (ho : o.op = .call { callee := .builtin .copy, args := #[d, s], argTypes := #[dT, sT] }) (elem : TypeId) (hu : P.underlying dT = some (.slice elem)) (hsz : (P.info? elem).map (·.size) = some 1)
    (b off dLen dCap : Nat) (ad : Addr) (sLen sCap : Nat) (hd : a.eval d = .slice (some ⟨b, off, none⟩) dLen dCap) (hs : a.eval s = .slice (some ad) sLen sCap)
    (cs : List Value) (hn : cs.length = Nat.min sLen dLen) (hsrc : ∀ j v, cs[j]? = some v → w.cell? (ad.add j) = some v) (hth : w.there b off cs.length) (h1 : ∀ v ∈ cs, v.oneCell' = true)
    (h : wpList P ops Q rest (a.put o.dst (goInt cs.length)) (w.setCells b off cs)) : wpList P ops Q (o :: rest) a w := by
  refine wpList_plain hgd fun K hK => ?_
  have hrun := run_copy_cells (P := P) w dT sT o.type elem b off dLen dCap ad sLen sCap cs hu hsz hn hsrc (fun j hj => (hth j hj).1) (fun j hj => (hth j hj).2) h1
  unfold Oper.wp
  simp [execOp, ho, resolve, invoke, builtin, hd, hs, hrun, Result.andThen]
  exact hK _ _ h

/-- a store of a whole array; the world behind it gets a name -/
theorem wpList_store_named {P : Program} {w : World} {ops : Array Oper} {rest : List Oper} {op : Oper} {a : Act} {Q : Exit → Act → World → Prop} (hgd : op.guard = none) (ty : TypeId) (x y : Operand) (ho : op.op = .store ty x y)
    (b o : Nat) (cells : Array Value) (hx : a.eval x = .pointer (some ⟨b, o, none⟩)) (hy : a.eval y = .agg cells)
    (ht : w.there b o cells.size) (hi : (P.info? ty).map (·.size) = some cells.size) (h1 : cells.all (·.oneCell') = true)
    (h : ∀ w', Hid (w.setCells b o cells.toList = w') → wpList P ops Q rest (a.put op.dst undef) w') : wpList P ops Q (op :: rest) a w :=
  wpList_store_mid hgd ty x y ho b o cells hx hy ht hi h1 (h _ rfl)

/-- a result that is an array and lives in a variable -/
theorem results_cell {fn : Func} {p : Tmp} {ty : TypeId} {tmps : Array Value} {P : Program} {w : World} {b o : Nat} {cs : List Value} {d : TypeDesc} (h : fn.results = #[.cell p ty])
    (hp : tmps.getD p undef = .pointer (some ⟨b, o, none⟩)) (hc : w.rangeAt b o cs) (hu : P.underlying ty = some d) (hd : d.isRow = true) (hi : (P.info? ty).map (·.size) = some cs.length) :
    (results fn tmps).run P w = .ok (.agg cs.toArray) w := by
  simp only [results, h]
  simp at hp
  simp [hp, asAddr, run_loadVar_mid w b o ty cs d hc hu hd hi]

theorem ownsRow_later {w w' : World} {base e size n : Nat} {v : Value} {xs : List Value} (h : w.ownsRow base e size v n xs) (hb : Below w.heap.size w w') : w'.ownsRow base e size v n xs := by
  refine ⟨h.1, ?_⟩
  rcases h.2 with h0 | ⟨g, cap, cur, hv, h1, hg, h2, h3, h4, h5⟩
  · exact .inl h0
  · exact .inr ⟨g, cap, cur, hv, h1, (hb.block g (Array.getElem?_eq_some_iff.1 hg).1).trans hg, h2, h3, h4, h5⟩
/-- below B only block g may have changed -/
def But (B g : Nat) (w w' : World) : Prop :=
  w'.os = w.os ∧ w'.tape = w.tape ∧ w'.output = w.output ∧ w.heap.size ≤ w'.heap.size ∧ ∀ k, k < B → k ≠ g → w'.heap[k]? = w.heap[k]?
theorem But.refl (B g : Nat) (w : World) : But B g w w := ⟨rfl, rfl, rfl, Nat.le_refl _, fun _ _ _ => rfl⟩
theorem But.trans {B g : Nat} {a b c : World} (h : But B g a b) (k : But B g b c) : But B g a c :=
  ⟨k.1.trans h.1, k.2.1.trans h.2.1, k.2.2.1.trans h.2.2.1, Nat.le_trans h.2.2.2.1 k.2.2.2.1, fun j h1 h2 => (k.2.2.2.2 j h1 h2).trans (h.2.2.2.2 j h1 h2)⟩
theorem Below.but {B g : Nat} {a b : World} (h : Below B a b) : But B g a b := ⟨h.os, h.tape, h.output, h.size, fun k hk _ => h.block k hk⟩
theorem But.below {B B' g : Nat} {a b : World} (h : But B g a b) (hB : B' ≤ B) (hg : B' ≤ g) : Below B' a b := ⟨h.1, h.2.1, h.2.2.1, h.2.2.2.1, fun k hk => h.2.2.2.2 k (by omega) (by omega)⟩
theorem But.mono {B B' g : Nat} {a b : World} (h : But B g a b) (hB : B' ≤ B) : But B' g a b := ⟨h.1, h.2.1, h.2.2.1, h.2.2.2.1, fun k hk hg => h.2.2.2.2 k (by omega) hg⟩
theorem But.setCells {B g : Nat} {a w : World} (h : But B g a w) (o : Nat) (vs : List Value) : But B g a (w.setCells g o vs) :=
  h.trans ⟨(rest_setCells g vs o w).1, (rest_setCells g vs o w).2.1, (rest_setCells g vs o w).2.2, by rw [size_setCells]; exact Nat.le_refl _, fun k _ hg => heap_setCells g vs o w k hg⟩
theorem But.setCell {B g : Nat} {a w : World} (h : But B g a w) (o : Nat) (v : Value) : But B g a (w.setCell ⟨g, o, none⟩ v) := h.setCells o [v]
theorem But.step {B g : Nat} {a w w' : World} (h : But B g a w) (k : Below w.heap.size w w') (hB : B ≤ w.heap.size) : But B g a w' := h.trans (Below.but (k.mono hB))
theorem But.drewN {B g : Nat} {a w : World} (h : But B g a w) (n : Nat) : But B g a (w.drewN n) := h
theorem Block.but {w w' : World} {b B g : Nat} {t : TypeId} {cs : List Value} (h : Block w b t cs) (hb : But B g w w') (hB : b < B) (hg : b ≠ g) : Block w' b t cs := (hb.2.2.2.2 b hB hg).trans h
theorem Reads.but {k : IntKind} {w w' : World} {b off len B g : Nat} {xs : List Nat} (h : Reads k w (some ⟨b, off, none⟩) len xs) (hb : But B g w w') (hB : b < B) (hg : b ≠ g) : Reads k w' (some ⟨b, off, none⟩) len xs := by
  refine ⟨h.1, ?_⟩
  rcases h.2 with h | ⟨b', off', ha, hlt, hc⟩
  · exact .inl h
  · cases ha
    refine .inr ⟨b, off, rfl, Nat.lt_of_lt_of_le hlt hb.2.2.2.1, fun i hi => ?_⟩
    rw [World.cell?_of_block (w := w) (hb.2.2.2.2 b hB hg)]; exact hc i hi
/-- part of a block reads as numbers -/
theorem Block.reads {k : IntKind} {w : World} {b : Nat} {t : TypeId} {cs : List Value} (h : Block w b t cs) (o : Nat) (xs : List Nat) (hx : ∀ i, i < xs.length → cs[o + i]? = some (.int k ((xs.getD i 0 : Nat) : Int))) (n : Nat) (hn : xs.length = n) : Reads k w (some ⟨b, o, none⟩) n xs :=
  ⟨hn, .inr ⟨b, o, rfl, h.lt, fun i hi => by rw [h.cell]; exact hx i (by omega)⟩⟩
end Go.Proofs.Ytcigijhoeghnnaa
/- What the arguments of a law read as: slices of unsigned integers. No condition. -/
namespace Go.Proofs.Ytcigijhoeghnnaa
open Go.ChangeShapes Go.WideShapes Go.ChangeAt Go.RowKit
open Go.ChangeMaps (open_string shut_string)

theorem own : ownKnob Try.prog.godebug = none := by kernel_rfl
theorem laidOut : laidOutB Try.prog = true := by kernel_rfl

/-- it returns true, and nothing that was there has turned -/
def Yes (w : World) (e : Ending) (w' : World) : Prop := e = .returned (.bool true) ∧ Below w.heap.size w w'

theorem wf_u8 (n : Int) (h : (Lit.int .u8 n).wf = true) : 0 ≤ n ∧ n < 256 := by
  simp [Lit.wf, IntKind.min, IntKind.max, IntKind.signed, IntKind.bits] at h; omega
theorem wf_u32 (n : Int) (h : (Lit.int .u32 n).wf = true) : 0 ≤ n ∧ n < 4294967296 := by
  simp [Lit.wf, IntKind.min, IntKind.max, IntKind.signed, IntKind.bits] at h; omega
theorem wf_u64 (n : Int) (h : (Lit.int .u64 n).wf = true) : 0 ≤ n ∧ n < 18446744073709551616 := by
  simp [Lit.wf, IntKind.min, IntKind.max, IntKind.signed, IntKind.bits] at h; omega
theorem wf_i64 (n : Int) (h : (Lit.int .i64 n).wf = true) : -9223372036854775808 ≤ n ∧ n ≤ 9223372036854775807 := by
  simp [Lit.wf, IntKind.min, IntKind.max, IntKind.signed, IntKind.bits] at h; omega

theorem open_uints {H : Type} {enc : TypeId × Value → H} {P : Program} {W : World} {t e : TypeId} {k : IntKind} {M bytes : Nat} {a : Option Addr} {len cap : Nat} {d : DataW H} {p : List MemPlace} {ts : List TypeId} {ds : List (DataW H)} {j : Nat}
    (ht : P.underlying t = some (.slice e)) (he : P.underlying e = some (.int k)) (hc : P.cellsOf e = 1) (hby : P.bytesOf e = bytes)
    (hM : ∀ n : Int, (Lit.int k n).wf = true → 0 ≤ n ∧ n < M)
    (h0 : DataW.Trod enc P W 0 (fun _ => true) true t (.slice a len cap) d p)
    (hsz : (DataW.weightsEach P ts ds).all (· ≤ reachBytes) = true) (hts : ts[j]? = some t) (hds : ds[j]? = some d) :
    ∃ xs : List Nat, Reads k W a len xs ∧ (∀ x ∈ xs, x < M) ∧ len ≤ cap ∧ cap * bytes ≤ 140737488351232 := by
  have h0' := h0
  obtain ⟨fuel, hf⟩ := h0
  rcases open_ints ht he hc hf with ⟨hcs, _⟩ | ⟨x, l, c, zs, hcs, _, hl, hm, hz, hx, hcell, hwz⟩
  · simp [Value.cells] at hcs
    obtain ⟨rfl, rfl, rfl⟩ := hcs
    exact ⟨[], Reads.nil, by simp, Nat.le_refl _, by omega⟩
  · simp [Value.cells] at hcs
    obtain ⟨rfl, rfl, rfl⟩ := hcs
    simp only [if_true] at hz
    have hd : d = .slice (lits k (zs.take len)) (lits k (zs.drop len)) := by
      have := congrArg Prod.fst hx
      simpa using this
    have hs := sized_slice hsz hts (by rw [hds, hd]) ht
    rw [hby] at hs
    simp only [lits, List.length_map, List.length_take, List.length_drop, reachBytes, hz] at hs
    rw [show min len cap + (cap - len) = cap from by omega] at hs
    have hlt := h0'
    refine ⟨(zs.take len).map Int.toNat, ⟨by simp; omega, ?_⟩, ?_, hl, by simpa using hs⟩
    · by_cases h : len = 0
      · exact .inl h
      · right
        obtain ⟨b, off, spot⟩ := x
        have hspot : spot = none := by simpa [Addr.add] using World.cell?_spot (hcell 0 (by omega))
        subst hspot
        have hb : b < W.heap.size := by
          have := World.block_lt_of_cell? W _ (hcell 0 (by omega))
          simpa [Addr.add] using this
        refine ⟨b, off, rfl, hb, fun i hi => ?_⟩
        have h1 := hcell i (by omega)
        rw [Addr.add_lit] at h1
        rw [h1]
        have hi' : i < zs.length := by omega
        have hn : 0 ≤ zs[i] := (hM _ (hwz _ (List.getElem_mem hi'))).1
        simp [List.getD, hi, hi']
        omega
    · intro y hy
      obtain ⟨z, hz', rfl⟩ := List.mem_map.1 hy
      have := hM z (hwz z (List.mem_of_mem_take hz'))
      omega

/-- a slice that came in: nil has no room, and its reading holds as many values as it has places -/
theorem open_room {H : Type} {enc : TypeId × Value → H} {P : Program} {W : World} {t e : TypeId} {k : IntKind} {a : Option Addr} {len cap : Nat} {d : DataW H} {p : List MemPlace}
    (ht : P.underlying t = some (.slice e)) (he : P.underlying e = some (.int k)) (hc : P.cellsOf e = 1)
    (h0 : DataW.Trod enc P W 0 (fun _ => true) true t (.slice a len cap) d p) :
    (a = none → cap = 0) ∧ (cap = 0 ∨ ∃ es sp, d = .slice es sp ∧ es.length + sp.length = cap) := by
  obtain ⟨fuel, hf⟩ := h0
  rcases open_ints ht he hc hf with ⟨hcs, _⟩ | ⟨x, l, c, zs, hcs, _, hl, hm, hz, hx, hcell, hwz⟩
  · simp [Value.cells] at hcs
    obtain ⟨rfl, rfl, rfl⟩ := hcs
    exact ⟨fun _ => rfl, .inl rfl⟩
  · simp [Value.cells] at hcs
    obtain ⟨rfl, rfl, rfl⟩ := hcs
    simp only [if_true] at hz
    have hd : d = .slice (lits k (zs.take len)) (lits k (zs.drop len)) := by
      have := congrArg Prod.fst hx
      simpa using this
    exact ⟨fun h => (by cases h), .inr ⟨_, _, hd, by simp [lits, hz]; omega⟩⟩

theorem bulk_one {H : Type} (d : DataW H) : 1 ≤ Rows.uptoBulk d := by
  cases d with
  | lit l => cases l <;> simp [Rows.uptoBulk]
  | _ => simp [Rows.uptoBulk]
theorem bulk_len {H : Type} : ∀ l : List (DataW H), l.length ≤ Rows.uptoBulkAll l
  | [] => by simp [Rows.uptoBulkAll]
  | d :: l => by have := bulk_one d; have := bulk_len l; simp only [Rows.uptoBulkAll, List.length_cons]; omega
theorem bulk_at {H : Type} {d : DataW H} : ∀ {l : List (DataW H)} {j : Nat}, l[j]? = some d → Rows.uptoBulk d ≤ Rows.uptoBulkAll l
  | [], j, h => by simp at h
  | x :: l, 0, h => by simp at h; subst h; simp only [Rows.uptoBulkAll]; omega
  | x :: l, j + 1, h => by have := bulk_at (l := l) (j := j) (by simpa using h); simp only [Rows.uptoBulkAll]; omega
/-- the bound on what came in bounds each slice -/
theorem small_cap {H : Type} {ds : List (DataW H)} {d : DataW H} {j cap : Nat} (hk : Rows.uptoSmall H ds = true) (hd : ds[j]? = some d) (hr : cap = 0 ∨ ∃ es sp, d = .slice es sp ∧ es.length + sp.length = cap) : cap ≤ 1048576 := by
  have h : Rows.uptoBulkAll ds ≤ 1048576 := of_decide_eq_true hk
  rcases hr with h0 | ⟨es, sp, rfl, hl⟩
  · omega
  · have h1 := bulk_at hd
    have h2 := bulk_len es
    have h3 := bulk_len sp
    simp only [Rows.uptoBulk] at h1
    omega

theorem ownsRow_slice {w : World} {base e size n : Nat} {v : Value} {xs : List Value} (h : w.ownsRow base e size v n xs) : ∃ a cap, v = .slice a n cap ∧ n ≤ cap := by
  rcases h.2 with ⟨hv, h0⟩ | ⟨g, cap, cur, hv, hb, hg, h1, h2, _⟩
  · exact ⟨none, 0, by rw [hv, h0], by omega⟩
  · exact ⟨_, cap, hv, h1⟩
/-- the text of a list of bytes -/
def strOf (xs : List Nat) : ByteArray := strOfNums (xs.map fun x : Nat => (x : Int))
theorem Reads.str {P : Program} {w : World} {a : Option Addr} {len : Nat} {xs : List Nat} (h : Reads .u8 w a len xs) (src e : TypeId) (hs : P.underlying src = some (.slice e)) (he : P.underlying e = some (.int .u8)) (cap : Nat) :
    ∀ dst, P.underlying dst = some .string → (convert src dst (.slice a len cap)).run P w = .ok (.string (strOf xs)) w := by
  intro dst hd
  by_cases h0 : len = 0
  · subst h0
    obtain rfl : xs = [] := List.eq_nil_of_length_eq_zero h.1
    cases a with
    | none => exact run_convert_bytes_nil w src e hs he 0 cap dst hd
    | some x =>
      rw [run_convert_bytes_string w src dst e _ 0 cap hs he hd]
      exact run_bytesToString w x 0 cap [] (by simpa using run_loadCells_list (P := P) w x [] (fun j v hj => by simp at hj))
  · obtain ⟨b, off, rfl, _, hc⟩ := h.at (i := 0) (by omega)
    refine run_convert_bytes_arg w src e hs he b off len cap _ (by simpa using h.1) (fun i hi => ?_) dst hd
    rw [hc i hi]
    have : i < xs.length := by rw [h.1]; exact hi
    simp [List.getD, this]

theorem ownsRow_prefix {w : World} {base e n m cap : Nat} {a : Option Addr} {xs : List Value} (h : w.ownsRow base e 1 (.slice a n cap) n xs) (hm : m ≤ n) : w.ownsRow base e 1 (.slice a m cap) m (xs.take m) := by
  have hl := h.1
  rcases h.2 with ⟨hv, h0⟩ | ⟨g, cap', cur, hv, hb, hg, h1, h2, h3, h4⟩
  · cases hv
    obtain rfl : m = 0 := by omega
    exact World.ownsRow_nil _ _ _ _
  · cases hv
    refine ⟨by simp; omega, .inr ⟨g, cap, cur, rfl, hb, hg, by omega, h2, h3, ?_⟩⟩
    rw [← h4, List.take_take, show min m (n * 1) = m * 1 from by omega]

/-- the cells of a block that has just been made -/
theorem cells_new (w : World) (e : TypeId) (vs : List Value) : ∀ (j : Nat) (u : Value), vs[j]? = some u → (w.alloc (.cells vs.toArray e)).cell? ((⟨w.heap.size, 0, none⟩ : Addr).add j) = some u := by
  intro j u h
  rw [Addr.add_lit, Nat.zero_add, World.cell?_alloc_new]
  simpa using h
theorem one_new (w : World) (e : TypeId) (v : Value) : ∀ (j : Nat) (u : Value), [v][j]? = some u → (w.alloc (.cells #[v] e)).cell? ((⟨w.heap.size, 0, none⟩ : Addr).add j) = some u :=
  cells_new w e [v]
theorem one_cell {v : Value} (h : v.oneCell' = true) : ∀ u ∈ [v], u.oneCell' = true := by
  intro u hu; rw [List.mem_singleton] at hu; rw [hu]; exact h

theorem ownsRow_form {w : World} {base e size n : Nat} {v : Value} {xs : List Value} (h : w.ownsRow base e size v n xs) (hn : 0 < n) :
    ∃ g cap, v = .slice (some ⟨g, 0, none⟩) n cap ∧ base ≤ g ∧ g < w.heap.size ∧ n ≤ cap ∧ cap ≤ maxLen := by
  rcases h.2 with ⟨_, h0⟩ | ⟨g, cap, cur, hv, hb, hg, h1, h2, _⟩
  · omega
  · exact ⟨g, cap, hv, hb, (Array.getElem?_eq_some_iff.1 hg).1, h1, h2⟩
end Go.Proofs.Ytcigijhoeghnnaa
/- append onto a row of the call's own, from whatever slice. No condition. -/
namespace Go.Proofs.Ytcigijhoeghnnaa
open Go.RowKit
set_option linter.unusedVariables false

theorem grown_refl (w : World) (row : Option Nat) : w.grownBy w row := ⟨rfl, rfl, rfl, Nat.le_refl _, fun _ _ _ => rfl⟩
theorem wpList_append_from {P : Program} {w : World} {ops : Array Oper} {rest : List Oper} {o : Oper} {a : Act} {Q : Exit → Act → World → Prop} (hgd : o.guard = none) (s x : Operand) (t : TypeId)
    (ho : o.op = .call { callee := .builtin .append, args := #[s, x], argTypes := #[t, t] })
    (base : Nat) (e : TypeId) (i : TypeInfo) (z : Value) (bytes : Nat) (ht : P.underlying t = some (.slice e)) (hi : P.info? e = some i) (hz : i.zero = some z)
    (hsize : i.size = 1) (hby : i.bytes = bytes) (hzs : z.cells.size = 1)
    (v : Value) (n : Nat) (xs : List Value) (hs : a.eval s = v) (hown : w.ownsRow base e 1 v n xs)
    (ap : Option Addr) (m c : Nat) (news : List Value) (hx : a.eval x = .slice ap m c) (hl : news.length = m)
    (hnews : m = 0 ∨ ∃ ad, ap = some ad ∧ ∀ j u, news[j]? = some u → w.cell? (ad.add j) = some u) (h1 : ∀ u ∈ news, u.oneCell' = true)
    (h63 : n + m ≤ maxLen) (hbytes : (n + m) * bytes ≤ 140737488355328) (hbase : base ≤ w.heap.size)
    (h : ∀ v' w', w'.ownsRow base e 1 v' (n + m) (xs ++ news) → w.grownBy w' v.ownBlock → wpList P ops Q rest (a.put o.dst v') w') : wpList P ops Q (o :: rest) a w := by
  by_cases hm : m = 0
  · subst hm
    obtain rfl : news = [] := List.eq_nil_of_length_eq_zero hl
    obtain ⟨bp, cp, rfl, hcp⟩ := ownsRow_slice hown
    have hsrc : Src P i.size t (.slice ap 0 c) 0 [] w := by
      cases ap with
      | none => exact Src.ofNil w ht c
      | some ad => exact Src.ofSlice w ht ad 0 c [] (by simp) (by simp) (by simp)
    have hrun := run_append_nothing w t t o.type e i ht hi bp n cp hcp _ hsrc
    refine wpList_plain hgd fun K hK => ?_
    unfold Oper.wp
    simp [execOp, ho, resolve, invoke, builtin, hs, hx, hrun, Result.andThen]
    exact hK _ _ (h _ w (by simpa using hown) (grown_refl _ _))
  · rcases hnews with h0 | ⟨ad, rfl, hc⟩
    · exact absurd h0 hm
    · exact wpList_append_own w hgd s x t ho base e i z 1 bytes ht hi hz hsize hby hzs (by decide) v n xs hs hown ad m c news hx (by omega) hc h1 h63 hbytes hbase (fun v' w' h2 h3 _ => h v' w' h2 h3)
end Go.Proofs.Ytcigijhoeghnnaa
/- A slice that holds given values. No condition. -/
namespace Go.Proofs.Ytcigijhoeghnnaa
open Go.RowKit
set_option linter.unusedVariables false

/-- the slice at address a, of length len, holds the values vs -/
def Vals (w : World) (a : Option Addr) (len : Nat) (vs : List Value) : Prop :=
  vs.length = len ∧ (len = 0 ∨ ∃ b off, a = some ⟨b, off, none⟩ ∧ b < w.heap.size ∧ ∀ i v, vs[i]? = some v → w.cell? ⟨b, off + i, none⟩ = some v)
theorem Vals.nil {w : World} {a : Option Addr} : Vals w a 0 [] := ⟨rfl, .inl rfl⟩
theorem Vals.at {w : World} {a : Option Addr} {len : Nat} {vs : List Value} (h : Vals w a len vs) {i : Nat} (hi : i < len) :
    ∃ b off, a = some ⟨b, off, none⟩ ∧ b < w.heap.size ∧ ∀ i v, vs[i]? = some v → w.cell? ⟨b, off + i, none⟩ = some v := by
  rcases h.2 with h | h
  · omega
  · exact h
theorem Vals.below {w w' : World} {a : Option Addr} {len : Nat} {vs : List Value} (h : Vals w a len vs) (hb : Below w.heap.size w w') : Vals w' a len vs := by
  refine ⟨h.1, ?_⟩
  rcases h.2 with h | ⟨b, off, ha, hlt, hc⟩
  · exact .inl h
  · exact .inr ⟨b, off, ha, Nat.lt_of_lt_of_le hlt hb.size, fun i v hv => by rw [hb.cell (p := ⟨b, off + i, none⟩) hlt]; exact hc i v hv⟩
theorem Vals.drewN {w : World} {a : Option Addr} {len : Nat} {vs : List Value} (h : Vals w a len vs) (n : Nat) : Vals (w.drewN n) a len vs := h.below (below_drewN (Below.refl _ _) n)
theorem Vals.own {w : World} {base e n : Nat} {a : Option Addr} {cap : Nat} {vs : List Value} (h : w.ownsRow base e 1 (.slice a n cap) n vs) : Vals w a n vs := by
  obtain ⟨hl, hr⟩ := h
  simp at hl
  refine ⟨hl, ?_⟩
  rcases hr with ⟨hv, h0⟩ | ⟨g, cap', cur, hv, _, hg, _, _, _, htake⟩
  · exact .inl h0
  · cases hv
    refine .inr ⟨g, 0, rfl, (Array.getElem?_eq_some_iff.1 hg).1, fun i v hv => ?_⟩
    have hi : i < n := by have := (List.getElem?_eq_some_iff.1 hv).1; omega
    rw [Nat.zero_add, cell_of_row w g i cur e (0, 0) hg]
    have h2 : (cur.toList.take (n * 1))[i]? = vs[i]? := by rw [htake]
    rw [List.getElem?_take, if_pos (by omega), Array.getElem?_toList] at h2
    rw [h2, hv]
theorem Vals.but {w w' : World} {a : Option Addr} {len g : Nat} {vs : List Value} (h : Vals w a len vs) (hb : But w.heap.size g w w') (ha : ∀ x, a = some x → x.block ≠ g) : Vals w' a len vs := by
  refine ⟨h.1, ?_⟩
  rcases h.2 with h | ⟨b, off, rfl, hlt, hc⟩
  · exact .inl h
  · refine .inr ⟨b, off, rfl, Nat.lt_of_lt_of_le hlt hb.2.2.2.1, fun i v hv => ?_⟩
    rw [← hc i v hv]
    show w'.cell? _ = w.cell? _
    unfold World.cell?
    rw [hb.2.2.2.2 b hlt (ha _ rfl)]
/-- where a part of a slice from k on lies -/
def vshift (a : Option Addr) (k cap : Nat) : Option Addr := if cap = k then a else a.map (·.add k)
theorem Vals.drop {w : World} {a : Option Addr} {len cap k : Nat} {vs : List Value} (h : Vals w a len vs) (hk : k ≤ len) (hc : len ≤ cap) : Vals w (vshift a k cap) (len - k) (vs.drop k) := by
  refine ⟨by rw [List.length_drop, h.1], ?_⟩
  by_cases h0 : len - k = 0
  · exact .inl h0
  · obtain ⟨b, off, rfl, hb, hcell⟩ := h.at (i := 0) (by omega)
    refine .inr ⟨b, off + k, ?_, hb, fun i v hv => ?_⟩
    · rw [vshift, if_neg (by omega), Option.map_some, Addr.add_lit]
    · rw [List.getElem?_drop] at hv
      rw [Nat.add_assoc]
      exact hcell (k + i) v hv
theorem vshift_block {a : Option Addr} {k cap b : Nat} (h : ∀ x, a = some x → x.block ≠ b) : ∀ x, vshift a k cap = some x → x.block ≠ b := by
  intro x hx
  unfold vshift at hx
  split at hx
  · exact h x hx
  · cases a with
    | none => cases hx
    | some y =>
      cases hx
      have := h y rfl
      unfold Addr.add
      split <;> exact this
theorem own_apart {w : World} {base e n g : Nat} {a : Option Addr} {cap : Nat} {vs : List Value} (h : w.ownsRow base e 1 (.slice a n cap) n vs) (hg : g < base) : ∀ x, a = some x → x.block ≠ g := by
  intro x hx e
  subst hx
  obtain ⟨_, hr⟩ := h
  rcases hr with ⟨hv, _⟩ | ⟨g', cap', cur, hv, hb, _⟩
  · cases hv
  · cases hv
    simp at e
    omega
theorem ownsRow_same {w w' : World} {base e size n : Nat} {v : Value} {xs : List Value} (h : w.ownsRow base e size v n xs) (hh : ∀ g, v.ownBlock = some g → w'.heap[g]? = w.heap[g]?) : w'.ownsRow base e size v n xs := by
  refine ⟨h.1, ?_⟩
  rcases h.2 with h0 | ⟨g, cap, cur, hv, h1, hg, h2, h3, h4, h5⟩
  · exact .inl h0
  · exact .inr ⟨g, cap, cur, hv, h1, (hh g (by rw [hv]; rfl)).trans hg, h2, h3, h4, h5⟩
end Go.Proofs.Ytcigijhoeghnnaa
