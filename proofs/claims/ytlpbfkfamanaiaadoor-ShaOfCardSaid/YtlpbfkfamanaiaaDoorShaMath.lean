/- The digest as a function on lists of numbers, and what of it the proofs use. No condition. -/
import Derived.Test.YtlpbfkfamanaiaaDoorWordPack
namespace Go.Proofs.YtlpbfkfamanaiaaDoor.sha
open Go.Proofs.YtlpbfkfamanaiaaDoor.word
set_option linter.unusedVariables false

def rotr (x n : Nat) : Nat := (x / 2 ^ n) ||| (x * 2 ^ (32 - n) % 4294967296)
def three (x a b c : Nat) : Nat := rotr x a ^^^ rotr x b ^^^ rotr x c
def twoAnd (x a b c : Nat) : Nat := rotr x a ^^^ rotr x b ^^^ (x / 2 ^ c)
def ch (e f g : Nat) : Nat := (e &&& f) ^^^ ((4294967295 - e) &&& g)
def maj (a b c : Nat) : Nat := (a &&& b) ^^^ (a &&& c) ^^^ (b &&& c)
def kTab : List Nat := [
  1116352408, 1899447441, 3049323471, 3921009573, 961987163, 1508970993, 2453635748, 2870763221,
  3624381080, 310598401, 607225278, 1426881987, 1925078388, 2162078206, 2614888103, 3248222580,
  3835390401, 4022224774, 264347078, 604807628, 770255983, 1249150122, 1555081692, 1996064986,
  2554220882, 2821834349, 2952996808, 3210313671, 3336571891, 3584528711, 113926993, 338241895,
  666307205, 773529912, 1294757372, 1396182291, 1695183700, 1986661051, 2177026350, 2456956037,
  2730485921, 2820302411, 3259730800, 3345764771, 3516065817, 3600352804, 4094571909, 275423344,
  430227734, 506948616, 659060556, 883997877, 958139571, 1322822218, 1537002063, 1747873779,
  1955562222, 2024104815, 2227730452, 2361852424, 2428436474, 2756734187, 3204031479, 3329325298]
def h0 : List Nat := [1779033703, 3144134277, 1013904242, 2773480762, 1359893119, 2600822924, 528734635, 1541459225]
def nextW (w : List Nat) (t : Nat) : Nat := (w.getD (t - 16) 0 + twoAnd (w.getD (t - 15) 0) 7 18 3 + w.getD (t - 7) 0 + twoAnd (w.getD (t - 2) 0) 17 19 10) % 4294967296
def grow (w : List Nat) (t : Nat) : List Nat := w ++ [nextW w t]
/-- the first 16 + k words of a block -/
def sched (b : List Nat) : Nat → List Nat
  | 0 => packed b 16
  | k + 1 => grow (sched b k) (16 + k)
def t1 (s : List Nat) (k w : Nat) : Nat := (s.getD 7 0 + three (s.getD 4 0) 6 11 25 + ch (s.getD 4 0) (s.getD 5 0) (s.getD 6 0) + k + w) % 4294967296
def t2 (s : List Nat) : Nat := (three (s.getD 0 0) 2 13 22 + maj (s.getD 0 0) (s.getD 1 0) (s.getD 2 0)) % 4294967296
def step (s : List Nat) (k w : Nat) : List Nat :=
  [(t1 s k w + t2 s) % 4294967296, s.getD 0 0, s.getD 1 0, s.getD 2 0, (s.getD 3 0 + t1 s k w) % 4294967296, s.getD 4 0, s.getD 5 0, s.getD 6 0]
/-- the working variables after t rounds -/
def comp (s w : List Nat) : Nat → List Nat
  | 0 => s
  | t + 1 => step (comp s w t) (kTab.getD t 0) (w.getD t 0)
def addTo (s c : List Nat) : List Nat := (List.range 8).map fun i => (s.getD i 0 + c.getD i 0) % 4294967296
/-- the state after one block more -/
def mix (s b : List Nat) : List Nat := addTo s (comp s (sched b 48) 64)
/-- the state after the first k blocks of m -/
def chain (m : List Nat) : Nat → List Nat
  | 0 => h0
  | k + 1 => mix (chain m k) ((m.drop (64 * k)).take 64)
def lenBytes (n : Nat) : List Nat := (List.range 8).map fun i => 8 * n / 256 ^ (7 - i) % 256
def pad (n : Nat) : List Nat := 128 :: (List.replicate ((119 - n % 64) % 64) 0 ++ lenBytes n)
def digest (m : List Nat) : List Nat := chain (m ++ pad m.length) ((m.length + 72) / 64)

theorem abc0 : (digest [97, 98, 99]).getD 0 0 = 3128432319 := by decide +kernel
theorem abc7 : (digest [97, 98, 99]).getD 7 0 = 4060091821 := by decide +kernel

theorem or_lt {a b : Nat} (ha : a < 4294967296) (hb : b < 4294967296) : a ||| b < 4294967296 := Nat.or_lt_two_pow (n := 32) ha hb
theorem and_lt {a b : Nat} (ha : a < 4294967296) : a &&& b < 4294967296 := Nat.lt_of_le_of_lt Nat.and_le_left ha
theorem xor_lt {a b : Nat} (ha : a < 4294967296) (hb : b < 4294967296) : a ^^^ b < 4294967296 := Nat.xor_lt_two_pow (n := 32) ha hb
theorem div_lt {x : Nat} (n : Nat) (h : x < 4294967296) : x / 2 ^ n < 4294967296 := Nat.lt_of_le_of_lt (Nat.div_le_self _ _) h
theorem rotr_lt {x : Nat} (n : Nat) (h : x < 4294967296) : rotr x n < 4294967296 := or_lt (div_lt n h) (Nat.mod_lt _ (by decide))
theorem three_lt {x : Nat} (a b c : Nat) (h : x < 4294967296) : three x a b c < 4294967296 := xor_lt (xor_lt (rotr_lt a h) (rotr_lt b h)) (rotr_lt c h)
theorem twoAnd_lt {x : Nat} (a b c : Nat) (h : x < 4294967296) : twoAnd x a b c < 4294967296 := xor_lt (xor_lt (rotr_lt a h) (rotr_lt b h)) (div_lt c h)
theorem ch_lt {e f g : Nat} (he : e < 4294967296) : ch e f g < 4294967296 := xor_lt (and_lt he) (and_lt (by omega))
theorem maj_lt {a b c : Nat} (ha : a < 4294967296) (hb : b < 4294967296) : maj a b c < 4294967296 := xor_lt (xor_lt (and_lt ha) (and_lt ha)) (and_lt hb)
theorem mod_lt (x : Nat) : x % 4294967296 < 4294967296 := Nat.mod_lt _ (by decide)

theorem get32 {xs : List Nat} (hx : ∀ x ∈ xs, x < 4294967296) (i : Nat) : xs.getD i 0 < 4294967296 := by
  rw [List.getD_eq_getElem?_getD]
  by_cases h : i < xs.length
  · rw [List.getElem?_eq_getElem h]; exact hx _ (List.getElem_mem _)
  · rw [List.getElem?_eq_none (by omega)]; decide
theorem packed_length (b : List Nat) (n : Nat) : (packed b n).length = n := by simp [packed]
theorem packed_lt (b : List Nat) (n : Nat) (hb : ∀ x ∈ b, x < 256) : ∀ x ∈ packed b n, x < 4294967296 := by
  intro x hx
  obtain ⟨j, _, rfl⟩ := List.mem_map.1 hx
  exact wordOf_lt b hb j
theorem sched_length (b : List Nat) (k : Nat) : (sched b k).length = 16 + k := by
  induction k with
  | zero => exact packed_length b 16
  | succ k ih => simp [sched, grow, ih]; omega
theorem sched_lt (b : List Nat) (hb : ∀ x ∈ b, x < 256) (k : Nat) : ∀ x ∈ sched b k, x < 4294967296 := by
  induction k with
  | zero => exact packed_lt b 16 hb
  | succ k ih =>
    intro x hx
    rcases List.mem_append.1 hx with h | h
    · exact ih x h
    · rw [List.mem_singleton] at h; subst h; exact mod_lt _
theorem step_length (s : List Nat) (k w : Nat) : (step s k w).length = 8 := rfl
theorem step_lt {s : List Nat} (hs : ∀ x ∈ s, x < 4294967296) (k w : Nat) : ∀ x ∈ step s k w, x < 4294967296 := by
  intro x hx
  simp only [step, List.mem_cons, List.not_mem_nil, or_false] at hx
  rcases hx with rfl | rfl | rfl | rfl | rfl | rfl | rfl | rfl <;> first | exact mod_lt _ | exact get32 hs _
theorem comp_length {s : List Nat} (hs : s.length = 8) (w : List Nat) (t : Nat) : (comp s w t).length = 8 := by
  cases t with
  | zero => exact hs
  | succ t => rfl
theorem comp_lt {s : List Nat} (hs : ∀ x ∈ s, x < 4294967296) (w : List Nat) (t : Nat) : ∀ x ∈ comp s w t, x < 4294967296 := by
  induction t with
  | zero => exact hs
  | succ t ih => exact step_lt ih _ _
theorem addTo_length (s c : List Nat) : (addTo s c).length = 8 := by simp [addTo]
theorem addTo_lt (s c : List Nat) : ∀ x ∈ addTo s c, x < 4294967296 := by
  intro x hx
  obtain ⟨j, _, rfl⟩ := List.mem_map.1 hx
  exact mod_lt _
theorem chain_length (m : List Nat) (k : Nat) : (chain m k).length = 8 := by
  cases k with
  | zero => rfl
  | succ k => exact addTo_length _ _
theorem chain_lt (m : List Nat) (k : Nat) : ∀ x ∈ chain m k, x < 4294967296 := by
  cases k with
  | zero => exact (by decide : ∀ x ∈ h0, x < 4294967296)
  | succ k => exact addTo_lt _ _
/-- the first blocks alone matter -/
theorem chain_append (m x : List Nat) (k : Nat) (h : 64 * k ≤ m.length) : chain (m ++ x) k = chain m k := by
  induction k with
  | zero => rfl
  | succ k ih =>
    simp only [chain]
    rw [ih (by omega), List.drop_append_of_le_length (by omega), List.take_append_of_le_length (by simp; omega)]
theorem lenBytes_length (n : Nat) : (lenBytes n).length = 8 := by simp [lenBytes]
theorem pad_length (n : Nat) : (n + (pad n).length) % 64 = 0 ∧ (n + (pad n).length) / 64 = (n + 72) / 64 := by
  simp only [pad, List.length_cons, List.length_append, List.length_replicate, lenBytes_length]; omega
end Go.Proofs.YtlpbfkfamanaiaaDoor.sha
