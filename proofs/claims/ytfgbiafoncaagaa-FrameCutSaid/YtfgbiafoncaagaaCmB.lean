/- Contracts and lemmas that the claims of this seat share: FrameMath, FrameSize, ZerosRef, Arr, Append, Vals, Only. Each says its own conditions. -/
import Derived.Test.YtfgbiafoncaagaaCmA
import Derived.Deep.MidRow
import Derived.Deep.WholeRow
import Derived.Laws.OwnMore
import Derived.Deep.Upon
/- The words of a frame, and what any words are read as. Plain lists, no condition. -/
namespace Go.Proofs.Ytfgbiafoncaagaa.frame
open Go.RowKit Go.Proofs.Ytfgbiafoncaagaa.word Go.Proofs.Ytfgbiafoncaagaa.zeros
set_option linter.unusedVariables false

/-- may a frame have that kind, that sequence number? -/
def markB (k s : Int) : Bool := (decide (k = 1) || decide (k = 2)) && decide (1 ≤ s) && decide (s ≤ 1073741823)
def sizeN (n : Nat) : Nat := if 1 ≤ n ∧ n ≤ 56 then n + 3 else 0
theorem sizeN_le (n : Nat) : sizeN n ≤ 59 := by unfold sizeN; split <;> omega
/-- may a frame be? -/
def okB (k s : Int) (n : Nat) : Bool := markB k s && decide (1 ≤ n) && decide (n ≤ 56)
theorem markB_true {k s : Int} : markB k s = true ↔ (k = 1 ∨ k = 2) ∧ 1 ≤ s ∧ s ≤ 1073741823 := by
  simp [markB, and_assoc]
theorem okB_true {k s : Int} {n : Nat} : okB k s n = true ↔ (k = 1 ∨ k = 2) ∧ 1 ≤ s ∧ s ≤ 1073741823 ∧ 1 ≤ n ∧ n ≤ 56 := by
  simp [okB, markB, and_assoc]
/-- the words before the sum -/
def body (k s : Nat) (L : List Nat) : List Nat := twinN L.length :: (k * 1073741824 + s) :: L
def words (k s : Nat) (L : List Nat) : List Nat := body k s L ++ [zcount (body k s L)]
theorem body_length (k s : Nat) (L : List Nat) : (body k s L).length = L.length + 2 := by simp [body]
theorem words_length (k s : Nat) (L : List Nat) : (words k s L).length = L.length + 3 := by simp [words, body]
theorem zcount_body (k s : Nat) (L : List Nat) (h : L.length ≤ 56) : zcount (body k s L) ≤ 1856 := by
  have := zcount_le (body k s L)
  rw [body_length] at this
  omega
theorem sealed_body (k s : Nat) (L : List Nat) (h : L.length ≤ 56) : sealed (body k s L) = words k s L := by
  have := zcount_body k s L h
  unfold sealed words
  rw [Nat.mod_eq_of_lt (by omega)]
theorem body_lt (k s : Nat) (L : List Nat) (hk : k < 4) (hs : s < 1073741824) (hn : L.length ≤ 56) (hL : ∀ x ∈ L, x < 4294967296) : ∀ x ∈ body k s L, x < 4294967296 := by
  intro x hx
  simp only [body, List.mem_cons] at hx
  rcases hx with rfl | rfl | hx
  · exact twinN_lt _ (by omega)
  · omega
  · exact hL x hx
theorem words_lt (k s : Nat) (L : List Nat) (hk : k < 4) (hs : s < 1073741824) (hn : L.length ≤ 56) (hL : ∀ x ∈ L, x < 4294967296) : ∀ x ∈ words k s L, x < 4294967296 := by
  intro x hx
  rcases List.mem_append.1 hx with hx | hx
  · exact body_lt k s L hk hs hn hL x hx
  · rw [List.mem_singleton] at hx
    have := zcount_body k s L hn
    omega

/-- the number of words that the first word tells, or 0 -/
def toldS (xs : List Nat) : Nat :=
  if xs.length = 0 then 0 else if (toldN (xs.getD 0 0)).2 = true ∧ sizeN (toldN (xs.getD 0 0)).1 ≤ xs.length then sizeN (toldN (xs.getD 0 0)).1 else 0
theorem toldS_le (xs : List Nat) : toldS xs ≤ xs.length := by
  unfold toldS
  split
  · omega
  · split
    · rename_i h; exact h.2
    · omega
theorem toldS_cases (xs : List Nat) : toldS xs = 0 ∨ ∃ n, 1 ≤ n ∧ n ≤ 56 ∧ toldS xs = n + 3 ∧ toldN (xs.getD 0 0) = (n, true) ∧ n + 3 ≤ xs.length := by
  unfold toldS
  by_cases h0 : xs.length = 0
  · rw [if_pos h0]; exact .inl rfl
  · rw [if_neg h0]
    by_cases h1 : (toldN (xs.getD 0 0)).2 = true ∧ sizeN (toldN (xs.getD 0 0)).1 ≤ xs.length
    · rw [if_pos h1]
      unfold sizeN
      by_cases h2 : 1 ≤ (toldN (xs.getD 0 0)).1 ∧ (toldN (xs.getD 0 0)).1 ≤ 56
      · rw [if_pos h2]
        refine .inr ⟨_, h2.1, h2.2, rfl, Prod.ext rfl h1.1, ?_⟩
        have := h1.2
        unfold sizeN at this
        rwa [if_pos h2] at this
      · rw [if_neg h2]; exact .inl rfl
    · rw [if_neg h1]; exact .inl rfl
/-- what words are read as -/
def readN (xs : List Nat) : Option (Nat × Nat × List Nat) :=
  if toldS xs = 0 then none else
  if rightB (xs.take (toldS xs)) = false then none else
  if markB ((xs.getD 1 0 / 1073741824 : Nat) : Int) ((xs.getD 1 0 % 1073741824 : Nat) : Int) = false then none else
  some (xs.getD 1 0 / 1073741824, xs.getD 1 0 % 1073741824, (xs.take (toldS xs - 1)).drop 2)
theorem toldN_fst {x n : Nat} {b : Bool} (h : toldN x = (n, b)) (hn : n ≠ 0) : twinN n = x ∧ b = true := by
  unfold toldN at h
  split at h
  · rename_i hx
    simp only [Prod.mk.injEq] at h
    rw [← h.1, h.2]
    exact ⟨hx, rfl⟩
  · simp only [Prod.mk.injEq] at h
    omega
/-- words that begin with n + 3 words of which the last is their sum -/
theorem parts (xs : List Nat) (n : Nat) (h : n + 3 ≤ xs.length) : ∃ x0 x1 z L T, xs = (x0 :: x1 :: L ++ [z]) ++ T ∧ L.length = n := by
  match xs, h with
  | x0 :: x1 :: r, h =>
    simp only [List.length_cons] at h
    refine ⟨x0, x1, r.getD n 0, r.take n, r.drop (n + 1), ?_, by rw [List.length_take]; omega⟩
    have h1 : r = r.take n ++ r.getD n 0 :: r.drop (n + 1) := by
      rw [List.getD_eq_getElem?_getD, List.getElem?_eq_getElem (by omega)]
      simp
    simp only [List.cons_append, List.append_assoc, List.nil_append]
    exact congrArg _ (congrArg _ h1)
theorem twin_of {x n : Nat} (h : toldN x = (n, true)) (hn : n ≠ 0) : x = twinN n := (toldN_fst h hn).1.symm
/-- words that are read as a frame begin with its words, and the frame may be -/
theorem readN_some {xs : List Nat} {k s : Nat} {L : List Nat} (h : readN xs = some (k, s, L)) : okB k s L.length = true ∧ xs.take (L.length + 3) = words k s L ∧ L.length + 3 ≤ xs.length := by
  unfold readN at h
  rcases toldS_cases xs with h0 | ⟨n, h1, h2, h3, h4, h5⟩
  · rw [if_pos h0] at h; cases h
  · rw [if_neg (by omega), h3] at h
    obtain ⟨x0, x1, z, L', T, rfl, hL⟩ := parts xs n h5
    have e1 : ((x0 :: x1 :: L' ++ [z]) ++ T).take (n + 3) = x0 :: x1 :: L' ++ [z] := by rw [List.take_append_of_le_length (by simp [hL]), List.take_of_length_le (by simp [hL])]
    have e2 : ((x0 :: x1 :: L' ++ [z]) ++ T).take (n + 3 - 1) = x0 :: x1 :: L' := by
      rw [show n + 3 - 1 = n + 2 by omega, List.append_assoc, List.take_append_of_le_length (by simp [hL]), List.take_of_length_le (by simp [hL])]
    have e3 : ((x0 :: x1 :: L' ++ [z]) ++ T).getD 0 0 = x0 := rfl
    have e4 : ((x0 :: x1 :: L' ++ [z]) ++ T).getD 1 0 = x1 := rfl
    rw [e1, e2, e4] at h
    rw [e3] at h4
    have ht := twin_of h4 (by omega)
    split at h
    · cases h
    · rename_i hr
      split at h
      · cases h
      · rename_i hm
        simp only [Option.some.injEq, Prod.mk.injEq, List.drop_succ_cons, List.drop_zero] at h
        obtain ⟨rfl, rfl, rfl⟩ := h
        rw [Bool.not_eq_false] at hr hm
        have hm' := markB_true.1 hm
        refine ⟨okB_true.2 ⟨hm'.1, hm'.2.1, hm'.2.2, by omega, by omega⟩, ?_, by omega⟩
        rw [hL, e1]
        have e5 : rightB ((x0 :: x1 :: L') ++ [z]) = (z == zcount (x0 :: x1 :: L')) := rightB_snoc _ _
        rw [e5, beq_iff_eq] at hr
        have e6 : x1 / 1073741824 * 1073741824 + x1 % 1073741824 = x1 := by omega
        unfold words body
        rw [e6, hL, ← ht, hr]
theorem readN_words (k s : Nat) (L T : List Nat) (h : okB k s L.length = true) : readN (words k s L ++ T) = some (k, s, L) := by
  obtain ⟨hk, h1, h2, h3, h4⟩ := okB_true.1 h
  have hs : toldS (words k s L ++ T) = L.length + 3 := by
    unfold toldS
    have e0 : (words k s L ++ T).getD 0 0 = twinN L.length := rfl
    rw [e0, told_twin _ (by omega), if_neg (by simp [words_length])]
    have e1 : sizeN L.length = L.length + 3 := by unfold sizeN; rw [if_pos ⟨h3, h4⟩]
    rw [e1, if_pos ⟨rfl, by simp [words_length]⟩]
  unfold readN
  rw [hs, if_neg (by omega)]
  have e1 : (words k s L ++ T).take (L.length + 3) = words k s L := by
    rw [List.take_append_of_le_length (by rw [words_length]; exact Nat.le_refl _), List.take_of_length_le (by rw [words_length]; exact Nat.le_refl _)]
  have e2 : (words k s L ++ T).take (L.length + 3 - 1) = body k s L := by
    unfold words
    rw [List.append_assoc, List.take_append_of_le_length (by rw [body_length]; omega), List.take_of_length_le (by rw [body_length]; omega)]
  have e3 : (words k s L ++ T).getD 1 0 = k * 1073741824 + s := rfl
  have e4 : rightB (words k s L) = true := by unfold words; rw [rightB_snoc]; simp
  have e5 : (k * 1073741824 + s) / 1073741824 = k := by omega
  have e6 : (k * 1073741824 + s) % 1073741824 = s := by omega
  have e7 : markB k s = true := markB_true.2 ⟨hk, h1, h2⟩
  rw [e1, e2, e3, e4, e5, e6, e7]
  rfl
/-- a frame's words whose bits went up, whatever stands behind -/
theorem readN_up (k s : Nat) (L u T : List Nat) (h : okB k s L.length = true) (hL : ∀ x ∈ L, x < 4294967296) (hu : ∀ x ∈ u, x < 4294967296) :
    readN (orL (words k s L) u ++ T) = if orL (words k s L) u = words k s L then some (k, s, L) else none := by
  by_cases he : orL (words k s L) u = words k s L
  · rw [if_pos he, he]; exact readN_words k s L T h
  · rw [if_neg he]
    obtain ⟨hk, h1, h2, h3, h4⟩ := okB_true.1 h
    have hsu := sure (body k s L) u (body_lt k s L (by omega) (by omega) h4 hL) hu
    have hw : body k s L ++ [zcount (body k s L)] = words k s L := rfl
    rw [hw, decide_eq_false he] at hsu
    have hlen : (orL (words k s L) u).length = L.length + 3 := by rw [orL_length, words_length]
    unfold readN
    rcases toldS_cases (orL (words k s L) u ++ T) with h0 | ⟨n, n1, n2, n3, n4, n5⟩
    · rw [if_pos h0]
    · have e0 : (orL (words k s L) u ++ T).getD 0 0 = twinN L.length ||| u.getD 0 0 := by
        rw [List.getD_eq_getElem?_getD, List.getElem?_append_left (by omega), ← List.getD_eq_getElem?_getD, orL_getD _ _ _ (by rw [words_length]; omega)]
        rfl
      rw [e0] at n4
      by_cases hx : twinN L.length ||| u.getD 0 0 = twinN L.length
      · rw [hx, told_twin _ (by omega), Prod.mk.injEq] at n4
        obtain ⟨rfl, _⟩ := n4
        rw [if_neg (by omega), n3, List.take_append_of_le_length (by omega), List.take_of_length_le (by omega), if_pos hsu]
      · rw [told_up _ _ (by omega) hx, Prod.mk.injEq] at n4
        omega
theorem or_ones (x : Nat) (hx : x < 4294967296) : x ||| 4294967295 = 4294967295 := by
  apply Nat.eq_of_testBit_eq
  intro j
  rw [Nat.testBit_or, show 4294967295 = 2 ^ 32 - 1 from rfl, Nat.testBit_two_pow_sub_one]
  by_cases hj : j < 32
  · simp [hj]
  · rw [Nat.testBit_lt_two_pow (show x < 2 ^ j from Nat.lt_of_lt_of_le hx (Nat.pow_le_pow_right (n := 2) (by decide) (by omega : 32 ≤ j)))]
    simp
theorem cut_key (N n m c : Nat) (hc : ∀ x, x < 4294967296 → x ||| c = c) (hn : n < N + 3) (h4 : N ≤ 56) (ws : List Nat) (hl : ws.length = N + 3) (hw : ∀ x ∈ ws, x < 4294967296) : ws.take n ++ [ws.getD n 0 ||| m] ++ List.replicate (99 - n) c =
      orL ws (List.replicate n 0 ++ [m] ++ List.replicate (N + 2 - n) c) ++ List.replicate (97 - N) c := by
    apply List.ext_getElem?
    intro i
    have hol : (orL ws (List.replicate n 0 ++ [m] ++ List.replicate (N + 2 - n) c)).length = N + 3 := by rw [orL_length, hl]
    have htl : (ws.take n ++ [ws.getD n 0 ||| m]).length = n + 1 := by rw [List.length_append, List.length_take]; simp; omega
    have hog : ∀ i, i < N + 3 → (orL ws (List.replicate n 0 ++ [m] ++ List.replicate (N + 2 - n) c))[i]? = some (ws.getD i 0 ||| (List.replicate n 0 ++ [m] ++ List.replicate (N + 2 - n) c).getD i 0) := by
      intro i hi
      have := orL_getD ws (List.replicate n 0 ++ [m] ++ List.replicate (N + 2 - n) c) i (by omega)
      rw [← this, List.getElem?_eq_getElem (by omega), List.getD_eq_getElem?_getD, List.getElem?_eq_getElem (by omega)]
      rfl
    by_cases c1 : i < n
    · rw [List.getElem?_append_left (by omega), List.getElem?_append_left (by rw [List.length_take]; omega), List.getElem?_append_left (by omega), hog i (by omega)]
      rw [List.getElem?_take, if_pos c1, List.getElem?_eq_getElem (by omega)]
      have e : (List.replicate n 0 ++ [m] ++ List.replicate (N + 2 - n) c).getD i 0 = 0 := by
        rw [List.getD_eq_getElem?_getD, List.getElem?_append_left (by simp; omega), List.getElem?_append_left (by simp; omega)]
        simp [c1]
      rw [e, Nat.or_zero, List.getD_eq_getElem?_getD, List.getElem?_eq_getElem (by omega)]
      rfl
    · by_cases c2 : i = n
      · subst c2
        rw [List.getElem?_append_left (by omega), List.getElem?_append_right (by rw [List.length_take]; omega), List.getElem?_append_left (by omega), hog i (by omega)]
        have e : (List.replicate i 0 ++ [m] ++ List.replicate (N + 2 - i) c).getD i 0 = m := by
          rw [List.getD_eq_getElem?_getD, List.getElem?_append_left (by simp), List.getElem?_append_right (by simp)]
          simp
        rw [e, List.length_take, Nat.min_eq_left (by omega), Nat.sub_self]
        rfl
      · have hr : ∀ (a b : Nat), (List.replicate b c)[a]? = if a < b then some c else none := fun a b => List.getElem?_replicate
        rw [List.getElem?_append_right (by omega), htl, hr]
        by_cases c3 : i < N + 3
        · rw [if_pos (by omega), List.getElem?_append_left (by omega), hog i c3]
          have e : (List.replicate n 0 ++ [m] ++ List.replicate (N + 2 - n) c).getD i 0 = c := by
            rw [List.getD_eq_getElem?_getD, List.getElem?_append_right (by simp; omega), hr, if_pos (by simp; omega)]
            rfl
          rw [e]
          rw [hc _ (getD32_lt ws hw i)]
        · rw [List.getElem?_append_right (by omega), hol, hr]
          by_cases c4 : i < 100
          · rw [if_pos (by omega), if_pos (by omega)]
          · rw [if_neg (by omega), if_neg (by omega)]
theorem cut_eq (N n m c : Nat) (hc : ∀ x, x < 4294967296 → x ||| c = c) (hc2 : 1856 < c) (hn : n < N + 3) (ws : List Nat) (hwl : ws.length = N + 3) (hlast : ws.getD (N + 2) 0 ≤ 1856) : orL ws (List.replicate n 0 ++ [m] ++ List.replicate (N + 2 - n) c) = ws ↔ (n = N + 2 ∧ (ws).getD n 0 ||| m = (ws).getD n 0) := by
    have hog := fun i (hi : i < N + 3) => orL_getD ws (List.replicate n 0 ++ [m] ++ List.replicate (N + 2 - n) c) i (by omega)
    have en : (List.replicate n 0 ++ [m] ++ List.replicate (N + 2 - n) c).getD n 0 = m := by
      rw [List.getD_eq_getElem?_getD, List.getElem?_append_left (by simp), List.getElem?_append_right (by simp)]
      simp
    constructor
    · intro hE
      rw [hE] at hog
      have h5 := hog n hn
      rw [en] at h5
      refine ⟨?_, h5.symm⟩
      have h6 := hog (N + 2) (by omega)
      apply Classical.byContradiction
      intro hne
      have e : (List.replicate n 0 ++ [m] ++ List.replicate (N + 2 - n) c).getD (N + 2) 0 = c := by
        rw [List.getD_eq_getElem?_getD, List.getElem?_append_right (by simp; omega), List.getElem?_replicate, if_pos (by simp; omega)]
        rfl
      rw [e] at h6
      have := hc (ws.getD (N + 2) 0) (by omega)
      omega
    · rintro ⟨rfl, h5⟩
      apply List.ext_getElem?
      intro i
      by_cases hi : i < N + 3
      · rw [List.getElem?_eq_getElem (by rw [orL_length]; omega), List.getElem?_eq_getElem (by omega)]
        have h6 := hog i hi
        rw [List.getD_eq_getElem?_getD, List.getElem?_eq_getElem (by rw [orL_length]; omega), Option.getD_some] at h6
        rw [h6]
        by_cases ci : i = N + 2
        · subst ci
          rw [en, h5, List.getD_eq_getElem?_getD, List.getElem?_eq_getElem (by omega)]
          rfl
        · have e : (List.replicate (N + 2) 0 ++ [m] ++ List.replicate (N + 2 - (N + 2)) c).getD i 0 = 0 := by
            rw [List.getD_eq_getElem?_getD, List.getElem?_append_left (by simp; omega), List.getElem?_append_left (by simp; omega)]
            simp [show i < N + 2 by omega]
          rw [e, Nat.or_zero, List.getD_eq_getElem?_getD, List.getElem?_eq_getElem (by omega)]
          rfl
      · rw [List.getElem?_eq_none (by rw [orL_length]; omega), List.getElem?_eq_none (by omega)]
theorem getD_last (b : List Nat) (z n : Nat) (h : b.length = n) : (b ++ [z]).getD n 0 = z := by
  subst h
  rw [List.getD_eq_getElem?_getD, List.getElem?_append_right (Nat.le_refl _), Nat.sub_self]
  rfl
theorem words_last (k s : Nat) (L : List Nat) : (words k s L).getD (L.length + 2) 0 = zcount (body k s L) :=
  getD_last (body k s L) (zcount (body k s L)) (L.length + 2) (body_length k s L)
/-- the first words of a frame, the last of them torn, ones behind -/
theorem cut_ups (k s : Nat) (L : List Nat) (n m c : Nat) (hc : ∀ x, x < 4294967296 → x ||| c = c) (hc2 : 1856 < c) (hc3 : c < 4294967296) (h : okB k s L.length = true) (hL : ∀ x ∈ L, x < 4294967296) (hm : m < 4294967296) (hn : n < L.length + 3) :
    (readN ((words k s L).take n ++ [(words k s L).getD n 0 ||| m] ++ List.replicate (99 - n) c)).isSome = decide (n = L.length + 2 ∧ (words k s L).getD n 0 ||| m = (words k s L).getD n 0) := by
  obtain ⟨hk, h1, h2, h3, h4⟩ := okB_true.1 h
  have hwl := words_length k s L
  have hlt := words_lt k s L (by omega) (by omega) h4 hL
  have heq := cut_eq L.length n m c hc hc2 hn (words k s L) hwl (by rw [words_last k s L]; exact zcount_body k s L h4)
  have hu : ∀ x ∈ List.replicate n 0 ++ [m] ++ List.replicate (L.length + 2 - n) c, x < 4294967296 := by
    intro x hx
    rcases List.mem_append.1 hx with hx | hx
    · rcases List.mem_append.1 hx with hx | hx
      · rw [List.eq_of_mem_replicate hx]; omega
      · rw [List.mem_singleton.1 hx]; exact hm
    · rw [List.eq_of_mem_replicate hx]; exact hc3
  have hr := readN_up k s L _ (List.replicate (97 - L.length) c) h hL hu
  have hkey := cut_key L.length n m c hc hn h4 _ hwl hlt
  rw [hkey, hr]
  clear hr hkey hu
  generalize words k s L = ws at *
  generalize orL ws _ = os at *
  by_cases hE : os = ws
  · rw [if_pos hE, decide_eq_true (heq.1 hE), Option.isSome_some]
  · rw [if_neg hE, decide_eq_false (fun h => hE (heq.2 h)), Option.isSome_none]
theorem cut_up (k s : Nat) (L : List Nat) (n m : Nat) (h : okB k s L.length = true) (hL : ∀ x ∈ L, x < 4294967296) (hm : m < 4294967296) (hn : n < L.length + 3) :
    (readN ((words k s L).take n ++ [(words k s L).getD n 0 ||| m] ++ List.replicate (99 - n) 4294967295)).isSome = decide (n = L.length + 2 ∧ (words k s L).getD n 0 ||| m = (words k s L).getD n 0) :=
  cut_ups k s L n m 4294967295 or_ones (by decide) (by decide) h hL hm hn
end Go.Proofs.Ytfgbiafoncaagaa.frame
/- Contracts of Size, marked and told of layer 10 (frame). No condition. -/
namespace Go.Proofs.Ytfgbiafoncaagaa.frame
open Go.RowKit Go.Proofs.Ytfgbiafoncaagaa.word Go.Proofs.Ytfgbiafoncaagaa.zeros
set_option linter.unusedVariables false

def sizeI (n : Int) : Int := if 1 ≤ n ∧ n ≤ 56 then n + 3 else 0
theorem sizeI_nat (n : Nat) : sizeI (n : Int) = (sizeN n : Int) := by
  unfold sizeI sizeN
  by_cases h : 1 ≤ n ∧ n ≤ 56
  · rw [if_pos h, if_pos (by omega)]; rfl
  · rw [if_neg h, if_neg (by omega)]; rfl
theorem size_any (n : Int) (w : World) : Calls Try.prog 11 #[.int .i64 n] w (Quiet (.int .i64 (sizeI n)) w) := by
  unfold sizeI
  by_cases h1 : n < 1
  · rw [if_neg (by omega)]
    go_enter Try.func11, Try.ntmps11
    go_wp2
    go_ret
    exact ⟨rfl, 0, rfl⟩
  · by_cases h2 : 56 < n
    · rw [if_neg (by omega)]
      go_enter Try.func11, Try.ntmps11
      go_wp2
      go_ret
      exact ⟨rfl, 0, rfl⟩
    · rw [if_pos (by omega)]
      go_enter Try.func11, Try.ntmps11
      go_wp2
      go_ret
      exact ⟨ret_int (by omega), 0, rfl⟩
theorem marked_any (k s : Int) (w : World) : Calls Try.prog 16 #[.int .i64 k, .int .i64 s] w (Quiet (.bool (markB k s)) w) := by
  generalize hm : markB k s = b
  have HM := hid hm
  clear hm
  by_cases h1 : k = 1
  · subst h1
    by_cases h3 : 1 ≤ s
    · by_cases h4 : s ≤ 1073741823
      · go_enter Try.func16, Try.ntmps16
        go_wp2
        go_ret
        exact ⟨ret_bool (by rw [← HM.out]; simp [markB, h3, h4]), 0, rfl⟩
      · go_enter Try.func16, Try.ntmps16
        go_wp2
        go_ret
        exact ⟨ret_bool (by rw [← HM.out]; simp [markB, h3, h4]), 0, rfl⟩
    · go_enter Try.func16, Try.ntmps16
      go_wp2
      go_ret
      exact ⟨ret_bool (by rw [← HM.out]; symm; rw [Bool.eq_false_iff, ne_eq, markB_true]; omega), 0, rfl⟩
  · by_cases h2 : k = 2
    · subst h2
      by_cases h3 : 1 ≤ s
      · by_cases h4 : s ≤ 1073741823
        · go_enter Try.func16, Try.ntmps16
          go_wp2
          go_ret
          exact ⟨ret_bool (by rw [← HM.out]; simp [markB, h3, h4]), 0, rfl⟩
        · go_enter Try.func16, Try.ntmps16
          go_wp2
          go_ret
          exact ⟨ret_bool (by rw [← HM.out]; simp [markB, h3, h4]), 0, rfl⟩
      · go_enter Try.func16, Try.ntmps16
        go_wp2
        go_ret
        exact ⟨ret_bool (by rw [← HM.out]; symm; rw [Bool.eq_false_iff, ne_eq, markB_true]; omega), 0, rfl⟩
    · go_enter Try.func16, Try.ntmps16
      go_wp2
      go_ret
      exact ⟨ret_bool (by rw [← HM.out]; simp [markB, h1, h2]), 0, rfl⟩
theorem toldF_any (a : Option Addr) (len cap : Nat) (xs : List Nat) (w : World) (hr : Reads .u32 w a len xs) (hx : ∀ x ∈ xs, x < 4294967296) :
    Calls Try.prog 21 #[.slice a len cap] w (Quiet (.int .i64 (toldS xs : Nat)) w) := by
  have hlen := hr.1
  by_cases h0 : len = 0
  · subst h0
    have ht : toldS xs = 0 := by unfold toldS; rw [if_pos hlen]
    rw [ht]
    clear ht hlen
    go_enter Try.func21, Try.ntmps21
    go_wp2
    go_ret
    exact ⟨rfl, 0, rfl⟩
  · obtain ⟨b, off, rfl, hbs, hc⟩ := hr.at (show 0 < len by omega)
    have c1 : w.cell? ⟨b, off, none⟩ = some (.int .u32 ((xs.getD 0 0 : Nat) : Int)) := hc 0 (by omega)
    have ct := fun w' => told_any (xs.getD 0 0) (getD32_lt xs hx 0) w'
    unfold toldV at ct
    have ht : toldS xs = if (toldN (xs.getD 0 0)).2 = true ∧ sizeN (toldN (xs.getD 0 0)).1 ≤ len then sizeN (toldN (xs.getD 0 0)).1 else 0 := by
      unfold toldS; rw [if_neg (by omega), hlen]
    have cs := fun w' => size_any ((toldN (xs.getD 0 0)).1 : Int) w'
    simp only [sizeI_nat] at cs
    rw [ht]
    clear ht hlen hc hr hx
    generalize (toldN (xs.getD 0 0)).1 = n at *
    generalize (toldN (xs.getD 0 0)).2 = ok at *
    generalize xs.getD 0 0 = x0 at *
    generalize sizeN n = z at *
    have q0 : ((len : Int) == 0) = false := by simp; omega
    cases ok with
    | false =>
      simp only [Bool.false_eq_true, false_and, if_false]
      go_enter Try.func21, Try.ntmps21
      go_wp2_with (first
        | (go_at_call 28; ((with_reducible refine (ct _).mono ?_); rintro e w' ⟨rfl, m1, rfl⟩))
        | (go_at_call 11; ((with_reducible refine (cs _).mono ?_); rintro e w' ⟨rfl, m2, rfl⟩)))
      go_ret
      exact ⟨rfl, _, rfl⟩
    | true =>
      by_cases hz : z ≤ len
      · rw [if_pos ⟨rfl, hz⟩]
        have hz' : (z : Int) ≤ len := by omega
        go_enter Try.func21, Try.ntmps21
        go_wp2_with (first
          | (go_at_call 28; ((with_reducible refine (ct _).mono ?_); rintro e w' ⟨rfl, m1, rfl⟩))
          | (go_at_call 11; ((with_reducible refine (cs _).mono ?_); rintro e w' ⟨rfl, m2, rfl⟩)))
        go_ret
        exact ⟨rfl, _, rfl⟩
      · rw [if_neg (fun h => hz h.2)]
        have hz' : ¬ (z : Int) ≤ len := by omega
        go_enter Try.func21, Try.ntmps21
        go_wp2_with (first
          | (go_at_call 28; ((with_reducible refine (ct _).mono ?_); rintro e w' ⟨rfl, m1, rfl⟩))
          | (go_at_call 11; ((with_reducible refine (cs _).mono ?_); rintro e w' ⟨rfl, m2, rfl⟩)))
        go_ret
        exact ⟨rfl, _, rfl⟩
end Go.Proofs.Ytfgbiafoncaagaa.frame
/- Contracts of the reference's Sum and Seal of layer 2, for slices of fewer than 2^27 words. -/
namespace Go.Proofs.Ytfgbiafoncaagaa.zeros
open Go.RowKit Go.Proofs.Ytfgbiafoncaagaa.word
set_option linter.unusedVariables false

set_option maxHeartbeats 1600000 in
theorem refSum_any (a : Option Addr) (len cap : Nat) (xs : List Nat) (w : World) (hr : Reads .u32 w a len xs) (hx : ∀ x ∈ xs, x < 4294967296) (hl : len ≤ 134217727) :
    Calls Try.prog 27 #[.slice a len cap] w (Quiet (.int .u32 (zcount xs)) w) := by
  have hlen := hr.1
  go_enter Try.func27, Try.ntmps27
  go_wp2
  go_loopw [3, 4] (fun n i wr => ∃ k : Nat, k ≤ len ∧ i = .int .i64 k ∧ n = .int .u32 (zcount (xs.take k)) ∧ ∃ m, wr = w.drewN m) (fun _ i _ => len - (intOf i).toNat)
  case atStart => exact ⟨0, Nat.zero_le _, rfl, rfl, 0, rfl⟩
  case round =>
    obtain ⟨k, hk, rfl, rfl, m, rfl⟩ := hrel
    by_cases hlt : k < len
    · obtain ⟨b, off, rfl, hbs, hc⟩ := hr.at hlt
      have c1 : (w.drewN m).cell? ⟨b, off + k, none⟩ = some (.int .u32 ((xs.getD k 0 : Nat) : Int)) := hc k hlt
      have hx1 := getD32_lt xs hx k
      have HS := hid (zcount_snoc xs k (by omega))
      have hz := zcount_le (xs.take k)
      have hzl : (xs.take k).length ≤ k := List.length_take_le _ _
      have hb : zcount (xs.take k) ≤ 32 * k := by omega
      clear hc hz hzl hlen
      generalize zcount (xs.take k) = z at *
      generalize xs.getD k 0 = x1 at *
      have ho := ones_le x1
      have c := fun w' => refOnes_any x1 hx1 w'
      generalize ones x1 = o at *
      clear hx hr
      go_wp2_with (go_at_call 30; (with_reducible refine (c _).mono ?_); rintro e w' ⟨rfl, m2, rfl⟩)
      exact ⟨⟨k + 1, by omega, by go_num, congrArg (Value.int .u32) (by rw [HS.out]; omega), ⟨_, rfl⟩⟩, by simp [intOf]; omega⟩
    · obtain rfl : k = len := by omega
      go_wp2
      go_ret
      exact ⟨ret_int (by rw [List.take_of_length_le (by omega)]), _, rfl⟩
/-- append onto nothing: what the source reads as, in new memory -/
theorem cells_of {k : IntKind} {w : World} {ad : Addr} {len : Nat} {xs : List Nat} (h : Reads k w (some ad) len xs) : ∀ (j : Nat) (u : Value), (xs.map fun x : Nat => Value.int k (x : Int))[j]? = some u → w.cell? (ad.add j) = some u := by
  intro j u hj
  obtain ⟨_, he, hc⟩ := Reads.cells h (by have := (List.getElem?_eq_some_iff.1 hj).1; omega)
  cases he
  exact hc j u hj
set_option maxHeartbeats 1600000 in
theorem refSeal_any (a : Option Addr) (len cap : Nat) (xs : List Nat) (w : World) (hr : Reads .u32 w a len xs) (hx : ∀ x ∈ xs, x < 4294967296) (hl : len ≤ 134217727) (hnil : a = none → cap = 0) :
    Calls Try.prog 20 #[.slice a len cap] w fun e w' => ∃ v, e = .returned v ∧ w'.ownsRow w.heap.size 40 1 v (len + 1) ((sealed xs).map fun x : Nat => Value.int .u32 (x : Int)) ∧ Below w.heap.size w w' := by
  obtain ⟨i0, hi, hz0, hz1, hz2⟩ := info_parts Tryinfo34
  have hlen := hr.1
  have c := fun w' (h : Reads .u32 w' a len xs) => refSum_any a len cap xs w' h hx (by omega)
  have hz := zcount_le xs
  have hmod : zcount xs % 4294967296 = zcount xs := Nat.mod_eq_of_lt (by omega)
  unfold sealed
  rw [hmod]
  clear hmod hz
  generalize zcount xs = z at *
  have HX := hid hx
  have HL := hid hlen
  clear hx hlen
  cases a with
  | none =>
    have hcap := hnil rfl
    subst hcap
    have h0 : len = 0 := by
      rcases hr.2 with h | ⟨_, _, h, _⟩
      · exact h
      · cases h
    subst h0
    obtain rfl : xs = [] := List.eq_nil_of_length_eq_zero HL.out
    clear hnil
    go_enter Try.func20, Try.ntmps20
    go_wp2_with (first
      | (go_at_call 27; (with_reducible refine (c _ hr).mono ?_); rintro e w' ⟨rfl, m2, rfl⟩)
      | (at_builtin; refine wpList_append_own_none rfl _ _ 22 rfl w.heap.size 40 i0 1 Try.underlying22 hi (.slice none 0 0) 0 [] rfl (World.ownsRow_nil _ _ _ _) rfl ?_)
      | (at_builtin; refine wpList_append_own _ rfl _ _ 22 rfl w.heap.size 40 i0 (.int .u32 0) 1 4 Try.underlying22 hi hz0 hz1 hz2 rfl (by decide) (.slice none 0 0) 0 [] rfl (World.ownsRow_nil _ _ _ _) ⟨(w.drewN m2).heap.size, 0, none⟩ 1 1 [.int .u32 (z : Int)] rfl rfl (one_new _ _ _) (one_cell rfl) (by unfold maxLen; omega) (by omega) (by simp) ?_))
    intro v2 w2 ho2 hg2 _
    go_wp2
    go_ret
    exact ⟨_, rfl, ho2, ((below_drewN (Below.refl _ _) m2).alloc (by simp) _).grown hg2 (by simp) (fun k hk => by cases hk)⟩
  | some ad =>
    clear hnil
    go_enter Try.func20, Try.ntmps20
    go_wp2_with (at_builtin; refine wpList_append_own _ rfl _ _ 22 rfl w.heap.size 40 i0 (.int .u32 0) 1 4 Try.underlying22 hi hz0 hz1 hz2 rfl (by decide) (.slice none 0 0) 0 [] rfl (World.ownsRow_nil _ _ _ _) ad len cap (xs.map fun x : Nat => Value.int .u32 (x : Int)) rfl (by simp [HL.out]) (cells_of hr) (ints_one _ _) (by unfold maxLen; omega) (by omega) (by simp) ?_)
    intro v1 w1 ho1 hg1 _
    have hb1 := (Below.refl w.heap.size w).grown hg1 (Nat.le_refl _) (fun k h => by cases h)
    have hr1 := hr.below hb1
    have HO1 := hid ho1
    clear ho1
    go_wp2_with (first
      | (go_at_call 27; (with_reducible refine (c _ hr1).mono ?_); rintro e w' ⟨rfl, m2, rfl⟩)
      | (at_builtin; refine wpList_append_own _ rfl _ _ 22 rfl w.heap.size 40 i0 (.int .u32 0) 1 4 Try.underlying22 hi hz0 hz1 hz2 rfl (by decide) v1 len (xs.map fun x : Nat => Value.int .u32 (x : Int)) rfl ((HO1.out.drewN m2).alloc _) ⟨(w1.drewN m2).heap.size, 0, none⟩ 1 1 [.int .u32 (z : Int)] rfl rfl (one_new _ _ _) (one_cell rfl) (by unfold maxLen; omega) (by omega) (by have := hb1.size; simp; omega) ?_))
    intro v2 w2 ho2 hg2 _
    go_wp2
    go_ret
    refine ⟨_, rfl, ?_, ((below_drewN hb1 m2).alloc (by have := hb1.size; simpa using this) _).grown hg2 (by have := hb1.size; simp; omega) (fun k hk => (HO1.out.lt k hk).1)⟩
    rw [List.map_append]
    exact ho2
end Go.Proofs.Ytfgbiafoncaagaa.zeros
/- A block that is known whole: what its cells are before and behind stores. No condition. -/
namespace Go.Proofs.Ytfgbiafoncaagaa
open Go.RowKit
set_option linter.unusedVariables false

/-- block b holds just these cells, and may be written -/
def Block (w : World) (b : Nat) (t : TypeId) (cs : List Value) : Prop := w.heap[b]? = some (.cells cs.toArray t (0, 0))
theorem Block.lt {w : World} {b : Nat} {t : TypeId} {cs : List Value} (h : Block w b t cs) : b < w.heap.size := (Array.getElem?_eq_some_iff.1 h).1
theorem Block.cell {w : World} {b : Nat} {t : TypeId} {cs : List Value} (h : Block w b t cs) (j : Nat) : w.cell? ⟨b, j, none⟩ = cs[j]? := by
  rw [cell_of_row w b j cs.toArray t (0, 0) h]; simp
theorem Block.frozen {w : World} {b : Nat} {t : TypeId} {cs : List Value} (h : Block w b t cs) (j : Nat) : w.frozen? ⟨b, j, none⟩ = false := frozen_of_row w b j cs.toArray t h
theorem Block.range {w : World} {b : Nat} {t : TypeId} {cs : List Value} (h : Block w b t cs) (o : Nat) (vs : List Value) (hv : ∀ j v, vs[j]? = some v → cs[o + j]? = some v) : w.rangeAt b o vs :=
  fun j v hj => by rw [h.cell]; exact hv j v hj
theorem Block.whole {w : World} {b : Nat} {t : TypeId} {cs : List Value} (h : Block w b t cs) : w.rangeAt b 0 cs := h.range 0 cs (fun j v hj => by rw [Nat.zero_add]; exact hj)
theorem Block.there {w : World} {b : Nat} {t : TypeId} {cs : List Value} (h : Block w b t cs) (o n : Nat) (hn : o + n ≤ cs.length) : w.there b o n :=
  fun j hj => ⟨by rw [h.cell, List.getElem?_eq_getElem (by omega)]; rfl, h.frozen _⟩
theorem Block.setCell {w : World} {b : Nat} {t : TypeId} {cs : List Value} (h : Block w b t cs) (j : Nat) (v : Value) : Block (w.setCell ⟨b, j, none⟩ v) b t (cs.set j v) := by
  have := heap_setCell_same w b j cs.toArray t v h
  unfold Block
  rw [this]
  simp
/-- the cells from o on turned -/
def put (cs : List Value) : Nat → List Value → List Value
  | _, [] => cs
  | o, v :: r => put (cs.set o v) (o + 1) r
theorem put_mid (A X C Y : List Value) (h : X.length = Y.length) : put (A ++ X ++ C) A.length Y = A ++ Y ++ C := by
  induction Y generalizing A X with
  | nil => obtain rfl : X = [] := List.eq_nil_of_length_eq_zero (by simpa using h); rfl
  | cons y r ih =>
    cases X with
    | nil => simp at h
    | cons x X =>
      have e : (A ++ x :: X ++ C).set A.length y = (A ++ [y]) ++ X ++ C := by simp
      have := ih (A ++ [y]) X (by simpa using h)
      rw [put, e, show A.length + 1 = (A ++ [y]).length by simp, this]
      simp
theorem put_all (X Y : List Value) (h : X.length = Y.length) : put X 0 Y = Y := by
  have := put_mid [] X [] Y h
  simpa using this
theorem Block.setCells {b : Nat} {t : TypeId} : ∀ {vs : List Value} {o : Nat} {w : World} {cs : List Value}, Block w b t cs → Block (w.setCells b o vs) b t (put cs o vs)
  | [], _, _, _, h => h
  | v :: r, o, w, cs, h => Block.setCells (vs := r) (o := o + 1) (h.setCell o v)
theorem Block.alloc {w : World} {b : Nat} {t : TypeId} {cs : List Value} (h : Block w b t cs) (ob : Obj) : Block (w.alloc ob) b t cs := (Below.heap_alloc w ob b h.lt).trans h
theorem Block.new (w : World) (t : TypeId) (cs : List Value) : Block (w.alloc (.cells cs.toArray t)) w.heap.size t cs := heap_alloc_last w _
theorem Block.drewN {w : World} {b : Nat} {t : TypeId} {cs : List Value} (h : Block w b t cs) (n : Nat) : Block (w.drewN n) b t cs := h
theorem Block.below {w w' : World} {b B : Nat} {t : TypeId} {cs : List Value} (h : Block w b t cs) (hb : Below B w w') (hB : b < B) : Block w' b t cs := (hb.block b hB).trans h
theorem Block.later {w w' : World} {b : Nat} {t : TypeId} {cs : List Value} (h : Block w b t cs) (hb : Below w.heap.size w w') : Block w' b t cs := h.below hb h.lt
theorem Block.apart {w : World} {b : Nat} {t : TypeId} {cs : List Value} (h : Block w b t cs) (g o : Nat) (v : Value) (hg : b ≠ g) : Block (w.setCell ⟨g, o, none⟩ v) b t cs :=
  (Below.heap_setCell w ⟨g, o, none⟩ v b hg).trans h
theorem heap_setCells (g : Nat) : ∀ (vs : List Value) (o : Nat) (w : World) (k : Nat), k ≠ g → (w.setCells g o vs).heap[k]? = w.heap[k]?
  | [], _, _, _, _ => rfl
  | v :: r, o, w, k, h => (heap_setCells g r (o + 1) _ k h).trans (Below.heap_setCell w ⟨g, o, none⟩ v k h)
theorem size_setCells (g : Nat) : ∀ (vs : List Value) (o : Nat) (w : World), (w.setCells g o vs).heap.size = w.heap.size
  | [], _, _ => rfl
  | v :: r, o, w => (size_setCells g r (o + 1) _).trans (by simp)
theorem rest_setCells (g : Nat) : ∀ (vs : List Value) (o : Nat) (w : World), (w.setCells g o vs).os = w.os ∧ (w.setCells g o vs).tape = w.tape ∧ (w.setCells g o vs).output = w.output
  | [], _, _ => ⟨rfl, rfl, rfl⟩
  | v :: r, o, w => rest_setCells g r (o + 1) (w.setCell ⟨g, o, none⟩ v)
theorem Block.aparts {w : World} {b : Nat} {t : TypeId} {cs : List Value} (h : Block w b t cs) (g o : Nat) (vs : List Value) (hg : b ≠ g) : Block (w.setCells g o vs) b t cs :=
  (heap_setCells g vs o w b hg).trans h
theorem below_setCells {B g : Nat} {a w : World} (h : Below B a w) (hg : B ≤ g) (o : Nat) (vs : List Value) : Below B a (w.setCells g o vs) :=
  h.trans ⟨(rest_setCells g vs o w).1, (rest_setCells g vs o w).2.1, (rest_setCells g vs o w).2.2, by rw [size_setCells]; exact Nat.le_refl _, fun k hk => heap_setCells g vs o w k (by omega)⟩

/-- copy into a block -/
theorem wpList_copy_block {P : Program} {w : World} {ops : Array Oper} {rest : List Oper} {o : Oper} {a : Act} {Q : Exit → Act → World → Prop} (hgd : o.guard = none) (d s : Operand) (dT sT : TypeId)
    (ho : o.op = .call { callee := .builtin .copy, args := #[d, s], argTypes := #[dT, sT] }) (elem : TypeId) (hu : P.underlying dT = some (.slice elem)) (hsz : (P.info? elem).map (·.size) = some 1)
    (b off dLen dCap : Nat) (ad : Addr) (sLen sCap : Nat) (hd : a.eval d = .slice (some ⟨b, off, none⟩) dLen dCap) (hs : a.eval s = .slice (some ad) sLen sCap)
    (cs : List Value) (hn : cs.length = Nat.min sLen dLen) (hsrc : ∀ j v, cs[j]? = some v → w.cell? (ad.add j) = some v) (hth : w.there b off cs.length) (h1 : ∀ v ∈ cs, v.oneCell' = true)
    (h : wpList P ops Q rest (a.put o.dst (goInt cs.length)) (w.setCells b off cs)) : wpList P ops Q (o :: rest) a w := by
  refine wpList_plain hgd fun K hK => ?_
  have hrun := run_copy_cells (P := P) w dT sT o.type elem b off dLen dCap ad sLen sCap cs hu hsz hn hsrc (fun j hj => (hth j hj).1) (fun j hj => (hth j hj).2) h1
  unfold Oper.wp
  simp [execOp, ho, resolve, invoke, builtin, hd, hs, hrun, Result.andThen]
  exact hK _ _ h

/-- a store of a whole array; the world behind it gets a name -/
theorem wpList_store_named {P : Program} {w : World} {ops : Array Oper} {rest : List Oper} {op : Oper} {a : Act} {Q : Exit → Act → World → Prop} (hgd : op.guard = none) (ty : TypeId) (x y : Operand) (ho : op.op = .store ty x y)
    (b o : Nat) (cells : Array Value) (hx : a.eval x = .pointer (some ⟨b, o, none⟩)) (hy : a.eval y = .agg cells)
    (ht : w.there b o cells.size) (hi : (P.info? ty).map (·.size) = some cells.size) (h1 : cells.all (·.oneCell') = true)
    (h : ∀ w', Hid (w.setCells b o cells.toList = w') → wpList P ops Q rest (a.put op.dst undef) w') : wpList P ops Q (op :: rest) a w :=
  wpList_store_mid hgd ty x y ho b o cells hx hy ht hi h1 (h _ rfl)

/-- a result that is an array and lives in a variable -/
theorem results_cell {fn : Func} {p : Tmp} {ty : TypeId} {tmps : Array Value} {P : Program} {w : World} {b o : Nat} {cs : List Value} {d : TypeDesc} (h : fn.results = #[.cell p ty])
    (hp : tmps.getD p undef = .pointer (some ⟨b, o, none⟩)) (hc : w.rangeAt b o cs) (hu : P.underlying ty = some d) (hd : d.isRow = true) (hi : (P.info? ty).map (·.size) = some cs.length) :
    (results fn tmps).run P w = .ok (.agg cs.toArray) w := by
  simp only [results, h]
  simp at hp
  simp [hp, asAddr, run_loadVar_mid w b o ty cs d hc hu hd hi]

theorem ownsRow_later {w w' : World} {base e size n : Nat} {v : Value} {xs : List Value} (h : w.ownsRow base e size v n xs) (hb : Below w.heap.size w w') : w'.ownsRow base e size v n xs := by
  refine ⟨h.1, ?_⟩
  rcases h.2 with h0 | ⟨g, cap, cur, hv, h1, hg, h2, h3, h4, h5⟩
  · exact .inl h0
  · exact .inr ⟨g, cap, cur, hv, h1, (hb.block g (Array.getElem?_eq_some_iff.1 hg).1).trans hg, h2, h3, h4, h5⟩
/-- below B only block g may have changed -/
def But (B g : Nat) (w w' : World) : Prop :=
  w'.os = w.os ∧ w'.tape = w.tape ∧ w'.output = w.output ∧ w.heap.size ≤ w'.heap.size ∧ ∀ k, k < B → k ≠ g → w'.heap[k]? = w.heap[k]?
theorem But.refl (B g : Nat) (w : World) : But B g w w := ⟨rfl, rfl, rfl, Nat.le_refl _, fun _ _ _ => rfl⟩
theorem But.trans {B g : Nat} {a b c : World} (h : But B g a b) (k : But B g b c) : But B g a c :=
  ⟨k.1.trans h.1, k.2.1.trans h.2.1, k.2.2.1.trans h.2.2.1, Nat.le_trans h.2.2.2.1 k.2.2.2.1, fun j h1 h2 => (k.2.2.2.2 j h1 h2).trans (h.2.2.2.2 j h1 h2)⟩
theorem Below.but {B g : Nat} {a b : World} (h : Below B a b) : But B g a b := ⟨h.os, h.tape, h.output, h.size, fun k hk _ => h.block k hk⟩
theorem But.below {B B' g : Nat} {a b : World} (h : But B g a b) (hB : B' ≤ B) (hg : B' ≤ g) : Below B' a b := ⟨h.1, h.2.1, h.2.2.1, h.2.2.2.1, fun k hk => h.2.2.2.2 k (by omega) (by omega)⟩
theorem But.mono {B B' g : Nat} {a b : World} (h : But B g a b) (hB : B' ≤ B) : But B' g a b := ⟨h.1, h.2.1, h.2.2.1, h.2.2.2.1, fun k hk hg => h.2.2.2.2 k (by omega) hg⟩
theorem But.setCells {B g : Nat} {a w : World} (h : But B g a w) (o : Nat) (vs : List Value) : But B g a (w.setCells g o vs) :=
  h.trans ⟨(rest_setCells g vs o w).1, (rest_setCells g vs o w).2.1, (rest_setCells g vs o w).2.2, by rw [size_setCells]; exact Nat.le_refl _, fun k _ hg => heap_setCells g vs o w k hg⟩
theorem But.setCell {B g : Nat} {a w : World} (h : But B g a w) (o : Nat) (v : Value) : But B g a (w.setCell ⟨g, o, none⟩ v) := h.setCells o [v]
theorem But.step {B g : Nat} {a w w' : World} (h : But B g a w) (k : Below w.heap.size w w') (hB : B ≤ w.heap.size) : But B g a w' := h.trans (Below.but (k.mono hB))
theorem But.drewN {B g : Nat} {a w : World} (h : But B g a w) (n : Nat) : But B g a (w.drewN n) := h
theorem Block.but {w w' : World} {b B g : Nat} {t : TypeId} {cs : List Value} (h : Block w b t cs) (hb : But B g w w') (hB : b < B) (hg : b ≠ g) : Block w' b t cs := (hb.2.2.2.2 b hB hg).trans h
theorem Reads.but {k : IntKind} {w w' : World} {b off len B g : Nat} {xs : List Nat} (h : Reads k w (some ⟨b, off, none⟩) len xs) (hb : But B g w w') (hB : b < B) (hg : b ≠ g) : Reads k w' (some ⟨b, off, none⟩) len xs := by
  refine ⟨h.1, ?_⟩
  rcases h.2 with h | ⟨b', off', ha, hlt, hc⟩
  · exact .inl h
  · cases ha
    refine .inr ⟨b, off, rfl, Nat.lt_of_lt_of_le hlt hb.2.2.2.1, fun i hi => ?_⟩
    rw [World.cell?_of_block (w := w) (hb.2.2.2.2 b hB hg)]; exact hc i hi
/-- part of a block reads as numbers -/
theorem Block.reads {k : IntKind} {w : World} {b : Nat} {t : TypeId} {cs : List Value} (h : Block w b t cs) (o : Nat) (xs : List Nat) (hx : ∀ i, i < xs.length → cs[o + i]? = some (.int k ((xs.getD i 0 : Nat) : Int))) (n : Nat) (hn : xs.length = n) : Reads k w (some ⟨b, o, none⟩) n xs :=
  ⟨hn, .inr ⟨b, o, rfl, h.lt, fun i hi => by rw [h.cell]; exact hx i (by omega)⟩⟩
end Go.Proofs.Ytfgbiafoncaagaa
/- append onto a row of the call's own, from whatever slice. No condition. -/
namespace Go.Proofs.Ytfgbiafoncaagaa
open Go.RowKit
set_option linter.unusedVariables false

theorem grown_refl (w : World) (row : Option Nat) : w.grownBy w row := ⟨rfl, rfl, rfl, Nat.le_refl _, fun _ _ _ => rfl⟩
theorem wpList_append_from {P : Program} {w : World} {ops : Array Oper} {rest : List Oper} {o : Oper} {a : Act} {Q : Exit → Act → World → Prop} (hgd : o.guard = none) (s x : Operand) (t : TypeId)
    (ho : o.op = .call { callee := .builtin .append, args := #[s, x], argTypes := #[t, t] })
    (base : Nat) (e : TypeId) (i : TypeInfo) (z : Value) (bytes : Nat) (ht : P.underlying t = some (.slice e)) (hi : P.info? e = some i) (hz : i.zero = some z)
    (hsize : i.size = 1) (hby : i.bytes = bytes) (hzs : z.cells.size = 1)
    (v : Value) (n : Nat) (xs : List Value) (hs : a.eval s = v) (hown : w.ownsRow base e 1 v n xs)
    (ap : Option Addr) (m c : Nat) (news : List Value) (hx : a.eval x = .slice ap m c) (hl : news.length = m)
    (hnews : m = 0 ∨ ∃ ad, ap = some ad ∧ ∀ j u, news[j]? = some u → w.cell? (ad.add j) = some u) (h1 : ∀ u ∈ news, u.oneCell' = true)
    (h63 : n + m ≤ maxLen) (hbytes : (n + m) * bytes ≤ 140737488355328) (hbase : base ≤ w.heap.size)
    (h : ∀ v' w', w'.ownsRow base e 1 v' (n + m) (xs ++ news) → w.grownBy w' v.ownBlock → wpList P ops Q rest (a.put o.dst v') w') : wpList P ops Q (o :: rest) a w := by
  by_cases hm : m = 0
  · subst hm
    obtain rfl : news = [] := List.eq_nil_of_length_eq_zero hl
    obtain ⟨bp, cp, rfl, hcp⟩ := ownsRow_slice hown
    have hsrc : Src P i.size t (.slice ap 0 c) 0 [] w := by
      cases ap with
      | none => exact Src.ofNil w ht c
      | some ad => exact Src.ofSlice w ht ad 0 c [] (by simp) (by simp) (by simp)
    have hrun := run_append_nothing w t t o.type e i ht hi bp n cp hcp _ hsrc
    refine wpList_plain hgd fun K hK => ?_
    unfold Oper.wp
    simp [execOp, ho, resolve, invoke, builtin, hs, hx, hrun, Result.andThen]
    exact hK _ _ (h _ w (by simpa using hown) (grown_refl _ _))
  · rcases hnews with h0 | ⟨ad, rfl, hc⟩
    · exact absurd h0 hm
    · exact wpList_append_own w hgd s x t ho base e i z 1 bytes ht hi hz hsize hby hzs (by decide) v n xs hs hown ad m c news hx (by omega) hc h1 h63 hbytes hbase (fun v' w' h2 h3 _ => h v' w' h2 h3)
end Go.Proofs.Ytfgbiafoncaagaa
/- A slice that holds given values. No condition. -/
namespace Go.Proofs.Ytfgbiafoncaagaa
open Go.RowKit
set_option linter.unusedVariables false

/-- the slice at address a, of length len, holds the values vs -/
def Vals (w : World) (a : Option Addr) (len : Nat) (vs : List Value) : Prop :=
  vs.length = len ∧ (len = 0 ∨ ∃ b off, a = some ⟨b, off, none⟩ ∧ b < w.heap.size ∧ ∀ i v, vs[i]? = some v → w.cell? ⟨b, off + i, none⟩ = some v)
theorem Vals.nil {w : World} {a : Option Addr} : Vals w a 0 [] := ⟨rfl, .inl rfl⟩
theorem Vals.at {w : World} {a : Option Addr} {len : Nat} {vs : List Value} (h : Vals w a len vs) {i : Nat} (hi : i < len) :
    ∃ b off, a = some ⟨b, off, none⟩ ∧ b < w.heap.size ∧ ∀ i v, vs[i]? = some v → w.cell? ⟨b, off + i, none⟩ = some v := by
  rcases h.2 with h | h
  · omega
  · exact h
theorem Vals.below {w w' : World} {a : Option Addr} {len : Nat} {vs : List Value} (h : Vals w a len vs) (hb : Below w.heap.size w w') : Vals w' a len vs := by
  refine ⟨h.1, ?_⟩
  rcases h.2 with h | ⟨b, off, ha, hlt, hc⟩
  · exact .inl h
  · exact .inr ⟨b, off, ha, Nat.lt_of_lt_of_le hlt hb.size, fun i v hv => by rw [hb.cell (p := ⟨b, off + i, none⟩) hlt]; exact hc i v hv⟩
theorem Vals.drewN {w : World} {a : Option Addr} {len : Nat} {vs : List Value} (h : Vals w a len vs) (n : Nat) : Vals (w.drewN n) a len vs := h.below (below_drewN (Below.refl _ _) n)
theorem Vals.own {w : World} {base e n : Nat} {a : Option Addr} {cap : Nat} {vs : List Value} (h : w.ownsRow base e 1 (.slice a n cap) n vs) : Vals w a n vs := by
  obtain ⟨hl, hr⟩ := h
  simp at hl
  refine ⟨hl, ?_⟩
  rcases hr with ⟨hv, h0⟩ | ⟨g, cap', cur, hv, _, hg, _, _, _, htake⟩
  · exact .inl h0
  · cases hv
    refine .inr ⟨g, 0, rfl, (Array.getElem?_eq_some_iff.1 hg).1, fun i v hv => ?_⟩
    have hi : i < n := by have := (List.getElem?_eq_some_iff.1 hv).1; omega
    rw [Nat.zero_add, cell_of_row w g i cur e (0, 0) hg]
    have h2 : (cur.toList.take (n * 1))[i]? = vs[i]? := by rw [htake]
    rw [List.getElem?_take, if_pos (by omega), Array.getElem?_toList] at h2
    rw [h2, hv]
theorem Vals.but {w w' : World} {a : Option Addr} {len g : Nat} {vs : List Value} (h : Vals w a len vs) (hb : But w.heap.size g w w') (ha : ∀ x, a = some x → x.block ≠ g) : Vals w' a len vs := by
  refine ⟨h.1, ?_⟩
  rcases h.2 with h | ⟨b, off, rfl, hlt, hc⟩
  · exact .inl h
  · refine .inr ⟨b, off, rfl, Nat.lt_of_lt_of_le hlt hb.2.2.2.1, fun i v hv => ?_⟩
    rw [← hc i v hv]
    show w'.cell? _ = w.cell? _
    unfold World.cell?
    rw [hb.2.2.2.2 b hlt (ha _ rfl)]
/-- where a part of a slice from k on lies -/
def vshift (a : Option Addr) (k cap : Nat) : Option Addr := if cap = k then a else a.map (·.add k)
theorem Vals.drop {w : World} {a : Option Addr} {len cap k : Nat} {vs : List Value} (h : Vals w a len vs) (hk : k ≤ len) (hc : len ≤ cap) : Vals w (vshift a k cap) (len - k) (vs.drop k) := by
  refine ⟨by rw [List.length_drop, h.1], ?_⟩
  by_cases h0 : len - k = 0
  · exact .inl h0
  · obtain ⟨b, off, rfl, hb, hcell⟩ := h.at (i := 0) (by omega)
    refine .inr ⟨b, off + k, ?_, hb, fun i v hv => ?_⟩
    · rw [vshift, if_neg (by omega), Option.map_some, Addr.add_lit]
    · rw [List.getElem?_drop] at hv
      rw [Nat.add_assoc]
      exact hcell (k + i) v hv
theorem vshift_block {a : Option Addr} {k cap b : Nat} (h : ∀ x, a = some x → x.block ≠ b) : ∀ x, vshift a k cap = some x → x.block ≠ b := by
  intro x hx
  unfold vshift at hx
  split at hx
  · exact h x hx
  · cases a with
    | none => cases hx
    | some y =>
      cases hx
      have := h y rfl
      unfold Addr.add
      split <;> exact this
theorem own_apart {w : World} {base e n g : Nat} {a : Option Addr} {cap : Nat} {vs : List Value} (h : w.ownsRow base e 1 (.slice a n cap) n vs) (hg : g < base) : ∀ x, a = some x → x.block ≠ g := by
  intro x hx e
  subst hx
  obtain ⟨_, hr⟩ := h
  rcases hr with ⟨hv, _⟩ | ⟨g', cap', cur, hv, hb, _⟩
  · cases hv
  · cases hv
    simp at e
    omega
theorem ownsRow_same {w w' : World} {base e size n : Nat} {v : Value} {xs : List Value} (h : w.ownsRow base e size v n xs) (hh : ∀ g, v.ownBlock = some g → w'.heap[g]? = w.heap[g]?) : w'.ownsRow base e size v n xs := by
  refine ⟨h.1, ?_⟩
  rcases h.2 with h0 | ⟨g, cap, cur, hv, h1, hg, h2, h3, h4, h5⟩
  · exact .inl h0
  · exact .inr ⟨g, cap, cur, hv, h1, (hh g (by rw [hv]; rfl)).trans hg, h2, h3, h4, h5⟩
end Go.Proofs.Ytfgbiafoncaagaa
/- Rows of numbers in a block of their own, and worlds in which only given blocks have turned. No condition. -/
namespace Go.Proofs.Ytfgbiafoncaagaa
open Go.RowKit
set_option linter.unusedVariables false

/-- but for the blocks of S, what there was stands -/
structure Only (S : Nat → Prop) (w w' : World) : Prop where
  os : w'.os = w.os
  tape : w'.tape = w.tape
  output : w'.output = w.output
  size : w.heap.size ≤ w'.heap.size
  block : ∀ k, k < w.heap.size → ¬ S k → w'.heap[k]? = w.heap[k]?
section
variable {S T : Nat → Prop} {a b c w w' : World}
theorem Only.refl (S : Nat → Prop) (w : World) : Only S w w := ⟨rfl, rfl, rfl, Nat.le_refl _, fun _ _ _ => rfl⟩
/-- what the second turns is of S, or was not there at first -/
theorem Only.next (h : Only S a b) (k : Only T b c) (hT : ∀ x, T x → x < a.heap.size → S x) : Only S a c :=
  ⟨k.os.trans h.os, k.tape.trans h.tape, k.output.trans h.output, Nat.le_trans h.size k.size, fun x hx hn => (k.block x (Nat.lt_of_lt_of_le hx h.size) (fun ht => hn (hT x ht hx))).trans (h.block x hx hn)⟩
theorem Only.trans (h : Only S a b) (k : Only S b c) : Only S a c := h.next k fun _ h _ => h
theorem Only.mono (h : Only S a b) (hS : ∀ x, S x → x < a.heap.size → T x) : Only T a b := (Only.refl T a).next h hS
theorem Only.later (h : Only S a b) (k : Below b.heap.size b c) : Only S a c := ⟨k.os.trans h.os, k.tape.trans h.tape, k.output.trans h.output, Nat.le_trans h.size k.size, fun x hx hn => (k.block x (Nat.lt_of_lt_of_le hx h.size)).trans (h.block x hx hn)⟩
theorem Only.of (k : Below a.heap.size a b) : Only S a b := (Only.refl S a).later k
theorem Only.drewN (h : Only S a b) (n : Nat) : Only S a (b.drewN n) := ⟨h.os, h.tape, h.output, h.size, h.block⟩
theorem Only.setCell (h : Only S a b) {g : Nat} (hg : S g ∨ a.heap.size ≤ g) (o : Nat) (v : Value) : Only S a (b.setCell ⟨g, o, none⟩ v) := by
  refine h.next (T := fun x => x = g) ⟨rfl, rfl, rfl, by simp, fun k _ hk => Below.heap_setCell b ⟨g, o, none⟩ v k hk⟩ ?_
  rintro x rfl hx
  rcases hg with h | h
  · exact h
  · omega
theorem Only.alloc (h : Only S a b) (ob : Obj) : Only S a (b.alloc ob) := h.later ((Below.refl _ b).alloc (Nat.le_refl _) ob)
theorem Only.below (h : Only S a b) {B : Nat} (hB : B ≤ a.heap.size) (hS : ∀ x, S x → B ≤ x) : Below B a b :=
  ⟨h.os, h.tape, h.output, h.size, fun k hk => h.block k (by omega) (fun hs => by have := hS k hs; omega)⟩
theorem _root_.Go.Proofs.Ytfgbiafoncaagaa.Block.only {g : Nat} {t : TypeId} {cs : List Value} (h : Block a g t cs) (k : Only S a b) (hg : ¬ S g) : Block b g t cs := (k.block g h.lt hg).trans h
end

/-- block g is a row of numbers of kind k, with room for cap: xs, and what stands behind -/
def Row (w : World) (t : TypeId) (k : IntKind) (g cap : Nat) (xs : List Nat) : Prop :=
  ∃ pad, Block w g t (xs.map (fun x : Nat => Value.int k (x : Int)) ++ pad) ∧ xs.length ≤ cap ∧ cap ≤ maxLen
section
variable {w w' : World} {t : TypeId} {k : IntKind} {g cap : Nat} {xs : List Nat}
theorem Row.lt (h : Row w t k g cap xs) : g < w.heap.size := by obtain ⟨pad, h, _⟩ := h; exact h.lt
theorem Row.heap (h : Row w t k g cap xs) (hh : w'.heap[g]? = w.heap[g]?) : Row w' t k g cap xs := by
  obtain ⟨pad, h1, h2⟩ := h
  exact ⟨pad, hh.trans h1, h2⟩
theorem Row.later (h : Row w t k g cap xs) (hb : Below w.heap.size w w') : Row w' t k g cap xs := h.heap (hb.block g h.lt)
theorem Row.only {S : Nat → Prop} (h : Row w t k g cap xs) (hb : Only S w w') (hg : ¬ S g) : Row w' t k g cap xs := h.heap (hb.block g h.lt hg)
theorem Row.apart (h : Row w t k g cap xs) (b o : Nat) (v : Value) (hg : g ≠ b) : Row (w.setCell ⟨b, o, none⟩ v) t k g cap xs := h.heap (Below.heap_setCell w ⟨b, o, none⟩ v g hg)
theorem Row.get (h : Row w t k g cap xs) {i : Nat} (hi : i < xs.length) : w.cell? ⟨g, i, none⟩ = some (.int k ((xs.getD i 0 : Nat) : Int)) := by
  obtain ⟨pad, h, _⟩ := h
  rw [h.cell, List.getElem?_append_left (by simpa using hi), List.getElem?_map, List.getD_eq_getElem?_getD, List.getElem?_eq_getElem hi]
  rfl
theorem Row.frozen (h : Row w t k g cap xs) (i : Nat) : w.frozen? ⟨g, i, none⟩ = false := by obtain ⟨pad, h, _⟩ := h; exact h.frozen i
theorem Row.set (h : Row w t k g cap xs) {i : Nat} (hi : i < xs.length) (v : Nat) : Row (w.setCell ⟨g, i, none⟩ (.int k (v : Int))) t k g cap (xs.set i v) := by
  obtain ⟨pad, h, h2⟩ := h
  refine ⟨pad, ?_, by simpa using h2⟩
  have := h.setCell i (.int k (v : Int))
  rwa [List.set_append, if_pos (by simpa using hi), ← List.map_set] at this
theorem Row.reads (h : Row w t k g cap xs) : Reads k w (some ⟨g, 0, none⟩) xs.length xs :=
  ⟨rfl, .inr ⟨g, 0, rfl, h.lt, fun i hi => by rw [Nat.zero_add]; exact h.get hi⟩⟩
/-- what the call itself made is such a row -/
theorem Row.own {base e n : Nat} {v : Value} {k : IntKind} (h : w.ownsRow base e 1 v n (xs.map fun x : Nat => Value.int k (x : Int))) (hn : 0 < n) :
    ∃ g cap, v = .slice (some ⟨g, 0, none⟩) n cap ∧ base ≤ g ∧ Row w e k g cap xs := by
  obtain ⟨hl, hr⟩ := h
  simp at hl
  rcases hr with ⟨hv, h0⟩ | ⟨g, cap, cur, hv, hb, hg, h1, h2, h3, h4⟩
  · omega
  · refine ⟨g, cap, hv, hb, cur.toList.drop (n * 1), ?_, by omega, h2⟩
    rw [← h4, List.take_append_drop]
    simpa [Block] using hg
end
theorem reads_only {S : Nat → Prop} {k : IntKind} {w w' : World} {a : Option Addr} {len : Nat} {xs : List Nat} (h : Reads k w a len xs) (hb : Only S w w') (ha : len = 0 ∨ ∃ x, a = some x ∧ ¬ S x.block) : Reads k w' a len xs := by
  refine ⟨h.1, ?_⟩
  rcases h.2 with h0 | ⟨b, off, rfl, hlt, hc⟩
  · exact .inl h0
  · rcases ha with h0 | ⟨x, hx, hS⟩
    · exact .inl h0
    · cases hx
      refine .inr ⟨b, off, rfl, Nat.lt_of_lt_of_le hlt hb.size, fun i hi => ?_⟩
      rw [World.cell?_of_block (w := w) (hb.block b hlt hS)]; exact hc i hi
end Go.Proofs.Ytfgbiafoncaagaa
