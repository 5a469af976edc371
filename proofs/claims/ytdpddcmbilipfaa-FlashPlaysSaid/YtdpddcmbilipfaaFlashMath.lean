/- A flash as values: its words, its wear, its fuse, and what each write makes of them. No condition. -/
import Derived.Test.YtdpddcmbilipfaaWordBits
namespace Go.Proofs.Ytdpddcmbilipfaa.flash
open Go.RowKit Go.Proofs.Ytdpddcmbilipfaa.word
set_option linter.unusedVariables false

/-- a flash: its words, how many a sector has, the erasures of each sector, the writes, whether it is without power, and the fuse: how many writes come first, and the masks -/
structure Fl where
  (ws : List Nat) (long : Nat) (worn : List Nat) (count : Nat) (dark : Bool) (fuse : Option (Nat × List Nat))
/-- the mask of word i -/
def maskAt (M : List Nat) (i : Nat) : Nat := if M.length = 0 then 0 else M.getD (i % M.length) 0
theorem maskAt_take (M : List Nat) (L i : Nat) (hi : i < L) : maskAt (M.take L) i = maskAt M i := by
  unfold maskAt
  rw [List.length_take]
  by_cases h : M.length ≤ L
  · rw [List.take_of_length_le h, Nat.min_eq_right h]
  · have h2 : L ≤ M.length := by omega
    rw [Nat.min_eq_left h2, if_neg (by omega), if_neg (by omega), Nat.mod_eq_of_lt hi, Nat.mod_eq_of_lt (by omega)]
    simp [List.getD, hi]
theorem maskAt_lt (M : List Nat) (i : Nat) (h : ∀ x ∈ M, x < 4294967296) : maskAt M i < 4294967296 := by
  unfold maskAt
  split
  · decide
  · have hi : i % M.length < M.length := Nat.mod_lt _ (by omega)
    rw [List.getD_eq_getElem?_getD, List.getElem?_eq_getElem hi]
    exact h _ (List.getElem_mem hi)
theorem getD_lt {l : List Nat} {B : Nat} (h : ∀ x ∈ l, x < B) (hB : 0 < B) (i : Nat) : l.getD i 0 < B := by
  rw [List.getD_eq_getElem?_getD]
  cases hx : l[i]? with
  | none => simpa using hB
  | some x => exact h x (List.mem_of_getElem? hx)
/-- k words from lo on turned -/
def run (f : Nat → Nat → Nat) (lo : Nat) : Nat → List Nat → List Nat
  | 0, ws => ws
  | k + 1, ws => (run f lo k ws).set (lo + k) (f k (ws.getD (lo + k) 0))
theorem run_length (f : Nat → Nat → Nat) (lo : Nat) : ∀ (k : Nat) (ws : List Nat), (run f lo k ws).length = ws.length
  | 0, _ => rfl
  | k + 1, ws => by rw [run, List.length_set, run_length f lo k ws]
theorem run_getD (f : Nat → Nat → Nat) (lo : Nat) : ∀ (k : Nat) (ws : List Nat) (j : Nat), lo + k ≤ ws.length → (run f lo k ws).getD j 0 = if lo ≤ j ∧ j < lo + k then f (j - lo) (ws.getD j 0) else ws.getD j 0
  | 0, ws, j, _ => by rw [run, if_neg (by omega)]
  | k + 1, ws, j, h => by
    have ih := run_getD f lo k ws j (by omega)
    have hl := run_length f lo k ws
    rw [run, List.getD_eq_getElem?_getD, List.getElem?_set]
    by_cases hj : lo + k = j
    · subst hj
      rw [if_pos rfl, if_pos (by omega), if_pos (by omega), Option.getD_some, Nat.add_sub_cancel_left]
    · rw [if_neg hj, ← List.getD_eq_getElem?_getD, ih]
      by_cases h2 : lo ≤ j ∧ j < lo + k
      · rw [if_pos h2, if_pos (by omega)]
      · rw [if_neg h2, if_neg (by omega)]
theorem mem_of_getD {l : List Nat} {P : Nat → Prop} (h : ∀ j, j < l.length → P (l.getD j 0)) : ∀ x ∈ l, P x := by
  intro x hx
  obtain ⟨j, hj, rfl⟩ := List.getElem_of_mem hx
  have := h j hj
  rwa [List.getD_eq_getElem?_getD, List.getElem?_eq_getElem hj, Option.getD_some] at this
theorem run_lt (f : Nat → Nat → Nat) (lo k : Nat) (ws : List Nat) (B : Nat) (hk : lo + k ≤ ws.length) (h : ∀ x ∈ ws, x < B) (hf : ∀ i x, x < B → f i x < B) (hB : 0 < B) : ∀ x ∈ run f lo k ws, x < B := by
  refine mem_of_getD (fun j hj => ?_)
  rw [run_getD f lo k ws j hk]
  split
  · exact hf _ _ (getD_lt h hB j)
  · exact getD_lt h hB j
theorem run_congr (f g : Nat → Nat → Nat) (lo : Nat) : ∀ (k : Nat) (ws : List Nat), (∀ i x, i < k → f i x = g i x) → run f lo k ws = run g lo k ws
  | 0, _, _ => rfl
  | k + 1, ws, h => by rw [run, run, run_congr f g lo k ws (fun i x hi => h i x (by omega)), h k _ (by omega)]
/-- what a torn erasure makes of a word -/
def tornWord (M : List Nat) (i x : Nat) : Nat := x ||| maskAt M i
def blank (_ _ : Nat) : Nat := 4294967295
/-- the fuse behind a write that it does not tear -/
def burnt : Option (Nat × List Nat) → Option (Nat × List Nat)
  | none => none
  | some (n, M) => some (n - 1, M)
/-- the masks where the next write is torn -/
def tears : Option (Nat × List Nat) → Option (List Nat)
  | some (0, M) => some M
  | _ => none
namespace Fl
/-- a write of words ws, not torn -/
def wrote (F : Fl) (ws worn : List Nat) : Fl := { F with ws := ws, worn := worn, count := F.count + 1, fuse := burnt F.fuse }
/-- a write that leaves words ws, torn -/
def tore (F : Fl) (ws worn : List Nat) : Fl := { F with ws := ws, worn := worn, count := F.count + 1, dark := true, fuse := none }
def read (F : Fl) (a : Int) : Nat × Int := if F.dark = true then (0, 10) else if a < 0 ∨ (F.ws.length : Int) ≤ a then (0, 3) else (F.ws.getD a.toNat 0, 0)
def program (F : Fl) (a : Int) (x : Nat) : Int × Fl :=
  if F.dark = true then (10, F) else if a < 0 ∨ (F.ws.length : Int) ≤ a then (3, F) else
  if clr x (F.ws.getD a.toNat 0) ≠ 0 then (11, F) else
  match tears F.fuse with
  | some M => (10, F.tore (F.ws.set a.toNat (clr (F.ws.getD a.toNat 0) (clr (maskAt M 0) x))) F.worn)
  | none => (0, F.wrote (F.ws.set a.toNat x) F.worn)
def worn1 (F : Fl) (s : Nat) : List Nat := F.worn.set s (F.worn.getD s 0 + 1)
def erase (F : Fl) (s : Int) : Int × Fl :=
  if F.dark = true then (10, F) else if s < 0 ∨ (F.worn.length : Int) ≤ s then (3, F) else
  match tears F.fuse with
  | some M => (10, F.tore (run (tornWord M) (s.toNat * F.long) F.long F.ws) (F.worn1 s.toNat))
  | none => (0, F.wrote (run blank (s.toNat * F.long) F.long F.ws) (F.worn1 s.toNat))
def arm (F : Fl) (n : Int) (M : List Nat) : Fl := { F with fuse := if n < 0 then none else some (n.toNat, M) }
def power (F : Fl) : Fl := { F with dark := false, fuse := none }
def fresh (s l : Nat) : Fl := ⟨List.replicate (s * l) 4294967295, l, List.replicate s 0, 0, false, none⟩
/-- what stands of every flash -/
structure Ok (F : Fl) : Prop where
  l1 : 1 ≤ F.long
  l2 : F.long ≤ 1024
  s1 : 1 ≤ F.worn.length
  s2 : F.worn.length ≤ 512
  n : F.ws.length = F.worn.length * F.long
  w : ∀ x ∈ F.ws, x < 4294967296
  c : ∀ x ∈ F.worn, x ≤ F.count
  m : ∀ n M, F.fuse = some (n, M) → n ≤ 9223372036854775807 ∧ M.length ≤ 140737488355328 ∧ ∀ x ∈ M, x < 4294967296
variable {F : Fl}
theorem Ok.ws_le (h : F.Ok) : F.ws.length ≤ 524288 := by
  rw [h.n]; exact Nat.mul_le_mul h.s2 h.l2
theorem Ok.ws_pos (h : F.Ok) : 1 ≤ F.ws.length := by
  rw [h.n]; exact Nat.mul_pos h.s1 h.l1
theorem Ok.sector (h : F.Ok) {s : Nat} (hs : s < F.worn.length) : s * F.long + F.long ≤ F.ws.length := by
  rw [h.n, ← Nat.succ_mul]; exact Nat.mul_le_mul_right _ hs
theorem worn1_length (F : Fl) (s : Nat) : (F.worn1 s).length = F.worn.length := by simp [worn1]
theorem worn1_le (h : F.Ok) (s : Nat) : ∀ x ∈ F.worn1 s, x ≤ F.count + 1 := by
  intro x hx
  rcases List.mem_or_eq_of_mem_set hx with hx | rfl
  · have := h.c x hx; omega
  · have : F.worn.getD s 0 < F.count + 1 := getD_lt (fun x hx => by have := h.c x hx; omega) (by omega) s
    omega
theorem burnt_m (h : F.Ok) : ∀ n M, burnt F.fuse = some (n, M) → n ≤ 9223372036854775807 ∧ M.length ≤ 140737488355328 ∧ ∀ x ∈ M, x < 4294967296 := by
  intro n M hf
  cases hF : F.fuse with
  | none => rw [hF] at hf; cases hf
  | some q =>
    obtain ⟨n', M'⟩ := q
    rw [hF] at hf
    cases hf
    have := h.m n' _ hF
    exact ⟨by omega, this.2⟩
theorem Ok.wrote (h : F.Ok) {ws worn : List Nat} (h1 : ws.length = F.ws.length) (h2 : ∀ x ∈ ws, x < 4294967296) (h3 : worn.length = F.worn.length) (h4 : ∀ x ∈ worn, x ≤ F.count + 1) : (F.wrote ws worn).Ok :=
  ⟨h.l1, h.l2, by show 1 ≤ worn.length; rw [h3]; exact h.s1, by show worn.length ≤ 512; rw [h3]; exact h.s2, by show ws.length = worn.length * F.long; rw [h1, h3]; exact h.n, h2, h4, burnt_m h⟩
theorem Ok.tore (h : F.Ok) {ws worn : List Nat} (h1 : ws.length = F.ws.length) (h2 : ∀ x ∈ ws, x < 4294967296) (h3 : worn.length = F.worn.length) (h4 : ∀ x ∈ worn, x ≤ F.count + 1) : (F.tore ws worn).Ok :=
  ⟨h.l1, h.l2, by show 1 ≤ worn.length; rw [h3]; exact h.s1, by show worn.length ≤ 512; rw [h3]; exact h.s2, by show ws.length = worn.length * F.long; rw [h1, h3]; exact h.n, h2, h4, fun _ _ hf => by cases hf⟩
theorem set_lt {l : List Nat} {B : Nat} (h : ∀ x ∈ l, x < B) {i v : Nat} (hv : v < B) : ∀ x ∈ l.set i v, x < B := by
  intro x hx
  rcases List.mem_or_eq_of_mem_set hx with hx | rfl
  · exact h x hx
  · exact hv
theorem tears_m (h : F.Ok) {M : List Nat} (ht : tears F.fuse = some M) : F.fuse = some (0, M) ∧ ∀ x ∈ M, x < 4294967296 := by
  match hF : F.fuse with
  | none => rw [hF] at ht; cases ht
  | some (0, M') => rw [hF] at ht; cases ht; exact ⟨rfl, (h.m _ _ hF).2.2⟩
  | some (n + 1, M') => rw [hF] at ht; cases ht
theorem Ok.program (h : F.Ok) (a : Int) {x : Nat} (hx : x < 4294967296) : (F.program a x).2.Ok := by
  unfold Fl.program
  split
  · exact h
  · split
    · exact h
    · split
      · exact h
      · split
        · exact h.tore (by simp) (set_lt h.w (clr_lt _ _ (getD_lt h.w (by decide) _))) rfl (fun x hx => by have := h.c x hx; omega)
        · exact h.wrote (by simp) (set_lt h.w hx) rfl (fun x hx => by have := h.c x hx; omega)
theorem Ok.erase (h : F.Ok) (s : Int) : (F.erase s).2.Ok := by
  unfold Fl.erase
  split
  · exact h
  · split
    · exact h
    · rename_i h2
      have hs : s.toNat < F.worn.length := by omega
      have h3 := h.sector hs
      split
      · rename_i M hM
        have hm := (tears_m h hM).2
        exact h.tore (run_length _ _ _ _) (run_lt _ _ _ _ _ h3 h.w (fun i x hx => Nat.or_lt_two_pow (n := 32) hx (maskAt_lt M i hm)) (by decide)) (worn1_length F _) (worn1_le h _)
      · exact h.wrote (run_length _ _ _ _) (run_lt _ _ _ _ _ h3 h.w (fun i x hx => by unfold blank; decide) (by decide)) (worn1_length F _) (worn1_le h _)
theorem Ok.arm (h : F.Ok) {n : Int} {M : List Nat} (hn : n ≤ 9223372036854775807) (hM : M.length ≤ 140737488355328) (hm : ∀ x ∈ M, x < 4294967296) : (F.arm n M).Ok :=
  ⟨h.l1, h.l2, h.s1, h.s2, h.n, h.w, h.c, fun n' M' hf => by
    simp only [Fl.arm] at hf
    split at hf
    · cases hf
    · cases hf; exact ⟨by omega, hM, hm⟩⟩
theorem Ok.power (h : F.Ok) : F.power.Ok := ⟨h.l1, h.l2, h.s1, h.s2, h.n, h.w, h.c, fun _ _ hf => by cases hf⟩
theorem Ok.fresh {s l : Nat} (h1 : 1 ≤ s) (h2 : s ≤ 512) (h3 : 1 ≤ l) (h4 : l ≤ 1024) : (Fl.fresh s l).Ok :=
  ⟨h3, h4, by simpa [Fl.fresh] using h1, by simpa [Fl.fresh] using h2, by simp [Fl.fresh], fun x hx => by rw [List.eq_of_mem_replicate hx]; decide, fun x hx => by rw [List.eq_of_mem_replicate hx]; exact Nat.zero_le _, fun _ _ hf => by cases hf⟩
end Fl
end Go.Proofs.Ytdpddcmbilipfaa.flash
