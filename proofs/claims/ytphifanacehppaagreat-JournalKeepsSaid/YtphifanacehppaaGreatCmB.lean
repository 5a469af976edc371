/- Contracts and lemmas that the claims of this seat share: FlashMath, GeomMath, DriveMath, DriveProg, DriveBlank, DriveStandsMath, JournalMath, FrameSize, ZerosRef. Each says its own conditions. -/
import Derived.Test.YtphifanacehppaaGreatCmA
/- A flash as values: its words, its wear, its fuse, and what each write makes of them. No condition. -/
namespace Go.Proofs.YtphifanacehppaaGreat.flash
open Go.RowKit Go.Proofs.YtphifanacehppaaGreat.word
set_option linter.unusedVariables false

/-- a flash: its words, how many a sector has, the erasures of each sector, the writes, whether it is without power, and the fuse: how many writes come first, and the masks -/
structure Fl where
  (ws : List Nat) (long : Nat) (worn : List Nat) (count : Nat) (dark : Bool) (fuse : Option (Nat × List Nat))
/-- the mask of word i -/
def maskAt (M : List Nat) (i : Nat) : Nat := if M.length = 0 then 0 else M.getD (i % M.length) 0
theorem maskAt_take (M : List Nat) (L i : Nat) (hi : i < L) : maskAt (M.take L) i = maskAt M i := by
  unfold maskAt
  rw [List.length_take]
  by_cases h : M.length ≤ L
  · rw [List.take_of_length_le h, Nat.min_eq_right h]
  · have h2 : L ≤ M.length := by omega
    rw [Nat.min_eq_left h2, if_neg (by omega), if_neg (by omega), Nat.mod_eq_of_lt hi, Nat.mod_eq_of_lt (by omega)]
    simp [List.getD, hi]
theorem maskAt_lt (M : List Nat) (i : Nat) (h : ∀ x ∈ M, x < 4294967296) : maskAt M i < 4294967296 := by
  unfold maskAt
  split
  · decide
  · have hi : i % M.length < M.length := Nat.mod_lt _ (by omega)
    rw [List.getD_eq_getElem?_getD, List.getElem?_eq_getElem hi]
    exact h _ (List.getElem_mem hi)
theorem getD_lt {l : List Nat} {B : Nat} (h : ∀ x ∈ l, x < B) (hB : 0 < B) (i : Nat) : l.getD i 0 < B := by
  rw [List.getD_eq_getElem?_getD]
  cases hx : l[i]? with
  | none => simpa using hB
  | some x => exact h x (List.mem_of_getElem? hx)
/-- k words from lo on turned -/
def run (f : Nat → Nat → Nat) (lo : Nat) : Nat → List Nat → List Nat
  | 0, ws => ws
  | k + 1, ws => (run f lo k ws).set (lo + k) (f k (ws.getD (lo + k) 0))
theorem run_length (f : Nat → Nat → Nat) (lo : Nat) : ∀ (k : Nat) (ws : List Nat), (run f lo k ws).length = ws.length
  | 0, _ => rfl
  | k + 1, ws => by rw [run, List.length_set, run_length f lo k ws]
theorem run_getD (f : Nat → Nat → Nat) (lo : Nat) : ∀ (k : Nat) (ws : List Nat) (j : Nat), lo + k ≤ ws.length → (run f lo k ws).getD j 0 = if lo ≤ j ∧ j < lo + k then f (j - lo) (ws.getD j 0) else ws.getD j 0
  | 0, ws, j, _ => by rw [run, if_neg (by omega)]
  | k + 1, ws, j, h => by
    have ih := run_getD f lo k ws j (by omega)
    have hl := run_length f lo k ws
    rw [run, List.getD_eq_getElem?_getD, List.getElem?_set]
    by_cases hj : lo + k = j
    · subst hj
      rw [if_pos rfl, if_pos (by omega), if_pos (by omega), Option.getD_some, Nat.add_sub_cancel_left]
    · rw [if_neg hj, ← List.getD_eq_getElem?_getD, ih]
      by_cases h2 : lo ≤ j ∧ j < lo + k
      · rw [if_pos h2, if_pos (by omega)]
      · rw [if_neg h2, if_neg (by omega)]
theorem mem_of_getD {l : List Nat} {P : Nat → Prop} (h : ∀ j, j < l.length → P (l.getD j 0)) : ∀ x ∈ l, P x := by
  intro x hx
  obtain ⟨j, hj, rfl⟩ := List.getElem_of_mem hx
  have := h j hj
  rwa [List.getD_eq_getElem?_getD, List.getElem?_eq_getElem hj, Option.getD_some] at this
theorem run_lt (f : Nat → Nat → Nat) (lo k : Nat) (ws : List Nat) (B : Nat) (hk : lo + k ≤ ws.length) (h : ∀ x ∈ ws, x < B) (hf : ∀ i x, x < B → f i x < B) (hB : 0 < B) : ∀ x ∈ run f lo k ws, x < B := by
  refine mem_of_getD (fun j hj => ?_)
  rw [run_getD f lo k ws j hk]
  split
  · exact hf _ _ (getD_lt h hB j)
  · exact getD_lt h hB j
theorem run_congr (f g : Nat → Nat → Nat) (lo : Nat) : ∀ (k : Nat) (ws : List Nat), (∀ i x, i < k → f i x = g i x) → run f lo k ws = run g lo k ws
  | 0, _, _ => rfl
  | k + 1, ws, h => by rw [run, run, run_congr f g lo k ws (fun i x hi => h i x (by omega)), h k _ (by omega)]
/-- what a torn erasure makes of a word -/
def tornWord (M : List Nat) (i x : Nat) : Nat := x ||| maskAt M i
def blank (_ _ : Nat) : Nat := 4294967295
/-- the fuse behind a write that it does not tear -/
def burnt : Option (Nat × List Nat) → Option (Nat × List Nat)
  | none => none
  | some (n, M) => some (n - 1, M)
/-- the masks where the next write is torn -/
def tears : Option (Nat × List Nat) → Option (List Nat)
  | some (0, M) => some M
  | _ => none
namespace Fl
/-- a write of words ws, not torn -/
def wrote (F : Fl) (ws worn : List Nat) : Fl := { F with ws := ws, worn := worn, count := F.count + 1, fuse := burnt F.fuse }
/-- a write that leaves words ws, torn -/
def tore (F : Fl) (ws worn : List Nat) : Fl := { F with ws := ws, worn := worn, count := F.count + 1, dark := true, fuse := none }
def read (F : Fl) (a : Int) : Nat × Int := if F.dark = true then (0, 10) else if a < 0 ∨ (F.ws.length : Int) ≤ a then (0, 3) else (F.ws.getD a.toNat 0, 0)
def program (F : Fl) (a : Int) (x : Nat) : Int × Fl :=
  if F.dark = true then (10, F) else if a < 0 ∨ (F.ws.length : Int) ≤ a then (3, F) else
  if clr x (F.ws.getD a.toNat 0) ≠ 0 then (11, F) else
  match tears F.fuse with
  | some M => (10, F.tore (F.ws.set a.toNat (clr (F.ws.getD a.toNat 0) (clr (maskAt M 0) x))) F.worn)
  | none => (0, F.wrote (F.ws.set a.toNat x) F.worn)
def worn1 (F : Fl) (s : Nat) : List Nat := F.worn.set s (F.worn.getD s 0 + 1)
def erase (F : Fl) (s : Int) : Int × Fl :=
  if F.dark = true then (10, F) else if s < 0 ∨ (F.worn.length : Int) ≤ s then (3, F) else
  match tears F.fuse with
  | some M => (10, F.tore (run (tornWord M) (s.toNat * F.long) F.long F.ws) (F.worn1 s.toNat))
  | none => (0, F.wrote (run blank (s.toNat * F.long) F.long F.ws) (F.worn1 s.toNat))
def arm (F : Fl) (n : Int) (M : List Nat) : Fl := { F with fuse := if n < 0 then none else some (n.toNat, M) }
def power (F : Fl) : Fl := { F with dark := false, fuse := none }
def fresh (s l : Nat) : Fl := ⟨List.replicate (s * l) 4294967295, l, List.replicate s 0, 0, false, none⟩
/-- what stands of every flash -/
structure Ok (F : Fl) : Prop where
  l1 : 1 ≤ F.long
  l2 : F.long ≤ 1024
  s1 : 1 ≤ F.worn.length
  s2 : F.worn.length ≤ 512
  n : F.ws.length = F.worn.length * F.long
  w : ∀ x ∈ F.ws, x < 4294967296
  c : ∀ x ∈ F.worn, x ≤ F.count
  m : ∀ n M, F.fuse = some (n, M) → n ≤ 9223372036854775807 ∧ M.length ≤ 140737488355328 ∧ ∀ x ∈ M, x < 4294967296
variable {F : Fl}
theorem Ok.ws_le (h : F.Ok) : F.ws.length ≤ 524288 := by
  rw [h.n]; exact Nat.mul_le_mul h.s2 h.l2
theorem Ok.ws_pos (h : F.Ok) : 1 ≤ F.ws.length := by
  rw [h.n]; exact Nat.mul_pos h.s1 h.l1
theorem Ok.sector (h : F.Ok) {s : Nat} (hs : s < F.worn.length) : s * F.long + F.long ≤ F.ws.length := by
  rw [h.n, ← Nat.succ_mul]; exact Nat.mul_le_mul_right _ hs
theorem worn1_length (F : Fl) (s : Nat) : (F.worn1 s).length = F.worn.length := by simp [worn1]
theorem worn1_le (h : F.Ok) (s : Nat) : ∀ x ∈ F.worn1 s, x ≤ F.count + 1 := by
  intro x hx
  rcases List.mem_or_eq_of_mem_set hx with hx | rfl
  · have := h.c x hx; omega
  · have : F.worn.getD s 0 < F.count + 1 := getD_lt (fun x hx => by have := h.c x hx; omega) (by omega) s
    omega
theorem burnt_m (h : F.Ok) : ∀ n M, burnt F.fuse = some (n, M) → n ≤ 9223372036854775807 ∧ M.length ≤ 140737488355328 ∧ ∀ x ∈ M, x < 4294967296 := by
  intro n M hf
  cases hF : F.fuse with
  | none => rw [hF] at hf; cases hf
  | some q =>
    obtain ⟨n', M'⟩ := q
    rw [hF] at hf
    cases hf
    have := h.m n' _ hF
    exact ⟨by omega, this.2⟩
theorem Ok.wrote (h : F.Ok) {ws worn : List Nat} (h1 : ws.length = F.ws.length) (h2 : ∀ x ∈ ws, x < 4294967296) (h3 : worn.length = F.worn.length) (h4 : ∀ x ∈ worn, x ≤ F.count + 1) : (F.wrote ws worn).Ok :=
  ⟨h.l1, h.l2, by show 1 ≤ worn.length; rw [h3]; exact h.s1, by show worn.length ≤ 512; rw [h3]; exact h.s2, by show ws.length = worn.length * F.long; rw [h1, h3]; exact h.n, h2, h4, burnt_m h⟩
theorem Ok.tore (h : F.Ok) {ws worn : List Nat} (h1 : ws.length = F.ws.length) (h2 : ∀ x ∈ ws, x < 4294967296) (h3 : worn.length = F.worn.length) (h4 : ∀ x ∈ worn, x ≤ F.count + 1) : (F.tore ws worn).Ok :=
  ⟨h.l1, h.l2, by show 1 ≤ worn.length; rw [h3]; exact h.s1, by show worn.length ≤ 512; rw [h3]; exact h.s2, by show ws.length = worn.length * F.long; rw [h1, h3]; exact h.n, h2, h4, fun _ _ hf => by cases hf⟩
theorem set_lt {l : List Nat} {B : Nat} (h : ∀ x ∈ l, x < B) {i v : Nat} (hv : v < B) : ∀ x ∈ l.set i v, x < B := by
  intro x hx
  rcases List.mem_or_eq_of_mem_set hx with hx | rfl
  · exact h x hx
  · exact hv
theorem tears_m (h : F.Ok) {M : List Nat} (ht : tears F.fuse = some M) : F.fuse = some (0, M) ∧ ∀ x ∈ M, x < 4294967296 := by
  match hF : F.fuse with
  | none => rw [hF] at ht; cases ht
  | some (0, M') => rw [hF] at ht; cases ht; exact ⟨rfl, (h.m _ _ hF).2.2⟩
  | some (n + 1, M') => rw [hF] at ht; cases ht
theorem Ok.program (h : F.Ok) (a : Int) {x : Nat} (hx : x < 4294967296) : (F.program a x).2.Ok := by
  unfold Fl.program
  split
  · exact h
  · split
    · exact h
    · split
      · exact h
      · split
        · exact h.tore (by simp) (set_lt h.w (clr_lt _ _ (getD_lt h.w (by decide) _))) rfl (fun x hx => by have := h.c x hx; omega)
        · exact h.wrote (by simp) (set_lt h.w hx) rfl (fun x hx => by have := h.c x hx; omega)
theorem Ok.erase (h : F.Ok) (s : Int) : (F.erase s).2.Ok := by
  unfold Fl.erase
  split
  · exact h
  · split
    · exact h
    · rename_i h2
      have hs : s.toNat < F.worn.length := by omega
      have h3 := h.sector hs
      split
      · rename_i M hM
        have hm := (tears_m h hM).2
        exact h.tore (run_length _ _ _ _) (run_lt _ _ _ _ _ h3 h.w (fun i x hx => Nat.or_lt_two_pow (n := 32) hx (maskAt_lt M i hm)) (by decide)) (worn1_length F _) (worn1_le h _)
      · exact h.wrote (run_length _ _ _ _) (run_lt _ _ _ _ _ h3 h.w (fun i x hx => by unfold blank; decide) (by decide)) (worn1_length F _) (worn1_le h _)
theorem Ok.arm (h : F.Ok) {n : Int} {M : List Nat} (hn : n ≤ 9223372036854775807) (hM : M.length ≤ 140737488355328) (hm : ∀ x ∈ M, x < 4294967296) : (F.arm n M).Ok :=
  ⟨h.l1, h.l2, h.s1, h.s2, h.n, h.w, h.c, fun n' M' hf => by
    simp only [Fl.arm] at hf
    split at hf
    · cases hf
    · cases hf; exact ⟨by omega, hM, hm⟩⟩
theorem Ok.power (h : F.Ok) : F.power.Ok := ⟨h.l1, h.l2, h.s1, h.s2, h.n, h.w, h.c, fun _ _ hf => by cases hf⟩
theorem Ok.fresh {s l : Nat} (h1 : 1 ≤ s) (h2 : s ≤ 512) (h3 : 1 ≤ l) (h4 : l ≤ 1024) : (Fl.fresh s l).Ok :=
  ⟨h3, h4, by simpa [Fl.fresh] using h1, by simpa [Fl.fresh] using h2, by simp [Fl.fresh], fun x hx => by rw [List.eq_of_mem_replicate hx]; decide, fun x hx => by rw [List.eq_of_mem_replicate hx]; exact Nat.zero_le _, fun _ _ hf => by cases hf⟩
end Fl
end Go.Proofs.YtphifanacehppaaGreat.flash
/- Geometries by plain numbers: when one is right, what each sector is, and where each thing lies. No condition. -/
namespace Go.Proofs.YtphifanacehppaaGreat.geom
set_option linter.unusedVariables false

/-- a geometry -/
structure Geo where
  (sector slot data quota tries life : Int)
def Geo.Right (g : Geo) : Prop :=
  (64 ≤ g.sector ∧ g.sector ≤ 1024) ∧ (2 ≤ g.slot ∧ g.slot ≤ 32) ∧ (2 ≤ g.quota ∧ g.quota ≤ g.sector - 8) ∧ (g.quota + 3 ≤ g.data ∧ g.data ≤ 128) ∧ (1 ≤ g.tries ∧ g.tries ≤ 9) ∧ (1 ≤ g.life ∧ g.life ≤ 1073741823)
instance (g : Geo) : Decidable g.Right := by unfold Geo.Right; infer_instance
/-- the first part of a geometry that is not right -/
theorem Geo.wrong {g : Geo} (h : ¬ g.Right) :
    (g.sector < 64 ∨ 1024 < g.sector) ∨
    ((64 ≤ g.sector ∧ g.sector ≤ 1024) ∧ (g.slot < 2 ∨ 32 < g.slot)) ∨
    ((64 ≤ g.sector ∧ g.sector ≤ 1024) ∧ (2 ≤ g.slot ∧ g.slot ≤ 32) ∧ (g.quota < 2 ∨ g.sector - 8 < g.quota)) ∨
    ((64 ≤ g.sector ∧ g.sector ≤ 1024) ∧ (2 ≤ g.slot ∧ g.slot ≤ 32) ∧ (2 ≤ g.quota ∧ g.quota ≤ g.sector - 8) ∧ (g.data < g.quota + 3 ∨ 128 < g.data)) ∨
    ((64 ≤ g.sector ∧ g.sector ≤ 1024) ∧ (2 ≤ g.slot ∧ g.slot ≤ 32) ∧ (2 ≤ g.quota ∧ g.quota ≤ g.sector - 8) ∧ (g.quota + 3 ≤ g.data ∧ g.data ≤ 128) ∧ (g.tries < 1 ∨ 9 < g.tries)) ∨
    ((64 ≤ g.sector ∧ g.sector ≤ 1024) ∧ (2 ≤ g.slot ∧ g.slot ≤ 32) ∧ (2 ≤ g.quota ∧ g.quota ≤ g.sector - 8) ∧ (g.quota + 3 ≤ g.data ∧ g.data ≤ 128) ∧ (1 ≤ g.tries ∧ g.tries ≤ 9) ∧ (g.life < 1 ∨ 1073741823 < g.life)) := by
  unfold Geo.Right at h
  omega
/-- the sectors of a geometry -/
def Geo.pages (g : Geo) : Int := 2 + 2 * g.slot
def Geo.sectors (g : Geo) : Int := if g.Right then 2 + 2 * g.slot + g.data else 0
/-- what sector k is -/
def Geo.at (g : Geo) (k : Int) : Int × Int × Int :=
  if k < 2 then (0, 0, k) else if 2 + 2 * g.slot ≤ k then (3, 0, k - (2 + 2 * g.slot)) else if (k - 2) % g.slot = 0 then (1, (k - 2) / g.slot, 0) else (2, (k - 2) / g.slot, (k - 2) % g.slot - 1)
def Geo.ledger (g : Geo) (a : Int) : Int := if g.Right ∧ 0 ≤ a ∧ a ≤ 1 then 2 + a * g.slot else -1
def Geo.chunk (g : Geo) (a i : Int) : Int := if g.Right ∧ (0 ≤ a ∧ a ≤ 1) ∧ 0 ≤ i ∧ i ≤ g.slot - 2 then 2 + a * g.slot + 1 + i else -1
def Geo.page (g : Geo) (p : Int) : Int := if g.Right ∧ 0 ≤ p ∧ p ≤ g.data - 1 then 2 + 2 * g.slot + p else -1
def Geo.long (g : Geo) : Int := if g.Right then 4 * g.sector else 0
def Geo.cap (g : Geo) : Int := if g.Right then 4 * g.sector * (g.slot - 1) else 0
def Geo.chunks (g : Geo) (t : Int) : Int := if g.Right ∧ 1 ≤ t ∧ t ≤ 4 * g.sector * (g.slot - 1) then (t - 1) / (4 * g.sector) + 1 else 0
def Geo.part (g : Geo) (t i : Int) : Int := if 0 ≤ i ∧ i ≤ g.chunks t - 1 then min (4 * g.sector) (t - i * (4 * g.sector)) else 0

/-- the first sector that is such a thing, or -1 -/
def Geo.IsFind (g : Geo) (t : Int × Int × Int) (v : Int) : Prop :=
  (0 ≤ v ∧ v < g.sectors ∧ g.at v = t) ∨ (v = -1 ∧ ∀ k, 0 ≤ k → k < g.sectors → g.at k ≠ t)

theorem Geo.at_cases (g : Geo) (h : g.Right) (k : Int) (h0 : 0 ≤ k) (h1 : k < g.sectors) :
    (k < 2 ∧ g.at k = (0, 0, k)) ∨ (2 + 2 * g.slot ≤ k ∧ k < 2 + 2 * g.slot + g.data ∧ g.at k = (3, 0, k - (2 + 2 * g.slot))) ∨
    (∃ a, 0 ≤ a ∧ a ≤ 1 ∧ k = 2 + a * g.slot ∧ g.at k = (1, a, 0)) ∨ (∃ a i, 0 ≤ a ∧ a ≤ 1 ∧ 0 ≤ i ∧ i ≤ g.slot - 2 ∧ k = 2 + a * g.slot + 1 + i ∧ g.at k = (2, a, i)) := by
  have hr := h
  unfold Geo.Right at hr
  unfold Geo.sectors at h1
  rw [if_pos h] at h1
  by_cases c1 : k < 2
  · exact .inl ⟨c1, by rw [Geo.at, if_pos c1]⟩
  · by_cases c2 : 2 + 2 * g.slot ≤ k
    · exact .inr (.inl ⟨c2, h1, by rw [Geo.at, if_neg c1, if_pos c2]⟩)
    · have hs : 0 < g.slot := by omega
      have m0 := Int.emod_nonneg (k - 2) (show g.slot ≠ 0 by omega)
      have m1 := Int.emod_lt_of_pos (k - 2) hs
      have me := Int.mul_ediv_add_emod (k - 2) g.slot
      have q0 : 0 ≤ (k - 2) / g.slot := Int.ediv_nonneg (by omega) (by omega)
      have q1 : (k - 2) / g.slot < 2 := by
        rw [Int.ediv_lt_iff_lt_mul hs]; omega
      by_cases c3 : (k - 2) % g.slot = 0
      · refine .inr (.inr (.inl ⟨(k - 2) / g.slot, q0, by omega, ?_, by rw [Geo.at, if_neg c1, if_neg c2, if_pos c3]⟩))
        rw [Int.mul_comm]; omega
      · refine .inr (.inr (.inr ⟨(k - 2) / g.slot, (k - 2) % g.slot - 1, q0, by omega, by omega, by omega, ?_, by rw [Geo.at, if_neg c1, if_neg c2, if_neg c3]⟩))
        rw [Int.mul_comm]; omega
theorem Geo.at_ledger (g : Geo) (h : g.Right) (a : Int) (h0 : 0 ≤ a) (h1 : a ≤ 1) : g.at (2 + a * g.slot) = (1, a, 0) ∧ 0 ≤ 2 + a * g.slot ∧ 2 + a * g.slot < g.sectors := by
  have hr := h
  unfold Geo.Right at hr
  rw [Geo.sectors, if_pos h]
  have : a = 0 ∨ a = 1 := by omega
  have hs : g.slot ≠ 0 := by omega
  rcases this with rfl | rfl
  · refine ⟨?_, by omega, by omega⟩
    rw [Geo.at, if_neg (by omega), if_neg (by omega), if_pos (by simp)]
    simp
  · refine ⟨?_, by omega, by omega⟩
    rw [Geo.at, if_neg (by omega), if_neg (by omega), if_pos (by rw [show 2 + 1 * g.slot - 2 = g.slot by omega]; exact Int.emod_self)]
    rw [show 2 + 1 * g.slot - 2 = g.slot by omega, Int.ediv_self hs]
theorem Geo.at_chunk (g : Geo) (h : g.Right) (a i : Int) (h0 : 0 ≤ a) (h1 : a ≤ 1) (h2 : 0 ≤ i) (h3 : i ≤ g.slot - 2) : g.at (2 + a * g.slot + 1 + i) = (2, a, i) ∧ 0 ≤ 2 + a * g.slot + 1 + i ∧ 2 + a * g.slot + 1 + i < g.sectors := by
  have hr := h
  unfold Geo.Right at hr
  rw [Geo.sectors, if_pos h]
  have ha : a = 0 ∨ a = 1 := by omega
  have hs : g.slot ≠ 0 := by omega
  have hb : 0 ≤ a * g.slot ∧ a * g.slot ≤ g.slot := by rcases ha with rfl | rfl <;> omega
  have e : 2 + a * g.slot + 1 + i - 2 = (i + 1) + a * g.slot := by omega
  have e1 : ((i + 1) + a * g.slot) % g.slot = i + 1 := by
    rw [Int.add_mul_emod_self_right, Int.emod_eq_of_lt (by omega) (by omega)]
  have e2 : ((i + 1) + a * g.slot) / g.slot = a := by
    rw [Int.add_mul_ediv_right _ _ hs, Int.ediv_eq_zero_of_lt (by omega) (by omega)]; omega
  refine ⟨?_, by omega, by omega⟩
  rw [Geo.at, if_neg (by omega), if_neg (by omega), if_neg (by rw [e, e1]; omega), e, e1, e2]
  simp
theorem Geo.at_page (g : Geo) (h : g.Right) (p : Int) (h0 : 0 ≤ p) (h1 : p ≤ g.data - 1) : g.at (2 + 2 * g.slot + p) = (3, 0, p) ∧ 0 ≤ 2 + 2 * g.slot + p ∧ 2 + 2 * g.slot + p < g.sectors := by
  have hr := h
  unfold Geo.Right at hr
  rw [Geo.sectors, if_pos h]
  refine ⟨?_, by omega, by omega⟩
  rw [Geo.at, if_neg (by omega), if_pos (by omega), show 2 + 2 * g.slot + p - (2 + 2 * g.slot) = p by omega]
theorem Geo.find_ledger {g : Geo} {a v : Int} (h : g.IsFind (1, a, 0) v) : v = g.ledger a := by
  by_cases hr : g.Right
  · rcases h with ⟨h0, h1, h2⟩ | ⟨rfl, hn⟩
    · rcases g.at_cases hr v h0 h1 with ⟨_, e⟩ | ⟨_, _, e⟩ | ⟨b, b0, b1, hk, e⟩ | ⟨b, i, _, _, _, _, _, e⟩
      · rw [e] at h2; simp at h2
      · rw [e] at h2; simp at h2
      · rw [e] at h2; simp at h2; subst h2; rw [Geo.ledger, if_pos ⟨hr, b0, b1⟩, hk]
      · rw [e] at h2; simp at h2
    · by_cases ha : 0 ≤ a ∧ a ≤ 1
      · obtain ⟨e, e0, e1⟩ := g.at_ledger hr a ha.1 ha.2
        exact absurd e (hn _ e0 e1)
      · rw [Geo.ledger, if_neg (fun k => ha k.2)]
  · rcases h with ⟨h0, h1, h2⟩ | ⟨rfl, hn⟩
    · rw [Geo.sectors, if_neg hr] at h1; omega
    · rw [Geo.ledger, if_neg (fun k => hr k.1)]
theorem Geo.find_chunk {g : Geo} {a b v : Int} (h : g.IsFind (2, a, b) v) : v = g.chunk a b := by
  by_cases hr : g.Right
  · rcases h with ⟨h0, h1, h2⟩ | ⟨rfl, hn⟩
    · rcases g.at_cases hr v h0 h1 with ⟨_, e⟩ | ⟨_, _, e⟩ | ⟨b, b0, b1, hk, e⟩ | ⟨b, i, b0, b1, i0, i1, hk, e⟩
      · rw [e] at h2; simp at h2
      · rw [e] at h2; simp at h2
      · rw [e] at h2; simp at h2
      · rw [e] at h2; simp at h2; obtain ⟨rfl, rfl⟩ := h2; rw [Geo.chunk, if_pos ⟨hr, ⟨b0, b1⟩, i0, i1⟩, hk]
    · by_cases ha : (0 ≤ a ∧ a ≤ 1) ∧ 0 ≤ b ∧ b ≤ g.slot - 2
      · obtain ⟨e, e0, e1⟩ := g.at_chunk hr a b ha.1.1 ha.1.2 ha.2.1 ha.2.2
        exact absurd e (hn _ e0 e1)
      · rw [Geo.chunk, if_neg (fun k => ha k.2)]
  · rcases h with ⟨h0, h1, h2⟩ | ⟨rfl, hn⟩
    · rw [Geo.sectors, if_neg hr] at h1; omega
    · rw [Geo.chunk, if_neg (fun k => hr k.1)]
theorem Geo.find_page {g : Geo} {b v : Int} (h : g.IsFind (3, 0, b) v) : v = g.page b := by
  by_cases hr : g.Right
  · rcases h with ⟨h0, h1, h2⟩ | ⟨rfl, hn⟩
    · rcases g.at_cases hr v h0 h1 with ⟨_, e⟩ | ⟨c1, c2, e⟩ | ⟨b, b0, b1, hk, e⟩ | ⟨b, i, b0, b1, i0, i1, hk, e⟩
      · rw [e] at h2; simp at h2
      · rw [e] at h2; simp at h2; subst h2; rw [Geo.page, if_pos ⟨hr, by omega, by omega⟩]; omega
      · rw [e] at h2; simp at h2
      · rw [e] at h2; simp at h2
    · by_cases ha : 0 ≤ b ∧ b ≤ g.data - 1
      · obtain ⟨e, e0, e1⟩ := g.at_page hr b ha.1 ha.2
        exact absurd e (hn _ e0 e1)
      · rw [Geo.page, if_neg (fun k => ha k.2)]
  · rcases h with ⟨h0, h1, h2⟩ | ⟨rfl, hn⟩
    · rw [Geo.sectors, if_neg hr] at h1; omega
    · rw [Geo.page, if_neg (fun k => hr k.1)]
end Go.Proofs.YtphifanacehppaaGreat.geom
/- A drive as values: what each call answers, and what it makes of the flash. No condition. -/
namespace Go.Proofs.YtphifanacehppaaGreat.drive
open Go.Proofs.YtphifanacehppaaGreat.flash Go.Proofs.YtphifanacehppaaGreat.geom Go.Proofs.YtphifanacehppaaGreat.word
set_option linter.unusedVariables false

/-- the error of an access to a run: 3: it is not there, 10: no power -/
def bad (F : Fl) (g : Geo) (s a n : Int) : Int :=
  if 0 ≤ s ∧ s < g.sectors ∧ 0 ≤ a ∧ 0 ≤ n ∧ n ≤ g.sector - a then (if F.dark = true then 10 else 0) else 3
theorem bad_zero {F : Fl} {g : Geo} {s a n : Int} (h : bad F g s a n = 0) : (0 ≤ s ∧ s < g.sectors ∧ 0 ≤ a ∧ 0 ≤ n ∧ n ≤ g.sector - a) ∧ F.dark = false := by
  unfold bad at h
  split at h
  · rename_i h1
    split at h
    · cases h
    · exact ⟨h1, by simpa using ‹¬ F.dark = true›⟩
  · cases h
theorem bad_or (F : Fl) (g : Geo) (s a n : Int) : bad F g s a n = 0 ∨ bad F g s a n = 3 ∨ bad F g s a n = 10 := by
  unfold bad
  split
  · split
    · exact .inr (.inr rfl)
    · exact .inl rfl
  · exact .inr (.inl rfl)
def addr (g : Geo) (s a : Int) : Nat := (s * g.sector + a).toNat
def span (F : Fl) (a n : Nat) : List Nat := (List.range n).map fun i => F.ws.getD (a + i) 0
theorem span_length (F : Fl) (a n : Nat) : (span F a n).length = n := by simp [span]
theorem span_getD (F : Fl) (a n i : Nat) (h : i < n) : (span F a n).getD i 0 = F.ws.getD (a + i) 0 := by
  simp [span, List.getD_eq_getElem?_getD, h]
def read (F : Fl) (g : Geo) (s a n : Int) : List Nat × Int := if bad F g s a n ≠ 0 then ([], bad F g s a n) else (span F (addr g s a) n.toNat, 0)
def fits (F : Fl) (a : Nat) (W : List Nat) : Prop := ∀ i, i < W.length → clr (W.getD i 0) (F.ws.getD (a + i) 0) = 0
instance (F : Fl) (a : Nat) (W : List Nat) : Decidable (fits F a W) := Nat.decidableBallLT W.length fun i _ => clr (W.getD i 0) (F.ws.getD (a + i) 0) = 0
/-- word after word: what differs is programmed; the first error ends it -/
def prog (F : Fl) (a : Nat) : List Nat → Int × Fl
  | [] => (0, F)
  | x :: l => if F.ws.getD a 0 = x then prog F (a + 1) l else if (F.program a x).1 ≠ 0 then F.program a x else prog (F.program a x).2 (a + 1) l
def write (F : Fl) (g : Geo) (s a : Int) (W : List Nat) : Int × Fl :=
  if bad F g s a W.length ≠ 0 then (bad F g s a W.length, F) else if ¬ fits F (addr g s a) W then (11, F) else prog F (addr g s a) W
/-- are the n words from a on ones? -/
def ones (F : Fl) (a n : Nat) : Bool := (List.range n).all fun i => F.ws.getD (a + i) 0 == 4294967295
def blankAt (F : Fl) (g : Geo) (s a : Int) : Bool × Int :=
  if bad F g s a (g.sector - a) ≠ 0 then (false, bad F g s a (g.sector - a)) else (ones F (addr g s a) (g.sector - a).toNat, 0)
def clean (F : Fl) (g : Geo) (s : Int) : Int × Fl := if (blankAt F g s 0).2 ≠ 0 ∨ (blankAt F g s 0).1 = true then ((blankAt F g s 0).2, F) else F.erase s
def fresh (F : Fl) (g : Geo) (s : Int) (W : List Nat) : Int × Fl :=
  if bad F g s 0 W.length ≠ 0 then (bad F g s 0 W.length, F) else if (clean F g s).1 ≠ 0 then clean F g s else write (clean F g s).2 g s 0 W

/-- a flash that has the sectors of a geometry -/
structure Fit (F : Fl) (g : Geo) : Prop where
  right : g.Right
  n : (F.worn.length : Int) = g.sectors
  l : (F.long : Int) = g.sector
/-- nothing but words, wear, writes, power and the fuse has turned -/
structure Like (F G : Fl) : Prop where
  long : G.long = F.long
  worn : G.worn.length = F.worn.length
theorem Like.refl (F : Fl) : Like F F := ⟨rfl, rfl⟩
theorem Like.trans {F G H : Fl} (h : Like F G) (k : Like G H) : Like F H := ⟨k.long.trans h.long, k.worn.trans h.worn⟩
theorem Fit.like {F G : Fl} {g : Geo} (h : Fit F g) (k : Like F G) : Fit G g := ⟨h.right, by rw [k.worn]; exact h.n, by rw [k.long]; exact h.l⟩
theorem Like.ws {F G : Fl} (h : Like F G) (ok : F.Ok) (ok2 : G.Ok) : G.ws.length = F.ws.length := by rw [ok.n, ok2.n, h.long, h.worn]
theorem program_like (F : Fl) (a : Int) (x : Nat) : Like F (F.program a x).2 := by
  unfold Fl.program
  split
  · exact .refl F
  · split
    · exact .refl F
    · split
      · exact .refl F
      · split <;> exact ⟨rfl, rfl⟩
theorem erase_like (F : Fl) (s : Int) : Like F (F.erase s).2 := by
  unfold Fl.erase
  split
  · exact .refl F
  · split
    · exact .refl F
    · split <;> exact ⟨rfl, Fl.worn1_length F _⟩
theorem program_count (F : Fl) (a : Int) (x : Nat) : F.count ≤ (F.program a x).2.count ∧ (F.program a x).2.count ≤ F.count + 1 := by
  unfold Fl.program
  split
  · exact ⟨Nat.le_refl _, Nat.le_succ _⟩
  · split
    · exact ⟨Nat.le_refl _, Nat.le_succ _⟩
    · split
      · exact ⟨Nat.le_refl _, Nat.le_succ _⟩
      · split <;> exact ⟨Nat.le_succ _, Nat.le_refl _⟩
theorem erase_count (F : Fl) (s : Int) : F.count ≤ (F.erase s).2.count ∧ (F.erase s).2.count ≤ F.count + 1 := by
  unfold Fl.erase
  split
  · exact ⟨Nat.le_refl _, Nat.le_succ _⟩
  · split
    · exact ⟨Nat.le_refl _, Nat.le_succ _⟩
    · split <;> exact ⟨Nat.le_succ _, Nat.le_refl _⟩
/-- what stands behind a call that writes at most n times -/
structure Step (F G : Fl) (n : Nat) : Prop where
  ok : G.Ok
  like : Like F G
  c1 : F.count ≤ G.count
  c2 : G.count ≤ F.count + n
theorem Step.refl {F : Fl} (ok : F.Ok) (n : Nat) : Step F F n := ⟨ok, .refl F, Nat.le_refl _, Nat.le_add_right _ _⟩
theorem Step.trans {F G H : Fl} {n m : Nat} (h : Step F G n) (k : Step G H m) : Step F H (n + m) := ⟨k.ok, h.like.trans k.like, by have := h.c1; have := k.c1; omega, by have := h.c2; have := k.c2; omega⟩
theorem Step.more {F G : Fl} {n m : Nat} (h : Step F G n) (hn : n ≤ m) : Step F G m := ⟨h.ok, h.like, h.c1, by have := h.c2; omega⟩
theorem program_step {F : Fl} (ok : F.Ok) (a : Int) {x : Nat} (hx : x < 4294967296) : Step F (F.program a x).2 1 := ⟨ok.program a hx, program_like F a x, (program_count F a x).1, (program_count F a x).2⟩
theorem erase_step {F : Fl} (ok : F.Ok) (s : Int) : Step F (F.erase s).2 1 := ⟨ok.erase s, erase_like F s, (erase_count F s).1, (erase_count F s).2⟩
theorem prog_step : ∀ (W : List Nat) (F : Fl) (a : Nat), F.Ok → (∀ x ∈ W, x < 4294967296) → Step F (prog F a W).2 W.length
  | [], F, a, ok, _ => .refl ok _
  | x :: l, F, a, ok, hw => by
    rw [prog]
    split
    · exact (prog_step l F (a + 1) ok fun y hy => hw y (List.mem_cons_of_mem _ hy)).more (by simp)
    · have h1 := program_step ok a (hw x List.mem_cons_self)
      split
      · exact h1.more (by simp)
      · have h2 := h1.trans (prog_step l _ (a + 1) h1.ok fun y hy => hw y (List.mem_cons_of_mem _ hy))
        exact h2.more (by simp; omega)
theorem write_step {F : Fl} (ok : F.Ok) (g : Geo) (s a : Int) {W : List Nat} (hw : ∀ x ∈ W, x < 4294967296) : Step F (write F g s a W).2 W.length := by
  unfold write
  split
  · exact .refl ok _
  · split
    · exact .refl ok _
    · exact prog_step W F _ ok hw
theorem clean_step {F : Fl} (ok : F.Ok) (g : Geo) (s : Int) : Step F (clean F g s).2 1 := by
  unfold clean
  split
  · exact .refl ok _
  · exact erase_step ok s
theorem fresh_step {F : Fl} (ok : F.Ok) (g : Geo) (s : Int) {W : List Nat} (hw : ∀ x ∈ W, x < 4294967296) : Step F (fresh F g s W).2 (W.length + 1) := by
  unfold fresh
  split
  · exact .refl ok _
  · have h1 := clean_step ok g s
    split
    · exact h1.more (by omega)
    · exact (h1.trans (write_step h1.ok g s 0 hw)).more (by omega)
/-- an act, and what it answers -/
def step (F : Fl) (g : Geo) (k s a n : Int) (W : List Nat) : (List Nat × Bool × Int) × Fl :=
  if k = 0 then (((read F g s a n).1, false, (read F g s a n).2), F) else
  if k = 1 ∨ k = 2 then (([], false, (write F g s a W).1), (write F g s a W).2) else
  if k = 3 then (([], (blankAt F g s a).1, (blankAt F g s a).2), F) else
  if k = 4 then (([], false, (clean F g s).1), (clean F g s).2) else
  if k = 5 then (([], false, (fresh F g s W).1), (fresh F g s W).2) else
  if k = 6 then (([], false, 0), F.arm n W) else if k = 7 then (([], false, 0), F.power) else (([], false, 0), F)
theorem step_step {F : Fl} (ok : F.Ok) (g : Geo) {k s a n : Int} {W : List Nat} (hn : n ≤ 9223372036854775807) (hl : W.length ≤ 140737488355328) (hw : ∀ x ∈ W, x < 4294967296) : Step F (step F g k s a n W).2 (W.length + 1) := by
  unfold step
  split
  · exact .refl ok _
  · split
    · exact (write_step ok g s a hw).more (by omega)
    · split
      · exact .refl ok _
      · split
        · exact (clean_step ok g s).more (by omega)
        · split
          · exact fresh_step ok g s hw
          · split
            · exact ⟨ok.arm hn hl hw, ⟨rfl, rfl⟩, Nat.le_refl _, Nat.le_add_right _ _⟩
            · split
              · exact ⟨ok.power, ⟨rfl, rfl⟩, Nat.le_refl _, Nat.le_add_right _ _⟩
              · exact .refl ok _

/-- where a run lies -/
theorem addr_in {F : Fl} {g : Geo} (ok : F.Ok) (ft : Fit F g) {s a n : Int} (h : 0 ≤ s ∧ s < g.sectors ∧ 0 ≤ a ∧ 0 ≤ n ∧ n ≤ g.sector - a) :
    ((addr g s a : Nat) : Int) = s * g.sector + a ∧ (addr g s a) + n.toNat ≤ F.ws.length ∧ 0 ≤ s * g.sector ∧ s * g.sector ≤ 524288 ∧ n ≤ 1024 ∧ a ≤ 1024 := by
  obtain ⟨h1, h2, h3, h4, h5⟩ := h
  have hr := ft.right
  unfold Geo.Right at hr
  have hw := ok.ws_le
  obtain ⟨k, rfl⟩ := Int.eq_ofNat_of_zero_le h1
  have hk : k < F.worn.length := by have := ft.n; omega
  have hs := ok.sector hk
  have e : (k : Int) * g.sector = ((k * F.long : Nat) : Int) := by rw [← ft.l]; simp
  have hl := ft.l
  unfold addr
  rw [e]
  omega
end Go.Proofs.YtphifanacehppaaGreat.drive
/- Word after word: what the rounds of a Write make of the flash. No condition. -/
namespace Go.Proofs.YtphifanacehppaaGreat.drive
open Go.Proofs.YtphifanacehppaaGreat.flash Go.Proofs.YtphifanacehppaaGreat.geom Go.Proofs.YtphifanacehppaaGreat.word
set_option linter.unusedVariables false

theorem drop_getD {W : List Nat} {k : Nat} (h : k < W.length) : W.drop k = W.getD k 0 :: W.drop (k + 1) := by
  rw [List.drop_eq_getElem_cons h, List.getD_eq_getElem?_getD, List.getElem?_eq_getElem h]; rfl
theorem set_getD {l : List Nat} {i j v : Nat} (h : j ≠ i) : (l.set i v).getD j 0 = l.getD j 0 := by
  rw [List.getD_eq_getElem?_getD, List.getD_eq_getElem?_getD, List.getElem?_set_ne h.symm]
theorem program_getD (F : Fl) (a x j : Nat) (h : j ≠ a) : (F.program a x).2.ws.getD j 0 = F.ws.getD j 0 := by
  unfold Fl.program
  rw [Int.toNat_natCast]
  split
  · rfl
  · split
    · rfl
    · split
      · rfl
      · split <;> exact set_getD h
/-- k words have been written: the flash is G now -/
structure Half (F : Fl) (A : Nat) (W : List Nat) (k : Nat) (G : Fl) : Prop where
  eq : prog F A W = prog G (A + k) (W.drop k)
  st : Step F G k
  rest : ∀ j, k ≤ j → G.ws.getD (A + j) 0 = F.ws.getD (A + j) 0
section
variable {F G : Fl} {A : Nat} {W : List Nat} {k : Nat}
theorem Half.zero (ok : F.Ok) : Half F A W 0 F := ⟨rfl, .refl ok 0, fun _ _ => rfl⟩
theorem Half.skip (h : Half F A W k G) (hk : k < W.length) (hx : F.ws.getD (A + k) 0 = W.getD k 0) : Half F A W (k + 1) G :=
  ⟨by rw [h.eq, drop_getD hk, prog, if_pos (by rw [h.rest k (Nat.le_refl _)]; exact hx)]; rfl, h.st.more (Nat.le_succ k), fun j hj => h.rest j (by omega)⟩
theorem Half.err (h : Half F A W k G) (hk : k < W.length) (hx : F.ws.getD (A + k) 0 ≠ W.getD k 0) (hz : (G.program (A + k : Nat) (W.getD k 0)).1 ≠ 0) : prog F A W = G.program (A + k : Nat) (W.getD k 0) := by
  rw [h.eq, drop_getD hk, prog, if_neg (by rw [h.rest k (Nat.le_refl _)]; exact hx), if_pos hz]
theorem Half.on (h : Half F A W k G) (hw : ∀ x ∈ W, x < 4294967296) (hk : k < W.length) (hx : F.ws.getD (A + k) 0 ≠ W.getD k 0) (hz : (G.program (A + k : Nat) (W.getD k 0)).1 = 0) : Half F A W (k + 1) (G.program (A + k : Nat) (W.getD k 0)).2 :=
  ⟨by rw [h.eq, drop_getD hk, prog, if_neg (by rw [h.rest k (Nat.le_refl _)]; exact hx), if_neg (fun h => h hz)]; rfl,
    h.st.trans (program_step h.st.ok _ (getD_lt hw (by decide) k)), fun j hj => by rw [program_getD _ _ _ _ (by omega)]; exact h.rest j (by omega)⟩
theorem Half.done (h : Half F A W W.length G) : prog F A W = (0, G) := by rw [h.eq, List.drop_length]; rfl
end
end Go.Proofs.YtphifanacehppaaGreat.drive
/- Blank sectors as values. No condition. -/
namespace Go.Proofs.YtphifanacehppaaGreat.drive
open Go.Proofs.YtphifanacehppaaGreat.flash Go.Proofs.YtphifanacehppaaGreat.geom Go.Proofs.YtphifanacehppaaGreat.word
set_option linter.unusedVariables false

theorem ones_yes {F : Fl} {A n : Nat} (h : ∀ i, i < n → F.ws.getD (A + i) 0 = 4294967295) : ones F A n = true := by
  unfold ones
  rw [List.all_eq_true]
  intro i hi
  rw [h i (List.mem_range.1 hi)]; rfl
theorem ones_no {F : Fl} {A n i : Nat} (hi : i < n) (h : F.ws.getD (A + i) 0 ≠ 4294967295) : ones F A n = false := by
  unfold ones
  rw [List.all_eq_false]
  exact ⟨i, List.mem_range.2 hi, by simpa using h⟩
theorem blank_or (F : Fl) (g : Geo) (s a : Int) : (blankAt F g s a).2 = 0 ∨ (blankAt F g s a).2 = 3 ∨ (blankAt F g s a).2 = 10 := by
  unfold blankAt
  split
  · exact bad_or F g s a _
  · exact .inl rfl
end Go.Proofs.YtphifanacehppaaGreat.drive
/- What a Write and a Fresh leave, where there is power and no fuse. No condition. -/
namespace Go.Proofs.YtphifanacehppaaGreat.drive
open Go.Proofs.YtphifanacehppaaGreat.flash Go.Proofs.YtphifanacehppaaGreat.geom Go.Proofs.YtphifanacehppaaGreat.word
set_option linter.unusedVariables false

/-- power, and no fuse -/
def Pow (F : Fl) : Prop := F.dark = false ∧ F.fuse = none
theorem power_pow (F : Fl) : Pow F.power := ⟨rfl, rfl⟩
theorem wrote_pow {F : Fl} (h : Pow F) (ws worn : List Nat) : Pow (F.wrote ws worn) := ⟨h.1, by show burnt F.fuse = none; rw [h.2]; rfl⟩
theorem set_get {l : List Nat} {i v : Nat} (h : i < l.length) : (l.set i v).getD i 0 = v := by
  rw [List.getD_eq_getElem?_getD, List.getElem?_set_self h]; rfl
theorem program_pow {F : Fl} (h : Pow F) {a x : Nat} (ha : a < F.ws.length) (hc : clr x (F.ws.getD a 0) = 0) : F.program a x = (0, F.wrote (F.ws.set a x) F.worn) := by
  rw [Fl.program, if_neg (by rw [h.1]; decide), if_neg (by omega), Int.toNat_natCast, if_neg (by rw [hc]; decide), h.2]
  rfl
theorem prog_pow : ∀ (W : List Nat) (F : Fl) (a : Nat), Pow F → fits F a W → a + W.length ≤ F.ws.length →
    (prog F a W).1 = 0 ∧ Pow (prog F a W).2 ∧ (prog F a W).2.ws.length = F.ws.length ∧ ∀ j, (prog F a W).2.ws.getD j 0 = if a ≤ j ∧ j < a + W.length then W.getD (j - a) 0 else F.ws.getD j 0
  | [], F, a, hp, _, _ => ⟨rfl, hp, rfl, fun j => by rw [if_neg (by simp)]; rfl⟩
  | x :: l, F, a, hp, hf, hl => by
    have h0 := hf 0 (by simp)
    simp only [List.getD_cons_zero, Nat.add_zero] at h0
    simp only [List.length_cons] at hl
    have hfit : ∀ G : Fl, (∀ j, a + 1 ≤ j → G.ws.getD j 0 = F.ws.getD j 0) → fits G (a + 1) l := fun G hG i hi => by
      have := hf (i + 1) (by simpa using hi)
      rw [List.getD_cons_succ] at this
      rw [hG _ (by omega), show a + 1 + i = a + (i + 1) by omega]
      exact this
    have hget : ∀ (G : Fl) (H : Fl), G.ws.getD a 0 = x → (∀ j, j ≠ a → G.ws.getD j 0 = F.ws.getD j 0) → (∀ j, H.ws.getD j 0 = if a + 1 ≤ j ∧ j < a + 1 + l.length then l.getD (j - (a + 1)) 0 else G.ws.getD j 0) →
        ∀ j, H.ws.getD j 0 = if a ≤ j ∧ j < a + (x :: l).length then (x :: l).getD (j - a) 0 else F.ws.getD j 0 := fun G H h1 h2 h3 j => by
      rw [h3 j]
      simp only [List.length_cons]
      by_cases hj : j = a
      · subst hj
        rw [if_neg (by omega), if_pos (by omega), h1, Nat.sub_self]; rfl
      · by_cases h4 : a + 1 ≤ j ∧ j < a + 1 + l.length
        · rw [if_pos h4, if_pos (by omega), show j - a = (j - (a + 1)) + 1 by omega]; rfl
        · rw [if_neg h4, if_neg (by omega), h2 j hj]
    rw [prog]
    split
    · rename_i hx
      obtain ⟨r1, r2, r3, r4⟩ := prog_pow l F (a + 1) hp (hfit F fun _ _ => rfl) (by omega)
      exact ⟨r1, r2, r3, hget F _ hx (fun _ _ => rfl) r4⟩
    · rw [program_pow hp (by omega) h0]
      simp only [ne_eq, not_true_eq_false, if_false]
      have hne : ∀ j, j ≠ a → (F.wrote (F.ws.set a x) F.worn).ws.getD j 0 = F.ws.getD j 0 := fun j hj => set_getD hj
      obtain ⟨r1, r2, r3, r4⟩ := prog_pow l (F.wrote (F.ws.set a x) F.worn) (a + 1) (wrote_pow hp _ _) (hfit _ fun j hj => hne j (by omega)) (by show a + 1 + l.length ≤ (F.ws.set a x).length; rw [List.length_set]; omega)
      refine ⟨r1, r2, r3.trans (by show (F.ws.set a x).length = _; rw [List.length_set]), hget _ _ (set_get (by omega)) hne r4⟩
theorem prog_same : ∀ (W : List Nat) (F : Fl) (a : Nat), (∀ i, i < W.length → F.ws.getD (a + i) 0 = W.getD i 0) → prog F a W = (0, F)
  | [], _, _, _ => rfl
  | x :: l, F, a, h => by
    have h0 := h 0 (by simp)
    simp only [List.getD_cons_zero, Nat.add_zero] at h0
    rw [prog, if_pos h0]
    refine prog_same l F (a + 1) fun i hi => ?_
    have := h (i + 1) (by simpa using hi)
    rw [List.getD_cons_succ] at this
    rw [show a + 1 + i = a + (i + 1) by omega]
    exact this
theorem bad_pow {F G : Fl} (hF : Pow F) (hG : Pow G) (g : Geo) (s a n : Int) : bad G g s a n = bad F g s a n := by unfold bad; rw [hF.1, hG.1]
theorem bad_pow_or {F : Fl} (hF : Pow F) (g : Geo) (s a n : Int) : bad F g s a n = 0 ∨ bad F g s a n = 3 := by
  unfold bad
  split
  · left; rw [hF.1]; rfl
  · exact .inr rfl
/-- behind a Write -/
theorem write_stands {F : Fl} {g : Geo} (ok : F.Ok) (ft : Fit F g) (hp : Pow F) (s a : Int) (W : List Nat) (hW : ∀ y ∈ W, y < 4294967296) :
    (((write F g s a W).1 = 3 ∨ (write F g s a W).1 = 11) ∧ (write F g s a W).2 = F) ∨
    ((write F g s a W).1 = 0 ∧ bad F g s a W.length = 0 ∧ write (write F g s a W).2 g s a W = (0, (write F g s a W).2) ∧ ∀ j, (write F g s a W).2.ws.getD j 0 = if addr g s a ≤ j ∧ j < addr g s a + W.length then W.getD (j - addr g s a) 0 else F.ws.getD j 0) := by
  rcases bad_pow_or hp g s a W.length with hb | hb
  · by_cases hf : fits F (addr g s a) W
    · right
      have e : write F g s a W = prog F (addr g s a) W := by rw [write, if_neg (fun h => h hb), if_neg (fun h => h hf)]
      rw [e]
      have hin := addr_in ok ft (bad_zero hb).1
      obtain ⟨r1, r2, r3, r4⟩ := prog_pow W F _ hp hf (by have := hin.2.1; rwa [Int.toNat_natCast] at this)
      have hsame : ∀ i, i < W.length → (prog F (addr g s a) W).2.ws.getD (addr g s a + i) 0 = W.getD i 0 := fun i hi => by rw [r4, if_pos (by omega), Nat.add_sub_cancel_left]
      refine ⟨r1, hb, ?_, r4⟩
      rw [write, if_neg (by rw [bad_pow hp r2]; exact fun h => h hb), if_neg (fun h => h fun i hi => by rw [hsame i hi]; exact clr_self (getD_lt hW (by decide) i))]
      exact prog_same W _ _ hsame
    · left
      have e : write F g s a W = (11, F) := by rw [write, if_neg (fun h => h hb), if_pos hf]
      rw [e]
      exact ⟨.inr rfl, rfl⟩
  · left
    have e : write F g s a W = (3, F) := by rw [write, if_pos (by rw [hb]; decide), hb]
    rw [e]
    exact ⟨.inl rfl, rfl⟩
theorem ones_at {F : Fl} {A n i : Nat} (h : ones F A n = true) (hi : i < n) : F.ws.getD (A + i) 0 = 4294967295 := by
  unfold ones at h
  rw [List.all_eq_true] at h
  simpa using h i (List.mem_range.2 hi)
/-- a sector behind Clean -/
theorem clean_stands {F : Fl} {g : Geo} (ok : F.Ok) (ft : Fit F g) (hp : Pow F) (s : Int) (h0 : 0 ≤ s) (h1 : s < g.sectors) :
    (clean F g s).1 = 0 ∧ Pow (clean F g s).2 ∧ ∀ j, (clean F g s).2.ws.getD j 0 = if addr g s 0 ≤ j ∧ j < addr g s 0 + g.sector.toNat then 4294967295 else F.ws.getD j 0 := by
  have hs : g.sector ≤ 1024 ∧ 64 ≤ g.sector := ⟨ft.right.1.2, ft.right.1.1⟩
  have hin : 0 ≤ s ∧ s < g.sectors ∧ (0 : Int) ≤ 0 ∧ 0 ≤ g.sector - 0 ∧ g.sector - 0 ≤ g.sector - 0 := ⟨h0, h1, Int.le_refl _, by omega, Int.le_refl _⟩
  have hb : bad F g s 0 (g.sector - 0) = 0 := by
    unfold bad
    rw [if_pos hin, hp.1]; rfl
  have ha := addr_in ok ft hin
  have eb : blankAt F g s 0 = (ones F (addr g s 0) g.sector.toNat, 0) := by rw [blankAt, if_neg (fun h => h hb), Int.sub_zero]
  unfold clean
  rw [eb]
  simp only [ne_eq, not_true_eq_false, false_or]
  cases ho : ones F (addr g s 0) g.sector.toNat with
  | true =>
    rw [if_pos rfl]
    refine ⟨rfl, hp, fun j => ?_⟩
    split
    · rename_i hj
      have := ones_at ho (show j - addr g s 0 < g.sector.toNat by omega)
      rw [show addr g s 0 + (j - addr g s 0) = j by omega] at this
      exact this
    · rfl
  | false =>
    rw [if_neg (by decide)]
    obtain ⟨k, rfl⟩ := Int.eq_ofNat_of_zero_le h0
    have hk : k < F.worn.length := by have := ft.n; omega
    have e : F.erase k = (0, F.wrote (run flash.blank (k * F.long) F.long F.ws) (F.worn1 k)) := by
      rw [Fl.erase, if_neg (by rw [hp.1]; decide), if_neg (by omega), Int.toNat_natCast, hp.2]; rfl
    have hL : g.sector.toNat = F.long := by have := ft.l; omega
    have hA : addr g k 0 = k * F.long := by
      have h2 := ha.1
      rw [← ft.l] at h2
      have h3 : ((k * F.long : Nat) : Int) = (k : Int) * (F.long : Int) := by simp
      omega
    rw [e, hA, hL]
    refine ⟨rfl, wrote_pow hp _ _, fun j => ?_⟩
    show (run flash.blank (k * F.long) F.long F.ws).getD j 0 = _
    rw [run_getD _ _ _ _ _ (ok.sector hk)]
    rfl
theorem clr_ones (a : Nat) : clr a 4294967295 = 0 := clr_blank a
/-- behind Fresh -/
theorem fresh_stands {F : Fl} {g : Geo} (ok : F.Ok) (ft : Fit F g) (hp : Pow F) (s : Int) (W : List Nat) :
    ((fresh F g s W).1 = 3 ∧ (fresh F g s W).2 = F) ∨
    ((fresh F g s W).1 = 0 ∧ bad F g s 0 W.length = 0 ∧ ∀ j, (fresh F g s W).2.ws.getD j 0 = if addr g s 0 ≤ j ∧ j < addr g s 0 + W.length then W.getD (j - addr g s 0) 0 else if addr g s 0 ≤ j ∧ j < addr g s 0 + g.sector.toNat then 4294967295 else F.ws.getD j 0) := by
  rcases bad_pow_or hp g s 0 W.length with hb | hb
  · right
    have hin := (bad_zero hb).1
    have st := clean_step ok g s
    obtain ⟨c1, c2, c3⟩ := clean_stands ok ft hp s hin.1 hin.2.1
    have ha := addr_in st.ok (ft.like st.like) hin
    rw [Int.toNat_natCast] at ha
    have hs : W.length ≤ g.sector.toNat := by have := hin.2.2.2.2; omega
    have hf : fits (clean F g s).2 (addr g s 0) W := fun i hi => by rw [c3, if_pos (by omega)]; exact clr_ones _
    obtain ⟨r1, r2, r3, r4⟩ := prog_pow W _ _ c2 hf ha.2.1
    have e : fresh F g s W = prog (clean F g s).2 (addr g s 0) W := by
      rw [fresh, if_neg (fun h => h hb), if_neg (fun h => h c1), write, if_neg (by rw [bad_pow hp c2]; exact fun h => h hb), if_neg (fun h => h hf)]
    rw [e]
    refine ⟨r1, hb, fun j => ?_⟩
    rw [r4 j, c3 j]
  · left
    have e : fresh F g s W = (3, F) := by rw [fresh, if_pos (by rw [hb]; decide), hb]
    rw [e]
    exact ⟨rfl, rfl⟩
end Go.Proofs.YtphifanacehppaaGreat.drive
/- A journal as values: what a sector says, what each call answers and makes. No condition. -/
namespace Go.Proofs.YtphifanacehppaaGreat.journal
open Go.Proofs.YtphifanacehppaaGreat.flash Go.Proofs.YtphifanacehppaaGreat.geom Go.Proofs.YtphifanacehppaaGreat.word
set_option linter.unusedVariables false

/-- what the frames of a sector say, and where they end -/
structure Part where
  (seq : Nat) (whole : List Nat) (changes : List (List Nat)) (tail : Nat)
def Part.zero : Part := ⟨0, [], [], 0⟩
/-- may a frame be the next one? -/
def Part.takes (p : Part) (k s : Nat) : Bool := if p.seq = 0 then decide (k = 1) else decide (s = p.seq + 1)
def Part.add (p : Part) (k s : Nat) (L : List Nat) : Part := if k = 1 then ⟨s, L, [], p.tail + (L.length + 3)⟩ else ⟨s, p.whole, p.changes ++ [L], p.tail + (L.length + 3)⟩
theorem Part.add_seq (p : Part) (k s : Nat) (L : List Nat) : (p.add k s L).seq = s := by unfold Part.add; split <;> rfl
theorem Part.add_tail (p : Part) (k s : Nat) (L : List Nat) : (p.add k s L).tail = p.tail + (L.length + 3) := by unfold Part.add; split <;> rfl
/-- the frames at the beginning of words, as far as each may be the next one -/
def scan : Nat → Part → List Nat → Part
  | 0, p, _ => p
  | n + 1, p, xs => match frame.readN xs with
    | none => p
    | some (k, s, L) => if p.takes k s = true then scan n (p.add k s L) (xs.drop (L.length + 3)) else p
theorem scan_none {n : Nat} {p : Part} {xs : List Nat} (h : frame.readN xs = none) : scan n p xs = p := by
  cases n with
  | zero => rfl
  | succ n => simp only [scan, h]
theorem scan_stop {n : Nat} {p : Part} {xs : List Nat} {k s : Nat} {L : List Nat} (h : frame.readN xs = some (k, s, L)) (ht : p.takes k s = false) : scan n p xs = p := by
  cases n with
  | zero => rfl
  | succ n => simp only [scan, h]; rw [ht]; rfl
theorem scan_some {n : Nat} {p : Part} {xs : List Nat} {k s : Nat} {L : List Nat} (h : frame.readN xs = some (k, s, L)) (ht : p.takes k s = true) : scan (n + 1) p xs = scan n (p.add k s L) (xs.drop (L.length + 3)) := by
  simp only [scan, h]; rw [if_pos ht]
theorem readN_nil : frame.readN [] = none := rfl
theorem scan_fuel : ∀ (n m : Nat) (p : Part) (xs : List Nat), xs.length ≤ n → xs.length ≤ m → scan n p xs = scan m p xs
  | 0, m, p, xs, h, _ => by
    have : xs = [] := List.eq_nil_of_length_eq_zero (by omega)
    subst this
    rw [scan_none readN_nil, scan_none readN_nil]
  | n + 1, 0, p, xs, _, h => by
    have : xs = [] := List.eq_nil_of_length_eq_zero (by omega)
    subst this
    rw [scan_none readN_nil, scan_none readN_nil]
  | n + 1, m + 1, p, xs, h1, h2 => by
    cases hr : frame.readN xs with
    | none => rw [scan_none hr, scan_none hr]
    | some f =>
      obtain ⟨k, s, L⟩ := f
      cases ht : p.takes k s with
      | false => rw [scan_stop hr ht, scan_stop hr ht]
      | true =>
        rw [scan_some hr ht, scan_some hr ht]
        exact scan_fuel n m _ _ (by rw [List.length_drop]; omega) (by rw [List.length_drop]; omega)
/-- the frames of a part are of that size, and the numbers go up -/
theorem scan_seq : ∀ (n : Nat) (p : Part) (xs : List Nat), p.seq ≤ (scan n p xs).seq ∧ p.tail ≤ (scan n p xs).tail ∧ (scan n p xs).tail ≤ p.tail + xs.length
  | 0, p, xs => ⟨Nat.le_refl _, Nat.le_refl _, Nat.le_add_right _ _⟩
  | n + 1, p, xs => by
    cases hr : frame.readN xs with
    | none => rw [scan_none hr]; exact ⟨Nat.le_refl _, Nat.le_refl _, Nat.le_add_right _ _⟩
    | some f =>
      obtain ⟨k, s, L⟩ := f
      cases ht : p.takes k s with
      | false => rw [scan_stop hr ht]; exact ⟨Nat.le_refl _, Nat.le_refl _, Nat.le_add_right _ _⟩
      | true =>
        rw [scan_some hr ht]
        obtain ⟨h1, h2, h3⟩ := frame.readN_some hr
        obtain ⟨i1, i2, i3⟩ := scan_seq n (p.add k s L) (xs.drop (L.length + 3))
        rw [Part.add_tail] at i2 i3
        rw [Part.add_seq] at i1
        rw [List.length_drop] at i3
        refine ⟨?_, by omega, by omega⟩
        unfold Part.takes at ht
        split at ht
        · omega
        · simp at ht; omega
/-- what is asked of every part that has been read -/
structure Part.Sound (p : Part) : Prop where
  seq : p.seq ≤ 1073741823
  whole : p.seq = 0 ∧ p.whole = [] ∧ p.changes = [] ∨ 1 ≤ p.whole.length ∧ p.whole.length ≤ 56
  words : ∀ x ∈ p.whole, x < 4294967296
  changes : ∀ L ∈ p.changes, 1 ≤ L.length ∧ L.length ≤ 56 ∧ ∀ x ∈ L, x < 4294967296
  count : 4 * p.changes.length ≤ p.tail
theorem Part.Sound.zero : Part.zero.Sound := ⟨by decide, .inl ⟨rfl, rfl, rfl⟩, fun x h => (by cases h), fun x h => (by cases h), by decide⟩
theorem Part.Sound.add {p : Part} (h : p.Sound) {k s : Nat} {L : List Nat} (ok : frame.okB k s L.length = true) (hL : ∀ x ∈ L, x < 4294967296) (ht : p.takes k s = true) : (p.add k s L).Sound := by
  obtain ⟨h1, h2, h3, h4, h5⟩ := frame.okB_true.1 ok
  unfold Part.add
  split
  · exact ⟨by show s ≤ _; omega, .inr ⟨h4, h5⟩, hL, fun x h => (by cases h), by show 4 * 0 ≤ _; omega⟩
  · rename_i hk
    have hs : p.seq ≠ 0 := fun h0 => by unfold Part.takes at ht; rw [if_pos h0] at ht; simp at ht; omega
    refine ⟨by show s ≤ _; omega, .inr ?_, h.words, fun M hM => ?_, ?_⟩
    · rcases h.whole with hw | hw
      · exact absurd hw.1 hs
      · exact hw
    · rcases List.mem_append.1 hM with hM | hM
      · exact h.changes M hM
      · rw [List.mem_singleton] at hM; subst hM; exact ⟨h4, h5, hL⟩
    · have := h.count
      simp only [List.length_append, List.length_singleton]; omega
theorem mem_words {k s : Nat} {L : List Nat} {x : Nat} (h : x ∈ L) : x ∈ frame.words k s L := by
  unfold frame.words frame.body
  exact List.mem_append_left _ (List.mem_cons_of_mem _ (List.mem_cons_of_mem _ h))
theorem readN_load {xs : List Nat} {k s : Nat} {L : List Nat} (h : frame.readN xs = some (k, s, L)) (hx : ∀ x ∈ xs, x < 4294967296) : ∀ x ∈ L, x < 4294967296 := fun x hxL => by
  have h2 := (frame.readN_some h).2.1
  exact hx x (List.mem_of_mem_take (h2 ▸ mem_words hxL))
theorem scan_sound : ∀ (n : Nat) (p : Part) (xs : List Nat), p.Sound → (∀ x ∈ xs, x < 4294967296) → (scan n p xs).Sound
  | 0, p, xs, h, _ => h
  | n + 1, p, xs, h, hx => by
    cases hr : frame.readN xs with
    | none => rw [scan_none hr]; exact h
    | some f =>
      obtain ⟨k, s, L⟩ := f
      cases ht : p.takes k s with
      | false => rw [scan_stop hr ht]; exact h
      | true =>
        rw [scan_some hr ht]
        exact scan_sound n _ _ (h.add (frame.readN_some hr).1 (readN_load hr hx) ht) fun x hx2 => hx x (List.mem_of_mem_drop hx2)
/-- the words of a sector -/
def sec (F : Fl) (g : Geo) (s : Nat) : List Nat := drive.span F (drive.addr g s 0) g.sector.toNat
def said (F : Fl) (g : Geo) (s : Nat) : Part := scan g.sector.toNat Part.zero (sec F g s)
/-- a journal: the active sector, what its frames say, and whether the tail is torn -/
structure Jv where
  (sector : Nat) (p : Part) (torn : Bool)
def tornV (F : Fl) (g : Geo) (s a : Nat) : Bool := !drive.ones F (drive.addr g s a) (g.sector - a).toNat
def best (F : Fl) (g : Geo) : Nat := if (said F g 0).seq < (said F g 1).seq then 1 else 0
def openV (F : Fl) (g : Geo) : Option Jv :=
  if (said F g 0).seq = 0 ∧ (said F g 1).seq = 0 then none else some ⟨best F g, said F g (best F g), tornV F g (best F g) (said F g (best F g)).tail⟩
def turned (J : Jv) (whole : List Nat) : Jv := ⟨1 - J.sector, ⟨J.p.seq + 1, whole, [], whole.length + 3⟩, false⟩
def turnV (F : Fl) (g : Geo) (J : Jv) (whole : List Nat) : Int × Fl × Jv :=
  if (drive.fresh F g ((1 - J.sector : Nat) : Int) (frame.words 1 (J.p.seq + 1) whole)).1 ≠ 0 then ((drive.fresh F g ((1 - J.sector : Nat) : Int) (frame.words 1 (J.p.seq + 1) whole)).1, (drive.fresh F g ((1 - J.sector : Nat) : Int) (frame.words 1 (J.p.seq + 1) whole)).2, J)
  else (0, (drive.fresh F g ((1 - J.sector : Nat) : Int) (frame.words 1 (J.p.seq + 1) whole)).2, turned J whole)
/-- a frame of kind k is added at the tail -/
def layV (F : Fl) (g : Geo) (J : Jv) (k : Nat) (load : List Nat) : Int × Fl × Jv :=
  if (drive.write F g J.sector J.p.tail (frame.words k (J.p.seq + 1) load)).1 ≠ 0 then ((drive.write F g J.sector J.p.tail (frame.words k (J.p.seq + 1) load)).1, (drive.write F g J.sector J.p.tail (frame.words k (J.p.seq + 1) load)).2, J)
  else (0, (drive.write F g J.sector J.p.tail (frame.words k (J.p.seq + 1) load)).2, ⟨J.sector, J.p.add k (J.p.seq + 1) load, J.torn⟩)
/-- must the journal be turned over? -/
def full (g : Geo) (J : Jv) (load : List Nat) : Prop := J.torn = true ∨ g.sector - J.p.tail < ((load.length + 3 : Nat) : Int)
instance (g : Geo) (J : Jv) (load : List Nat) : Decidable (full g J load) := by unfold full; infer_instance
def addV (F : Fl) (g : Geo) (J : Jv) (k : Nat) (load whole : List Nat) : Int × Fl × Jv :=
  if g.life ≤ J.p.seq then (13, F, J) else if full g J load then turnV F g J whole else layV F g J k load
def loadB (l : List Nat) : Bool := decide (1 ≤ l.length ∧ l.length ≤ 56)
def putV (F : Fl) (g : Geo) (J : Jv) (k : Nat) (load whole : List Nat) : Int × Fl × Jv :=
  if loadB load = true ∧ loadB whole = true then addV F g J k load whole else (2, F, J)
def mendV (F : Fl) (g : Geo) (J : Jv) (whole : List Nat) : Int × Fl × Jv :=
  if loadB whole = false then (2, F, J) else if J.torn = false ∨ g.life ≤ J.p.seq then (0, F, J) else turnV F g J whole
/-- an act: 0, 1: Change, 2: Put, 3: Mend; any other: nothing -/
def actV (F : Fl) (g : Geo) (J : Jv) (k : Int) (load whole : List Nat) : Int × Fl × Jv :=
  if k = 0 ∨ k = 1 then putV F g J 2 load whole else if k = 2 then putV F g J 1 whole whole else if k = 3 then mendV F g J whole else (0, F, J)
def newV (F : Fl) (g : Geo) (whole : List Nat) : Int × Fl × Option Jv :=
  if loadB whole = false then (2, F, none) else if (drive.clean F g 1).1 ≠ 0 then ((drive.clean F g 1).1, (drive.clean F g 1).2, none) else
  if (turnV (drive.clean F g 1).2 g ⟨1, Part.zero, false⟩ whole).1 ≠ 0 then ((turnV (drive.clean F g 1).2 g ⟨1, Part.zero, false⟩ whole).1, (turnV (drive.clean F g 1).2 g ⟨1, Part.zero, false⟩ whole).2.1, none)
  else (0, (turnV (drive.clean F g 1).2 g ⟨1, Part.zero, false⟩ whole).2.1, some (turnV (drive.clean F g 1).2 g ⟨1, Part.zero, false⟩ whole).2.2)
/-- what is asked of every journal in memory -/
structure Jv.Sound (g : Geo) (J : Jv) : Prop where
  sector : J.sector ≤ 1
  p : J.p.Sound
  tail : (J.p.tail : Int) ≤ g.sector
theorem sec_lt {F : Fl} (ok : F.Ok) (g : Geo) (s : Nat) : ∀ x ∈ sec F g s, x < 4294967296 := by
  unfold sec
  refine mem_of_getD fun j hj => ?_
  rw [drive.span_length] at hj
  rw [drive.span_getD _ _ _ _ hj]
  exact getD_lt ok.w (by decide) _
theorem sec_length (F : Fl) (g : Geo) (s : Nat) : (sec F g s).length = g.sector.toNat := drive.span_length _ _ _
theorem said_sound {F : Fl} (ok : F.Ok) (g : Geo) (s : Nat) : (said F g s).Sound := scan_sound _ _ _ .zero (sec_lt ok g s)
theorem said_tail (F : Fl) (g : Geo) (s : Nat) : (said F g s).tail ≤ g.sector.toNat := by
  have := (scan_seq g.sector.toNat Part.zero (sec F g s)).2.2
  rw [sec_length] at this
  unfold said
  have h0 : Part.zero.tail = 0 := rfl
  omega
theorem best_le (F : Fl) (g : Geo) : best F g ≤ 1 := by unfold best; split <;> omega
theorem openV_sound {F : Fl} {g : Geo} {J : Jv} (ok : F.Ok) (hs : 0 ≤ g.sector) (h : openV F g = some J) : J.Sound g := by
  unfold openV at h
  split at h
  · cases h
  · cases h
    exact ⟨best_le F g, said_sound ok g _, by have := said_tail F g (best F g); show ((said F g (best F g)).tail : Int) ≤ _; omega⟩
theorem turned_sound {g : Geo} {J : Jv} (h : J.Sound g) (hl : J.p.seq < 1073741823) (hg : 64 ≤ g.sector) {whole : List Nat} (hb : loadB whole = true) (hw : ∀ x ∈ whole, x < 4294967296) : (turned J whole).Sound g := by
  have hb' := of_decide_eq_true hb
  exact ⟨by show 1 - J.sector ≤ 1; omega, ⟨by show J.p.seq + 1 ≤ _; omega, .inr hb', hw, fun x h => (by cases h), by show 4 * 0 ≤ _; omega⟩, by show ((whole.length + 3 : Nat) : Int) ≤ _; omega⟩
end Go.Proofs.YtphifanacehppaaGreat.journal
/- Contracts of Size, marked and told of layer 10 (frame). No condition. -/
namespace Go.Proofs.YtphifanacehppaaGreat.frame
open Go.RowKit Go.Proofs.YtphifanacehppaaGreat.word Go.Proofs.YtphifanacehppaaGreat.zeros
set_option linter.unusedVariables false

def sizeI (n : Int) : Int := if 1 ≤ n ∧ n ≤ 56 then n + 3 else 0
theorem sizeI_nat (n : Nat) : sizeI (n : Int) = (sizeN n : Int) := by
  unfold sizeI sizeN
  by_cases h : 1 ≤ n ∧ n ≤ 56
  · rw [if_pos h, if_pos (by omega)]; rfl
  · rw [if_neg h, if_neg (by omega)]; rfl
theorem size_any (n : Int) (w : World) : Calls Tryz.prog 77 #[.int .i64 n] w (Quiet (.int .i64 (sizeI n)) w) := by
  unfold sizeI
  by_cases h1 : n < 1
  · rw [if_neg (by omega)]
    go_enter Tryz.func77, Tryz.ntmps77
    go_wp2
    go_ret
    exact ⟨rfl, 0, rfl⟩
  · by_cases h2 : 56 < n
    · rw [if_neg (by omega)]
      go_enter Tryz.func77, Tryz.ntmps77
      go_wp2
      go_ret
      exact ⟨rfl, 0, rfl⟩
    · rw [if_pos (by omega)]
      go_enter Tryz.func77, Tryz.ntmps77
      go_wp2
      go_ret
      exact ⟨ret_int (by omega), 0, rfl⟩
theorem marked_any (k s : Int) (w : World) : Calls Tryz.prog 94 #[.int .i64 k, .int .i64 s] w (Quiet (.bool (markB k s)) w) := by
  generalize hm : markB k s = b
  have HM := hid hm
  clear hm
  by_cases h1 : k = 1
  · subst h1
    by_cases h3 : 1 ≤ s
    · by_cases h4 : s ≤ 1073741823
      · go_enter Tryz.func94, Tryz.ntmps94
        go_wp2
        go_ret
        exact ⟨ret_bool (by rw [← HM.out]; simp [markB, h3, h4]), 0, rfl⟩
      · go_enter Tryz.func94, Tryz.ntmps94
        go_wp2
        go_ret
        exact ⟨ret_bool (by rw [← HM.out]; simp [markB, h3, h4]), 0, rfl⟩
    · go_enter Tryz.func94, Tryz.ntmps94
      go_wp2
      go_ret
      exact ⟨ret_bool (by rw [← HM.out]; symm; rw [Bool.eq_false_iff, ne_eq, markB_true]; omega), 0, rfl⟩
  · by_cases h2 : k = 2
    · subst h2
      by_cases h3 : 1 ≤ s
      · by_cases h4 : s ≤ 1073741823
        · go_enter Tryz.func94, Tryz.ntmps94
          go_wp2
          go_ret
          exact ⟨ret_bool (by rw [← HM.out]; simp [markB, h3, h4]), 0, rfl⟩
        · go_enter Tryz.func94, Tryz.ntmps94
          go_wp2
          go_ret
          exact ⟨ret_bool (by rw [← HM.out]; simp [markB, h3, h4]), 0, rfl⟩
      · go_enter Tryz.func94, Tryz.ntmps94
        go_wp2
        go_ret
        exact ⟨ret_bool (by rw [← HM.out]; symm; rw [Bool.eq_false_iff, ne_eq, markB_true]; omega), 0, rfl⟩
    · go_enter Tryz.func94, Tryz.ntmps94
      go_wp2
      go_ret
      exact ⟨ret_bool (by rw [← HM.out]; simp [markB, h1, h2]), 0, rfl⟩
theorem toldF_any (a : Option Addr) (len cap : Nat) (xs : List Nat) (w : World) (hr : Reads .u32 w a len xs) (hx : ∀ x ∈ xs, x < 4294967296) :
    Calls Tryz.prog 92 #[.slice a len cap] w (Quiet (.int .i64 (toldS xs : Nat)) w) := by
  have hlen := hr.1
  by_cases h0 : len = 0
  · subst h0
    have ht : toldS xs = 0 := by unfold toldS; rw [if_pos hlen]
    rw [ht]
    clear ht hlen
    go_enter Tryz.func92, Tryz.ntmps92
    go_wp2
    go_ret
    exact ⟨rfl, 0, rfl⟩
  · obtain ⟨b, off, rfl, hbs, hc⟩ := hr.at (show 0 < len by omega)
    have c1 : w.cell? ⟨b, off, none⟩ = some (.int .u32 ((xs.getD 0 0 : Nat) : Int)) := hc 0 (by omega)
    have ct := fun w' => told_any (xs.getD 0 0) (getD32_lt xs hx 0) w'
    unfold toldV at ct
    have ht : toldS xs = if (toldN (xs.getD 0 0)).2 = true ∧ sizeN (toldN (xs.getD 0 0)).1 ≤ len then sizeN (toldN (xs.getD 0 0)).1 else 0 := by
      unfold toldS; rw [if_neg (by omega), hlen]
    have cs := fun w' => size_any ((toldN (xs.getD 0 0)).1 : Int) w'
    simp only [sizeI_nat] at cs
    rw [ht]
    clear ht hlen hc hr hx
    generalize (toldN (xs.getD 0 0)).1 = n at *
    generalize (toldN (xs.getD 0 0)).2 = ok at *
    generalize xs.getD 0 0 = x0 at *
    generalize sizeN n = z at *
    have q0 : ((len : Int) == 0) = false := by simp; omega
    cases ok with
    | false =>
      simp only [Bool.false_eq_true, false_and, if_false]
      go_enter Tryz.func92, Tryz.ntmps92
      go_wp2_with (first
        | (go_at_call 111; ((with_reducible refine (ct _).mono ?_); rintro e w' ⟨rfl, m1, rfl⟩))
        | (go_at_call 77; ((with_reducible refine (cs _).mono ?_); rintro e w' ⟨rfl, m2, rfl⟩)))
      go_ret
      exact ⟨rfl, _, rfl⟩
    | true =>
      by_cases hz : z ≤ len
      · rw [if_pos ⟨rfl, hz⟩]
        have hz' : (z : Int) ≤ len := by omega
        go_enter Tryz.func92, Tryz.ntmps92
        go_wp2_with (first
          | (go_at_call 111; ((with_reducible refine (ct _).mono ?_); rintro e w' ⟨rfl, m1, rfl⟩))
          | (go_at_call 77; ((with_reducible refine (cs _).mono ?_); rintro e w' ⟨rfl, m2, rfl⟩)))
        go_ret
        exact ⟨rfl, _, rfl⟩
      · rw [if_neg (fun h => hz h.2)]
        have hz' : ¬ (z : Int) ≤ len := by omega
        go_enter Tryz.func92, Tryz.ntmps92
        go_wp2_with (first
          | (go_at_call 111; ((with_reducible refine (ct _).mono ?_); rintro e w' ⟨rfl, m1, rfl⟩))
          | (go_at_call 77; ((with_reducible refine (cs _).mono ?_); rintro e w' ⟨rfl, m2, rfl⟩)))
        go_ret
        exact ⟨rfl, _, rfl⟩
end Go.Proofs.YtphifanacehppaaGreat.frame
/- Contracts of the reference's Sum and Seal of layer 2, for slices of fewer than 2^27 words. -/
namespace Go.Proofs.YtphifanacehppaaGreat.zeros
open Go.RowKit Go.Proofs.YtphifanacehppaaGreat.word
set_option linter.unusedVariables false

set_option maxHeartbeats 1600000 in
theorem refSum_any (a : Option Addr) (len cap : Nat) (xs : List Nat) (w : World) (hr : Reads .u32 w a len xs) (hx : ∀ x ∈ xs, x < 4294967296) (hl : len ≤ 134217727) :
    Calls Tryz.prog 108 #[.slice a len cap] w (Quiet (.int .u32 (zcount xs)) w) := by
  have hlen := hr.1
  go_enter Tryz.func108, Tryz.ntmps108
  go_wp2
  go_loopw [3, 4] (fun n i wr => ∃ k : Nat, k ≤ len ∧ i = .int .i64 k ∧ n = .int .u32 (zcount (xs.take k)) ∧ ∃ m, wr = w.drewN m) (fun _ i _ => len - (intOf i).toNat)
  case atStart => exact ⟨0, Nat.zero_le _, rfl, rfl, 0, rfl⟩
  case round =>
    obtain ⟨k, hk, rfl, rfl, m, rfl⟩ := hrel
    by_cases hlt : k < len
    · obtain ⟨b, off, rfl, hbs, hc⟩ := hr.at hlt
      have c1 : (w.drewN m).cell? ⟨b, off + k, none⟩ = some (.int .u32 ((xs.getD k 0 : Nat) : Int)) := hc k hlt
      have hx1 := getD32_lt xs hx k
      have HS := hid (zcount_snoc xs k (by omega))
      have hz := zcount_le (xs.take k)
      have hzl : (xs.take k).length ≤ k := List.length_take_le _ _
      have hb : zcount (xs.take k) ≤ 32 * k := by omega
      clear hc hz hzl hlen
      generalize zcount (xs.take k) = z at *
      generalize xs.getD k 0 = x1 at *
      have ho := ones_le x1
      have c := fun w' => refOnes_any x1 hx1 w'
      generalize ones x1 = o at *
      clear hx hr
      go_wp2_with (go_at_call 117; (with_reducible refine (c _).mono ?_); rintro e w' ⟨rfl, m2, rfl⟩)
      exact ⟨⟨k + 1, by omega, by go_num, congrArg (Value.int .u32) (by rw [HS.out]; omega), ⟨_, rfl⟩⟩, by simp [intOf]; omega⟩
    · obtain rfl : k = len := by omega
      go_wp2
      go_ret
      exact ⟨ret_int (by rw [List.take_of_length_le (by omega)]), _, rfl⟩
/-- append onto nothing: what the source reads as, in new memory -/
theorem cells_of {k : IntKind} {w : World} {ad : Addr} {len : Nat} {xs : List Nat} (h : Reads k w (some ad) len xs) : ∀ (j : Nat) (u : Value), (xs.map fun x : Nat => Value.int k (x : Int))[j]? = some u → w.cell? (ad.add j) = some u := by
  intro j u hj
  obtain ⟨_, he, hc⟩ := Reads.cells h (by have := (List.getElem?_eq_some_iff.1 hj).1; omega)
  cases he
  exact hc j u hj
set_option maxHeartbeats 1600000 in
theorem refSeal_any (a : Option Addr) (len cap : Nat) (xs : List Nat) (w : World) (hr : Reads .u32 w a len xs) (hx : ∀ x ∈ xs, x < 4294967296) (hl : len ≤ 134217727) (hnil : a = none → cap = 0) :
    Calls Tryz.prog 85 #[.slice a len cap] w fun e w' => ∃ v, e = .returned v ∧ w'.ownsRow w.heap.size 43 1 v (len + 1) ((sealed xs).map fun x : Nat => Value.int .u32 (x : Int)) ∧ Below w.heap.size w w' := by
  obtain ⟨i0, hi, hz0, hz1, hz2⟩ := info_parts Tryzinfo34
  have hlen := hr.1
  have c := fun w' (h : Reads .u32 w' a len xs) => refSum_any a len cap xs w' h hx (by omega)
  have hz := zcount_le xs
  have hmod : zcount xs % 4294967296 = zcount xs := Nat.mod_eq_of_lt (by omega)
  unfold sealed
  rw [hmod]
  clear hmod hz
  generalize zcount xs = z at *
  have HX := hid hx
  have HL := hid hlen
  clear hx hlen
  cases a with
  | none =>
    have hcap := hnil rfl
    subst hcap
    have h0 : len = 0 := by
      rcases hr.2 with h | ⟨_, _, h, _⟩
      · exact h
      · cases h
    subst h0
    obtain rfl : xs = [] := List.eq_nil_of_length_eq_zero HL.out
    clear hnil
    go_enter Tryz.func85, Tryz.ntmps85
    go_wp2_with (first
      | (go_at_call 108; (with_reducible refine (c _ hr).mono ?_); rintro e w' ⟨rfl, m2, rfl⟩)
      | (at_builtin; refine wpList_append_own_none rfl _ _ 24 rfl w.heap.size 43 i0 1 Tryz.underlying24 hi (.slice none 0 0) 0 [] rfl (World.ownsRow_nil _ _ _ _) rfl ?_)
      | (at_builtin; refine wpList_append_own _ rfl _ _ 24 rfl w.heap.size 43 i0 (.int .u32 0) 1 4 Tryz.underlying24 hi hz0 hz1 hz2 rfl (by decide) (.slice none 0 0) 0 [] rfl (World.ownsRow_nil _ _ _ _) ⟨(w.drewN m2).heap.size, 0, none⟩ 1 1 [.int .u32 (z : Int)] rfl rfl (one_new _ _ _) (one_cell rfl) (by unfold maxLen; omega) (by omega) (by simp) ?_))
    intro v2 w2 ho2 hg2 _
    go_wp2
    go_ret
    exact ⟨_, rfl, ho2, ((below_drewN (Below.refl _ _) m2).alloc (by simp) _).grown hg2 (by simp) (fun k hk => by cases hk)⟩
  | some ad =>
    clear hnil
    go_enter Tryz.func85, Tryz.ntmps85
    go_wp2_with (at_builtin; refine wpList_append_own _ rfl _ _ 24 rfl w.heap.size 43 i0 (.int .u32 0) 1 4 Tryz.underlying24 hi hz0 hz1 hz2 rfl (by decide) (.slice none 0 0) 0 [] rfl (World.ownsRow_nil _ _ _ _) ad len cap (xs.map fun x : Nat => Value.int .u32 (x : Int)) rfl (by simp [HL.out]) (cells_of hr) (ints_one _ _) (by unfold maxLen; omega) (by omega) (by simp) ?_)
    intro v1 w1 ho1 hg1 _
    have hb1 := (Below.refl w.heap.size w).grown hg1 (Nat.le_refl _) (fun k h => by cases h)
    have hr1 := hr.below hb1
    have HO1 := hid ho1
    clear ho1
    go_wp2_with (first
      | (go_at_call 108; (with_reducible refine (c _ hr1).mono ?_); rintro e w' ⟨rfl, m2, rfl⟩)
      | (at_builtin; refine wpList_append_own _ rfl _ _ 24 rfl w.heap.size 43 i0 (.int .u32 0) 1 4 Tryz.underlying24 hi hz0 hz1 hz2 rfl (by decide) v1 len (xs.map fun x : Nat => Value.int .u32 (x : Int)) rfl ((HO1.out.drewN m2).alloc _) ⟨(w1.drewN m2).heap.size, 0, none⟩ 1 1 [.int .u32 (z : Int)] rfl rfl (one_new _ _ _) (one_cell rfl) (by unfold maxLen; omega) (by omega) (by have := hb1.size; simp; omega) ?_))
    intro v2 w2 ho2 hg2 _
    go_wp2
    go_ret
    refine ⟨_, rfl, ?_, ((below_drewN hb1 m2).alloc (by have := hb1.size; simpa using this) _).grown hg2 (by have := hb1.size; simp; omega) (fun k hk => (HO1.out.lt k hk).1)⟩
    rw [List.map_append]
    exact ho2
end Go.Proofs.YtphifanacehppaaGreat.zeros
