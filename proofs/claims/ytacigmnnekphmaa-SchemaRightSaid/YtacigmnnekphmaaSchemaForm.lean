/- Contracts of layer 13 (schema): Form, with slices.IndexFunc, its function and slices.Clone. No condition. -/
import Derived.Test.YtacigmnnekphmaaSchemaAt
import Derived.Test.YtacigmnnekphmaaFieldRow
import Derived.Deep.RegionHeld3
import Derived.Handy
namespace Go.Proofs.Ytacigmnnekphmaa.schema
open Go.RowKit
open Go.Proofs.Ytacigmnnekphmaa.field (Gives newB gives_from)
set_option linter.unusedVariables false

theorem below_drew {B : Nat} {a w : World} (h : Below B a w) : Below B a w.drew := below_drewN h 1
def fids (F : List Fm) : List Int := F.map Fm.id
theorem fids_at {F : List Fm} {k : Nat} {p : Fm} (h : F[k]? = some p) : (fids F)[k]? = some p.id := by simp [fids, h]
theorem fids_length (F : List Fm) : (fids F).length = F.length := List.length_map _
theorem fids_forms (F : List Fm) : fids F = (forms F).map (·.1) := by simp [fids, forms, Fm.p, Function.comp_def]
theorem isForm_any (i : Int) (q : Option Addr) (L : List field.Fd) (qc : Nat) (x : Int) (b : Nat) (w : World) (hc : w.cell? ⟨b, 0, none⟩ = some (.int .i64 x)) (hb : b < w.heap.size) :
    Calls Try.prog 26 #[.agg #[.int .i64 i, .slice q L.length qc], .pointer (some ⟨b, 0, none⟩)] w (Gives (.bool (i == x)) w) := by
  have HN := hid (newB w (.cells #[.int .i64 i, .slice q L.length qc] 29))
  obtain ⟨r, hr⟩ : ∃ r : Bool, Hid ((i == x) = r) := ⟨_, rfl⟩
  rw [hr.out]
  unfold Gives
  have hne : w.heap.size ≠ b := by omega
  go_enter Try.func26, Try.ntmps26
  go_wp2
  go_ret
  exact ⟨ret_bool hr.out, HN.out⟩
theorem indexForm_any (a : Option Addr) (cap : Nat) (L : List Fm) (x : Int) (g : Nat) (w : World) (h : FmL w a L) (hL : L.length ≤ maxLen) (hc : w.cell? ⟨g, 0, none⟩ = some (.int .i64 x)) (hg : g < w.heap.size) :
    Calls Try.prog 25 #[.slice a L.length cap, .func (.func 26) #[] #[.pointer (some ⟨g, 0, none⟩)]] w (Gives (.int .i64 (firstAt (fids L) x)) w) := by
  have hml : (L.length : Int) ≤ 9223372036854775807 := by unfold maxLen at hL; omega
  have HF := hid h
  have HC := hid hc
  obtain ⟨r, hr⟩ : ∃ r : Int, Hid (firstAt (fids L) x = r) := ⟨_, rfl⟩
  rw [hr.out]
  unfold Gives
  clear h hL hc
  go_enter Try.func25, Try.ntmps25
  go_wp2
  go_loopw [8] (fun n wr => ∃ k : Nat, k ≤ L.length ∧ n = .int .i64 (k : Int) ∧ Hid (x ∉ (fids L).take k) ∧ Hid (Below w.heap.size w wr)) (fun n _ => L.length - (intOf n).toNat)
  case atStart => exact ⟨0, Nat.zero_le _, rfl, hid (by simp), hid (Below.refl _ _)⟩
  case round =>
    obtain ⟨k, hk, rfl, HNO, HB⟩ := hrel
    by_cases hlt : k < L.length
    · obtain ⟨b, off, p, rfl, hbl, hp, c0, c1, _, _⟩ := form_at HF.out HB.out hlt
      have i1 : (k : Int) < L.length := by omega
      have HHIT := hid (fun e => first_hit HNO.out ((fids_at hp).trans (congrArg some e)))
      have HNX := hid (fun e => not_take_succ HNO.out (fids_at hp) e)
      have cs := isForm_any p.id p.f p.fL p.fCap x g wr (by rw [HB.out.cell (p := ⟨g, 0, none⟩) hg]; exact HC.out) (Nat.lt_of_lt_of_le hg HB.out.size)
      clear hp
      by_cases hx : p.id = x
      · rw [show (p.id == x) = true from beq_iff_eq.2 hx] at cs
        obtain rfl : (k : Int) = r := by rw [← hr.out]; exact (HHIT.out hx).symm
        clear hx
        go_wp2_with (go_at_call 26; ((with_reducible refine cs.mono ?_); rintro e w2 ⟨rfl, hb2⟩))
        go_ret
        exact ⟨rfl, HB.out.trans (hb2.mono HB.out.size)⟩
      · rw [show (p.id == x) = false from beq_eq_false_iff_ne.2 hx] at cs
        have HX := hid hx
        clear hx
        go_wp2_with (go_at_call 26; ((with_reducible refine cs.mono ?_); rintro e w2 ⟨rfl, hb2⟩))
        exact ⟨⟨k + 1, by omega, by go_num, hid (HNX.out HX.out), hid (HB.out.trans (hb2.mono HB.out.size))⟩, by simp [intOf]; omega⟩
    · obtain rfl : k = L.length := by omega
      obtain rfl : -1 = r := by rw [← hr.out]; have := HNO.out; rw [List.take_of_length_le (by rw [fids_length]; exact Nat.le_refl _)] at this; exact (first_none this).symm
      go_wp2
      go_ret
      exact ⟨rfl, HB.out⟩
/-- the call returns a row of its own that reads as the fields L -/
def CopiesF (L : List field.Fd) (w : World) (e : Ending) (w' : World) : Prop := ∃ x c, e = .returned (.slice x L.length c) ∧ field.Fds w' x L ∧ Below w.heap.size w w'
theorem fds_nil (W : World) (a : Option Addr) (n c : Nat) : (binOp .eql 27 (.slice a n c) (.slice none 0 0)).run Try.prog W = .ok (.bool a.isNone) W := by
  have h := run_equal_slice_nil (P := Try.prog) W 27 50 a n c Try.underlying27
  simp [binOp, h, Result.andThen]
theorem clone_any (a : Option Addr) (cap : Nat) (L : List field.Fd) (w : World) (h : field.Fds w a L) (hL : L.length ≤ 1000000) :
    Calls Try.prog 27 #[.slice a L.length cap] w (CopiesF L w) := by
  obtain ⟨i0, hi, hz0, hz1, hz2⟩ := fd_info_parts
  cases a with
  | none =>
    have en := fds_nil w none L.length cap
    simp only [Option.isNone_none] at en
    have hl : L = [] := by
      rcases h with h | ⟨b, off, h, _⟩
      · exact h
      · cases h
    have HR : Hid (CopiesF L w (.returned (.slice none 0 0)) w) := hid ⟨none, 0, by rw [hl]; rfl, .inl hl, Below.refl _ _⟩
    clear h hl hL
    generalize CopiesF L w = R at *
    generalize L.length = n at *
    go_enter Try.func27, Try.ntmps27
    go_wp2
    exact HR.out
  | some ad =>
    have en := fds_nil w (some ad) L.length cap
    simp only [Option.isNone_some] at en
    have hb : Below w.heap.size w (w.alloc (.cells #[] 50)) := (Below.refl _ _).alloc (Nat.le_refl _) _
    have HB := hid hb
    have HN := hid (fds_news (h.below hb))
    have HU := hid (fdV_length L)
    have HN2 : Hid (0 + L.length ≤ maxLen) := by show _ ≤ _; unfold maxLen; omega
    have HN3 : Hid ((0 + L.length) * 40 ≤ 140737488355328) := by show _ ≤ _; omega
    have HO := hid (World.ownsRow_made (base := w.heap.size) (e := 50) (size := 5) w #[] 0 (Nat.le_refl _) (Nat.zero_le _) rfl)
    have H1 := hid (fdV_one L)
    clear h hb hL
    generalize hX : fdV L = X at *
    have HX := hid hX
    clear hX
    generalize hn : L.length = n at *
    have HNN := hid hn
    clear hn
    go_enter Try.func27, Try.ntmps27
    go_wp2_with (at_builtin; refine wpList_append_fromN rfl _ _ 27 rfl w.heap.size 50 i0 _ 5 40 Try.underlying27 hi hz0 hz1 hz2 (by simp [Value.cells]) (by omega) (.slice (some ⟨w.heap.size, 0, none⟩) 0 0) 0 [] rfl HO.out (some ad) n cap X rfl HU.out HN.out H1.out HN2.out HN3.out HB.out.size ?_)
    intro v' w1 ho hg
    have hbl : Below w.heap.size w w1 := HB.out.grown hg HB.out.size (fun k hk => by cases hk; exact Nat.le_refl _)
    have ho' : w1.ownsRow w.heap.size 50 5 v' n (fdV L) := by rw [HX.out]; simpa using ho
    obtain ⟨x, c, rfl, _⟩ := ownsRow_slice ho'
    have HF := hid (own_fds ho').1
    have HB2 := hid hbl
    clear ho ho' hbl hg
    go_wp2
    go_ret
    exact ⟨x, c, by rw [HNN.out]; rfl, HF.out, HB2.out⟩
/-- a store into a struct of two cells leaves fields alone -/
theorem fds_store {w : World} {g : Nat} {t : TypeId} {x y : Value} {a : Option Addr} {L : List field.Fd} (h : field.Fds w a L) (hB : Block w g t [x, y]) (o : Nat) (u : Value) : field.Fds (w.setCell ⟨g, o, none⟩ u) a L := by
  by_cases h0 : L = []
  · exact .inl h0
  · rcases h with h | ⟨b, off, ha, hlt, hc⟩
    · exact absurd h h0
    · have hne : b ≠ g := by
        rintro rfl
        obtain ⟨p, hp⟩ : ∃ p, L[0]? = some p := by
          cases L with
          | nil => exact absurd rfl h0
          | cons p L => exact ⟨p, rfl⟩
        have h4 := (hc 0 p hp).2.2.2.2
        rw [hB.cell] at h4
        have := (List.getElem?_eq_some_iff.1 h4).1
        simp at this
        omega
      refine .inr ⟨b, off, ha, Nat.lt_of_lt_of_le hlt (by simp), fun i p hp => ?_⟩
      have hs : ∀ j, (w.setCell ⟨g, o, none⟩ u).cell? ⟨b, j, none⟩ = w.cell? ⟨b, j, none⟩ := fun j => World.cell?_setCell_other _ _ _ _ (by intro h; cases h; exact hne rfl)
      rw [hs, hs, hs, hs, hs]
      exact hc i p hp
/-- two results of which the first lives in a variable -/
theorem results_cell2 {fn : Func} {p u : Tmp} {ty : TypeId} {tmps : Array Value} {P : Program} {w : World} {b o : Nat} {cs : List Value} {d : TypeDesc} (h : fn.results = #[.cell p ty, .tmp u])
    (hp : tmps.getD p undef = .pointer (some ⟨b, o, none⟩)) (hc : w.rangeAt b o cs) (hu : P.underlying ty = some d) (hd : d.isRow = true) (hi : (P.info? ty).map (·.size) = some cs.length) :
    (results fn tmps).run P w = .ok (.tuple #[.agg cs.toArray, tmps.getD u undef]) w := by
  simp only [results, h]
  simp at hp
  simp [hp, asAddr, run_loadVar_mid w b o ty cs d hc hu hd hi]
/-- the world in which a schema and a number have been boxed and the result's variable made -/
def W3 (v : Int) (a : Option Addr) (F : List Fm) (c : Nat) (x : Int) (w : World) : World := ((w.alloc (.cells #[.int .i64 v, .slice a F.length c] 24)).alloc (.cells #[.int .i64 x] 3)).alloc (.cells #[.int .i64 0, .slice none 0 0] 29)
theorem W3.all (v : Int) (a : Option Addr) (F : List Fm) (c : Nat) (x : Int) (w w' : World) (hb : Below (W3 v a F c x w).heap.size (W3 v a F c x w) w') : w'.cell? ⟨w.heap.size, 0, none⟩ = some (.int .i64 v) ∧ w'.cell? ⟨w.heap.size, 1, none⟩ = some (.slice a F.length c) ∧ w'.cell? ⟨w.heap.size + 1, 0, none⟩ = some (.int .i64 x) ∧ Block w' (w.heap.size + 2) 29 [.int .i64 0, .slice none 0 0] ∧ Below w.heap.size w w' := by
  have h1 : Below ((w.alloc (.cells #[.int .i64 v, .slice a F.length c] 24)).alloc (.cells #[.int .i64 x] 3)).heap.size ((w.alloc (.cells #[.int .i64 v, .slice a F.length c] 24)).alloc (.cells #[.int .i64 x] 3)) w' := below_out hb
  obtain ⟨c0, c1, h2⟩ := boxS v a F c w w' (below_out h1)
  refine ⟨c0, c1, ?_, ?_, h2⟩
  · have hB := ((Block.new (w.alloc (.cells #[.int .i64 v, .slice a F.length c] 24)) 3 [.int .i64 x])).later h1
    have := hB.cell 0
    simpa using this
  · have hB := (Block.new ((w.alloc (.cells #[.int .i64 v, .slice a F.length c] 24)).alloc (.cells #[.int .i64 x] 3)) 29 [.int .i64 0, .slice none 0 0]).later hb
    simpa using hB
theorem W3.forms (v : Int) (a : Option Addr) (F : List Fm) (c : Nat) (x : Int) (w : World) : Below w.heap.size w (W3 v a F c x w) := (W3.all v a F c x w _ (Below.refl _ _)).2.2.2.2
theorem form_no (v : Int) (a : Option Addr) (c : Nat) (F : List Fm) (x : Int) (w : World) (h : FmL w a F) (hF : F.length ≤ maxLen) (hx : x ∉ fids F) :
    Calls Try.prog 8 #[.agg #[.int .i64 v, .slice a F.length c], .int .i64 x] w (Gives (.tuple #[.agg #[.int .i64 0, .slice none 0 0], .bool false]) w) := by
  have HX := hid (W3.all v a F c x w)
  have h0 := W3.all v a F c x w _ (Below.refl _ _)
  have hsz : (W3 v a F c x w).heap.size = w.heap.size + 3 := by simp [W3]
  have cI := indexForm_any a c F x (w.heap.size + 1) (W3 v a F c x w) (h.below (W3.forms v a F c x w)) hF h0.2.2.1 (by omega)
  rw [first_none hx] at cI
  clear h hx h0 hsz
  unfold W3 at HX cI
  unfold Gives
  go_enter Try.func8, Try.ntmps8
  go_wp2_with (go_at_call 25; ((with_reducible refine cI.mono ?_); rintro e w2 ⟨rfl, hb2⟩; obtain ⟨z0, z1, z2, hblk, hbo⟩ := HX.out _ hb2; have r0 := hblk.cell 0; have r1 := hblk.cell 1; have f0 := hblk.frozen 0; have f1 := hblk.frozen 1))
  have hB := (hblk.setCell 0 (.int .i64 0)).setCell 1 (.slice none 0 0)
  refine bodyPost_ret (results_cell2 (b := w.heap.size + 2) (o := 0) rfl rfl hB.whole Try.underlying29 rfl (fm_info2 _ _)) rfl ?_
  exact ⟨rfl, below_setCells (below_setCells hbo (by omega) 0 [.int .i64 0]) (by omega) 1 [.slice none 0 0]⟩
theorem form_yes (v : Int) (a : Option Addr) (c : Nat) (F : List Fm) (x : Int) (k : Nat) (p : Fm) (w : World) (h : FmL w a F) (hF : F.length ≤ maxLen) (hp : F[k]? = some p) (hx : p.id = x) (hn : x ∉ (fids F).take k) (hL : p.fL.length ≤ 1000000) :
    Calls Try.prog 8 #[.agg #[.int .i64 v, .slice a F.length c], .int .i64 x] w fun e w' => ∃ y cap, e = .returned (.tuple #[.agg #[.int .i64 x, .slice y p.fL.length cap], .bool true]) ∧ field.Fds w' y p.fL ∧ Below w.heap.size w w' := by
  have HX := hid (W3.all v a F c x w)
  have h0 := W3.all v a F c x w _ (Below.refl _ _)
  have hsz : (W3 v a F c x w).heap.size = w.heap.size + 3 := by simp [W3]
  have h3 := h.below (W3.forms v a F c x w)
  have cI := indexForm_any a c F x (w.heap.size + 1) (W3 v a F c x w) h3 hF h0.2.2.1 (by omega)
  rw [first_hit hn (by rw [← hx]; exact fids_at hp)] at cI
  have hk : k < F.length := (List.getElem?_eq_some_iff.1 hp).1
  obtain ⟨b, off, rfl, hbl0⟩ : ∃ b off, a = some ⟨b, off, none⟩ ∧ b < w.heap.size := by obtain ⟨b, off, q0, h1, h2, _⟩ := form_at h (Below.refl _ _) hk; exact ⟨b, off, h1, h2⟩
  obtain ⟨b', off', q, hab, hbl, hq, c0, c1, hfd, hfl⟩ := form_at h3 (Below.refl _ _) hk
  obtain ⟨rfl, rfl⟩ : b = b' ∧ off = off' := by cases hab; exact ⟨rfl, rfl⟩
  clear hab
  have hn1 : b ≠ w.heap.size + 1 + 1 := by omega
  have hn2 : w.heap.size + 1 + 1 ≠ b := by omega
  have hn3 : w.heap.size ≠ w.heap.size + 1 + 1 := by omega
  have hn4 : w.heap.size + 1 + 1 ≠ w.heap.size := by omega
  obtain rfl : p = q := by rw [hp] at hq; exact Option.some.inj hq
  have HFD := hid hfd
  have cC := fun w' (hb : Below (W3 v (some ⟨b, off, none⟩) F c x w).heap.size (W3 v (some ⟨b, off, none⟩) F c x w) w') => clone_any p.f p.fCap p.fL w' (hfd.below hb) hL
  have HC1 := hid (fun w' (hb : Below (W3 v (some ⟨b, off, none⟩) F c x w).heap.size (W3 v (some ⟨b, off, none⟩) F c x w) w') => (hb.cell (p := ⟨b, off + k * 2 + 1, none⟩) hbl).trans c1)
  have i1 : (k : Int) < F.length := by omega
  clear h hx hn h0 hsz hp h3 hq c0 c1 hfd hfl hbl hL hF hbl0
  obtain ⟨i, f, fc, L⟩ := p
  simp only at cC HC1 HFD ⊢
  unfold W3 at HX cI cC HC1
  go_enter Try.func8, Try.ntmps8
  go_wp2_with (go_at_call 25; ((with_reducible refine cI.mono ?_); rintro e w2 ⟨rfl, hb2⟩; obtain ⟨z0, z1, z2, hblk, hbo⟩ := HX.out _ hb2; have r0 := hblk.cell 0; have r1 := hblk.cell 1; have f0 := hblk.frozen 0; have f1 := hblk.frozen 1))
  have hb2d := below_drew hb2
  have y0 := HC1.out _ hb2d
  obtain ⟨z0, z1, z2, hblk, hbo⟩ := HX.out w2.drew hb2d
  go_region_held3 (fun w' => w'.cell? ⟨w.heap.size, 1, none⟩ = some (.slice (some ⟨b, off, none⟩) F.length c) ∧ w'.cell? ⟨w.heap.size + 1, 0, none⟩ = some (.int .i64 x) ∧ w'.cell? ⟨b, off + k * 2 + 1, none⟩ = some (.slice f L.length fc)) (first | assumption | go_keep | (rw [World.cell?_setCell_other _ _ _ _ (by simp), World.cell?_setCell_other _ _ _ _ (by simp)]; assumption)) (first
    | (go_at_call 27; (with_reducible refine (cC _ hb2d).mono ?_); rintro e w3 ⟨y, yc, rfl, hf3, hb3⟩; have hb23 := hb2d.trans (hb3.mono hb2d.size); have y0 := HC1.out _ hb23; obtain ⟨z0, z1, z2, hblk3, hbo3⟩ := HX.out w3 hb23; have r0 := hblk3.cell 0; have r1 := hblk3.cell 1; have f0 := hblk3.frozen 0; have f1 := hblk3.frozen 1))
  go_wp2
  have hB := (hblk3.setCell 0 (.int .i64 x)).setCell 1 (.slice y L.length yc)
  have hF3 := fds_store (fds_store hf3 hblk3 0 (.int .i64 x)) (hblk3.setCell 0 (.int .i64 x)) 1 (.slice y L.length yc)
  refine bodyPost_ret (results_cell2 (b := w.heap.size + 2) (o := 0) rfl rfl hB.whole Try.underlying29 rfl (fm_info2 _ _)) rfl ?_
  exact ⟨y, yc, rfl, hF3, below_setCells (below_setCells hbo3 (by omega) 0 [.int .i64 x]) (by omega) 1 [.slice y L.length yc]⟩
end Go.Proofs.Ytacigmnnekphmaa.schema
