/- Contracts and lemmas that the claims of this seat share: FormOwn, TypingBegin. Each says its own conditions. -/
import Derived.Test.YtiajpjkkopdmgaaCmK
import Derived.Test.YtiajpjkkopdmgaaCmH
import Derived.Deep.RegionHeld3

namespace Go.Proofs.Ytiajpjkkopdmgaa.schema
open Go.RowKit
open Go.Proofs.Ytiajpjkkopdmgaa.field (Gives newB gives_from)
open Go.Proofs.Ytiajpjkkopdmgaa.typing (own_past')
set_option linter.unusedVariables false

theorem form_own (v : Int) (a : Option Addr) (c : Nat) (F : List Fm) (x : Int) (k : Nat) (p : Fm) (w : World) (h : FmL w a F) (hF : F.length ≤ maxLen) (hp : F[k]? = some p) (hx : p.id = x) (hn : x ∉ (fids F).take k) (hL : p.fL.length ≤ 1000000) :
    Calls Try.prog 40 #[.agg #[.int .i64 v, .slice a F.length c], .int .i64 x] w fun e w' => ∃ y cap, e = .returned (.tuple #[.agg #[.int .i64 x, .slice y p.fL.length cap], .bool true]) ∧ w'.ownsRow w.heap.size 26 5 (.slice y p.fL.length cap) p.fL.length (fdV p.fL) ∧ Below w.heap.size w w' := by
  have HX := hid (W3.all v a F c x w)
  have h0 := W3.all v a F c x w _ (Below.refl _ _)
  have hsz : (W3 v a F c x w).heap.size = w.heap.size + 3 := by simp [W3]
  have h3 := h.below (W3.forms v a F c x w)
  have cI := indexForm_any a c F x (w.heap.size + 1) (W3 v a F c x w) h3 hF h0.2.2.1 (by omega)
  rw [first_hit hn (by rw [← hx]; exact fids_at hp)] at cI
  have hk : k < F.length := (List.getElem?_eq_some_iff.1 hp).1
  obtain ⟨b, off, rfl, hbl0⟩ : ∃ b off, a = some ⟨b, off, none⟩ ∧ b < w.heap.size := by obtain ⟨b, off, q0, h1, h2, _⟩ := form_at h (Below.refl _ _) hk; exact ⟨b, off, h1, h2⟩
  obtain ⟨b', off', q, hab, hbl, hq, c0, c1, hfd, hfl⟩ := form_at h3 (Below.refl _ _) hk
  obtain ⟨rfl, rfl⟩ : b = b' ∧ off = off' := by cases hab; exact ⟨rfl, rfl⟩
  clear hab
  have hn1 : b ≠ w.heap.size + 1 + 1 := by omega
  have hn2 : w.heap.size + 1 + 1 ≠ b := by omega
  have hn3 : w.heap.size ≠ w.heap.size + 1 + 1 := by omega
  have hn4 : w.heap.size + 1 + 1 ≠ w.heap.size := by omega
  obtain rfl : p = q := by rw [hp] at hq; exact Option.some.inj hq
  have HFD := hid hfd
  have cC := fun w' (hb : Below (W3 v (some ⟨b, off, none⟩) F c x w).heap.size (W3 v (some ⟨b, off, none⟩) F c x w) w') => cloneF_any p.f p.fCap p.fL w' (hfd.below hb) hL
  have HC1 := hid (fun w' (hb : Below (W3 v (some ⟨b, off, none⟩) F c x w).heap.size (W3 v (some ⟨b, off, none⟩) F c x w) w') => (hb.cell (p := ⟨b, off + k * 2 + 1, none⟩) hbl).trans c1)
  have i1 : (k : Int) < F.length := by omega
  clear h hx hn h0 hsz hp h3 hq c0 c1 hfd hfl hbl hL hF hbl0
  obtain ⟨i, f, fc, L⟩ := p
  simp only at cC HC1 HFD ⊢
  unfold W3 at HX cI cC HC1
  go_enter Try.func40, Try.ntmps40
  go_wp2_with (go_at_call 73; ((with_reducible refine cI.mono ?_); rintro e w2 ⟨rfl, hb2⟩; obtain ⟨z0, z1, z2, hblk, hbo⟩ := HX.out _ hb2; have r0 := hblk.cell 0; have r1 := hblk.cell 1; have f0 := hblk.frozen 0; have f1 := hblk.frozen 1))
  have hb2d := below_drew hb2
  have y0 := HC1.out _ hb2d
  obtain ⟨z0, z1, z2, hblk, hbo⟩ := HX.out w2.drew hb2d
  go_region_held3 (fun w' => w'.cell? ⟨w.heap.size, 1, none⟩ = some (.slice (some ⟨b, off, none⟩) F.length c) ∧ w'.cell? ⟨w.heap.size + 1, 0, none⟩ = some (.int .i64 x) ∧ w'.cell? ⟨b, off + k * 2 + 1, none⟩ = some (.slice f L.length fc)) (first | assumption | go_keep | (rw [World.cell?_setCell_other _ _ _ _ (by simp), World.cell?_setCell_other _ _ _ _ (by simp)]; assumption)) (first
    | (go_at_call 50; (with_reducible refine (cC _ hb2d).mono ?_); rintro e w3 ⟨yv, rfl, ho3, hb3⟩; obtain ⟨y, yc, rfl, _⟩ := ownsRow_slice ho3; have hb23 := hb2d.trans (hb3.mono hb2d.size); have y0 := HC1.out _ hb23; obtain ⟨z0, z1, z2, hblk3, hbo3⟩ := HX.out w3 hb23; have r0 := hblk3.cell 0; have r1 := hblk3.cell 1; have f0 := hblk3.frozen 0; have f1 := hblk3.frozen 1))
  go_wp2
  have hB := (hblk3.setCell 0 (.int .i64 x)).setCell 1 (.slice y L.length yc)
  have hlow : w.heap.size + 3 ≤ w2.drew.heap.size := by have := hb2d.size; simpa [W3] using this
  have hF3 := own_low (own_past' (o := 1) (v := .slice y L.length yc) (own_past' (o := 0) (v := .int .i64 x) (own_low ho3 hlow) (show w.heap.size + 2 < w.heap.size + 3 by omega)) (show w.heap.size + 2 < w.heap.size + 3 by omega)) (show w.heap.size ≤ w.heap.size + 3 by omega)
  refine bodyPost_ret (results_cell2 (b := w.heap.size + 2) (o := 0) rfl rfl hB.whole Try.underlying52 rfl (fm_info2 _ _)) rfl ?_
  exact ⟨y, yc, rfl, hF3, below_setCells (below_setCells hbo3 (by omega) 0 [.int .i64 x]) (by omega) 1 [.slice y L.length yc]⟩
end Go.Proofs.Ytiajpjkkopdmgaa.schema

namespace Go.Proofs.Ytiajpjkkopdmgaa.typing
open Go.RowKit Go.Proofs.Ytiajpjkkopdmgaa.schema
open Go.Proofs.Ytiajpjkkopdmgaa.field (Gives newB gives_from)
open Go.Proofs.Ytiajpjkkopdmgaa.step (Lists)
set_option linter.unusedVariables false

theorem one_nil : ∀ v ∈ ([] : List Value), v.oneCell' = true := by simp
theorem one_cons {x : Value} {l : List Value} (h : x.oneCell' = true) (k : ∀ v ∈ l, v.oneCell' = true) : ∀ v ∈ x :: l, v.oneCell' = true := by
  intro v hv
  rcases List.mem_cons.1 hv with rfl | h2
  · exact h
  · exact k v h2
/-- a row of the call's own beside what else turns -/
def KP (T B0 : Nat) (w : World) (fa : Option Addr) (fc : Nat) (L : List field.Fd) (w' : World) : Prop := w'.ownsRow T 26 5 (.slice fa L.length fc) L.length (fdV L) ∧ Below B0 w w'
theorem KP.cells {T B0 S o : Nat} {w w' : World} {fa : Option Addr} {fc : Nat} {L : List field.Fd} {vs : List Value} (h : KP T B0 w fa fc L w') (h1 : B0 ≤ S) (h2 : S < T) : KP T B0 w fa fc L (w'.setCells S o vs) :=
  ⟨ownsRow_heap h.1 (fun g hg => by have := World.ownsRow.lt h.1 g hg; exact heap_setCells S vs o w' g (by omega)), below_setCells h.2 h1 o vs⟩
theorem KP.cell {T B0 S o : Nat} {w w' : World} {fa : Option Addr} {fc : Nat} {L : List field.Fd} {v : Value} (h : KP T B0 w fa fc L w') (h1 : B0 ≤ S) (h2 : S < T) : KP T B0 w fa fc L (w'.setCell ⟨S, o, none⟩ v) := h.cells (vs := [v]) h1 h2
theorem KP.later {T B0 : Nat} {w w' w2 : World} {fa : Option Addr} {fc : Nat} {L : List field.Fd} (h : KP T B0 w fa fc L w') (hb : Below w'.heap.size w' w2) (hT : B0 ≤ w'.heap.size) : KP T B0 w fa fc L w2 := ⟨ownsRow_later h.1 hb, h.2.trans (hb.mono hT)⟩
theorem st_info : (Try.prog.info? 32).map (·.size) = some 16 := by kernel_rfl
theorem fids_map (F : List Fm) : fids F = (forms F).map (·.1) := fids_forms F
theorem begin_s (F : List schema.Form) (s : step.Sp) : (begin_ F s).s = s := by unfold begin_; split <;> rfl
theorem begin_at (F : List schema.Form) (s : step.Sp) : (begin_ F s).at_ = firstAt (ids (begin_ F s).L) s.fd ∧ (begin_ F s).old = oldAt (begin_ F s).L (begin_ F s).at_ := by
  unfold begin_
  split
  · exact ⟨rfl, rfl⟩
  · refine ⟨(firstAt_neg1 (by simp [ids])).symm, ?_⟩
    unfold oldAt
    rw [if_neg (by simp)]
theorem begin_len {F : List Fm} {w : World} (hF : Small w F) (s : step.Sp) : (begin_ (forms F) s).L.length ≤ 40 := by
  unfold begin_
  split
  · rename_i p hp
    obtain ⟨q, hq, rfl⟩ := List.mem_map.1 (named_some hp).1
    exact (hF.2 q hq).2
  · simp
/-- schema.Form, known or not -/
theorem form_named (v : Int) (a : Option Addr) (cc : Nat) (F : List Fm) (s : step.Sp) (c : Ch) (hc : c = begin_ (forms F) s) (w : World) (h : FmL w a F) (hF : Small w F) :
    Calls Try.prog 40 #[.agg #[.int .i64 v, .slice a F.length cc], .int .i64 s.fm] w fun e w' => ∃ fa fc, e = .returned (.tuple #[.agg #[.int .i64 c.fi, .slice fa c.L.length fc], .bool c.kn]) ∧ w'.ownsRow w.heap.size 26 5 (.slice fa c.L.length fc) c.L.length (fdV c.L) ∧ Below w.heap.size w w' := by
  have hl : F.length ≤ maxLen := by have := hF.1; unfold maxLen; omega
  cases hn : named (forms F) s.fm with
  | none =>
    have e : c = ⟨s, 0, [], false, -1, step.fd0⟩ := by rw [hc]; unfold begin_; rw [hn]
    subst e
    refine (form_no v a cc F s.fm w h hl (by rw [fids_map]; exact named_none hn)).mono ?_
    rintro e w' ⟨rfl, hb⟩
    exact ⟨none, 0, rfl, World.ownsRow_nil _ _ _ _, hb⟩
  | some p =>
    have e : c = ⟨s, s.fm, p.2, true, firstAt (ids p.2) s.fd, oldAt p.2 (firstAt (ids p.2) s.fd)⟩ := by rw [hc]; unfold begin_; rw [hn]
    subst e
    obtain ⟨i, hi, hpi⟩ := List.find?_eq_some_iff_getElem.1 hn |>.2
    have hi2 : i < F.length := by rwa [forms_length] at hi
    have hq : F[i]? = some F[i] := List.getElem?_eq_getElem hi2
    have hp : F[i].p = p := by
      have := forms_at hq
      rw [List.getElem?_eq_getElem hi] at this
      exact (Option.some.inj this).symm.trans hpi.1
    have hid : F[i].id = s.fm := by
      have := (named_some hn).2
      rw [← hp] at this
      exact this
    refine (form_own v a cc F s.fm i F[i] w h hl hq hid ?_ (by have := (hF.2 _ (List.getElem_mem hi2)).2; omega)).mono ?_
    · rw [fids_map]
      intro hm
      rw [← List.map_take] at hm
      obtain ⟨q, hq1, hq2⟩ := List.mem_map.1 hm
      obtain ⟨j, hj, hjq⟩ := List.mem_take_iff_getElem.1 hq1
      have := hpi.2 j (by omega)
      rw [hjq] at this
      simp [hq2] at this
    · rintro e w' ⟨y, cap, rfl, h1, h2⟩
      have hL : F[i].fL = p.2 := by rw [← hp]; rfl
      rw [hL] at h1 ⊢
      exact ⟨y, cap, rfl, h1, h2⟩

set_option maxRecDepth 20000 in
set_option maxHeartbeats 3200000 in
theorem begin_any (v : Int) (a : Option Addr) (cc : Nat) (F : List Fm) (c : Ch) (hc : c = begin_ (forms F) c.s) (ta : Option Addr) (tc : Nat) (la : Option Addr) (lc : Nat) (w : World) (h : FmL w a F) (hF : Small w F) :
    Calls Try.prog 20 #[.agg #[.int .i64 v, .slice a F.length cc], .agg #[.int .i64 c.s.op, .int .i64 c.s.fm, .int .i64 c.s.fd, .int .i64 c.s.pl, .int .i64 c.s.tt, .int .i64 c.s.a, .int .i64 c.s.b, .int .i64 c.s.f.id, .int .i64 c.s.f.kind, .int .i64 c.s.f.lo, .int .i64 c.s.f.hi, .int .i64 c.s.f.most, .int .i64 c.s.v.n, .string c.s.v.s, .slice ta c.s.t.length tc, .slice la c.s.l.length lc]] w (fun e w' => ∃ fa fc, e = .returned (.agg #[.int .i64 c.s.op, .int .i64 c.s.fm, .int .i64 c.s.fd, .int .i64 c.s.pl, .int .i64 c.s.tt, .int .i64 c.s.a, .int .i64 c.s.b, .int .i64 c.s.f.id, .int .i64 c.s.f.kind, .int .i64 c.s.f.lo, .int .i64 c.s.f.hi, .int .i64 c.s.f.most, .int .i64 c.s.v.n, .string c.s.v.s, .slice ta c.s.t.length tc, .slice la c.s.l.length lc, .int .i64 c.fi, .slice fa c.L.length fc, .bool c.kn, .int .i64 c.at_, .int .i64 c.old.id, .int .i64 c.old.kind, .int .i64 c.old.lo, .int .i64 c.old.hi, .int .i64 c.old.most]) ∧ field.Fds w' fa c.L ∧ Below w.heap.size w w') := by
  have hat : c.at_ = firstAt (ids c.L) c.s.fd := by have := (begin_at (forms F) c.s).1; rwa [← hc] at this
  have hold : c.old = oldAt c.L c.at_ := by have := (begin_at (forms F) c.s).2; rwa [← hc] at this
  have hln : c.L.length ≤ 40 := by have := begin_len hF c.s; rwa [← hc] at this
  obtain ⟨W, hW⟩ : ∃ W, W = (((((w.alloc (.cells #[.int .i64 v, .slice a F.length cc] 24))).alloc (.cells #[.int .i64 c.s.op, .int .i64 c.s.fm, .int .i64 c.s.fd, .int .i64 c.s.pl, .int .i64 c.s.tt, .int .i64 c.s.a, .int .i64 c.s.b, .int .i64 c.s.f.id, .int .i64 c.s.f.kind, .int .i64 c.s.f.lo, .int .i64 c.s.f.hi, .int .i64 c.s.f.most, .int .i64 c.s.v.n, .string c.s.v.s, .slice ta c.s.t.length tc, .slice la c.s.l.length lc] 32)).alloc (.cells #[.int .i64 0, .int .i64 0, .int .i64 0, .int .i64 0, .int .i64 0, .int .i64 0, .int .i64 0, .int .i64 0, .int .i64 0, .int .i64 0, .int .i64 0, .int .i64 0, .int .i64 0, .string ⟨#[]⟩, .slice none 0 0, .slice none 0 0, .int .i64 0, .slice none 0 0, .bool false, .int .i64 0, .int .i64 0, .int .i64 0, .int .i64 0, .int .i64 0, .int .i64 0] 58)).alloc (.cells #[.int .i64 0, .int .i64 0, .int .i64 0, .int .i64 0, .int .i64 0, .int .i64 0, .int .i64 0, .int .i64 0, .int .i64 0, .int .i64 0, .int .i64 0, .int .i64 0, .int .i64 0, .string ⟨#[]⟩, .slice none 0 0, .slice none 0 0, .int .i64 0, .slice none 0 0, .bool false, .int .i64 0, .int .i64 0, .int .i64 0, .int .i64 0, .int .i64 0, .int .i64 0] 58)) := ⟨_, rfl⟩
  have hbw : Below w.heap.size w W := by rw [hW]; exact ((((Below.refl _ _).alloc (Nat.le_refl _) _).alloc (by simp) _).alloc (by simp; omega) _).alloc (by simp; omega) _
  have hsz : W.heap.size = w.heap.size + 4 := by rw [hW]; simp
  have k0 : Block W w.heap.size 24 [.int .i64 v, .slice a F.length cc] := by rw [hW]; exact (((Block.new w _ _).alloc _).alloc _).alloc _
  have k1 : Block W (w.heap.size + 1) 32 [.int .i64 c.s.op, .int .i64 c.s.fm, .int .i64 c.s.fd, .int .i64 c.s.pl, .int .i64 c.s.tt, .int .i64 c.s.a, .int .i64 c.s.b, .int .i64 c.s.f.id, .int .i64 c.s.f.kind, .int .i64 c.s.f.lo, .int .i64 c.s.f.hi, .int .i64 c.s.f.most, .int .i64 c.s.v.n, .string c.s.v.s, .slice ta c.s.t.length tc, .slice la c.s.l.length lc] := by rw [hW]; have := ((Block.new ((w.alloc (.cells #[.int .i64 v, .slice a F.length cc] 24))) 32 [.int .i64 c.s.op, .int .i64 c.s.fm, .int .i64 c.s.fd, .int .i64 c.s.pl, .int .i64 c.s.tt, .int .i64 c.s.a, .int .i64 c.s.b, .int .i64 c.s.f.id, .int .i64 c.s.f.kind, .int .i64 c.s.f.lo, .int .i64 c.s.f.hi, .int .i64 c.s.f.most, .int .i64 c.s.v.n, .string c.s.v.s, .slice ta c.s.t.length tc, .slice la c.s.l.length lc]).alloc (.cells #[.int .i64 0, .int .i64 0, .int .i64 0, .int .i64 0, .int .i64 0, .int .i64 0, .int .i64 0, .int .i64 0, .int .i64 0, .int .i64 0, .int .i64 0, .int .i64 0, .int .i64 0, .string ⟨#[]⟩, .slice none 0 0, .slice none 0 0, .int .i64 0, .slice none 0 0, .bool false, .int .i64 0, .int .i64 0, .int .i64 0, .int .i64 0, .int .i64 0, .int .i64 0] 58)).alloc (.cells #[.int .i64 0, .int .i64 0, .int .i64 0, .int .i64 0, .int .i64 0, .int .i64 0, .int .i64 0, .int .i64 0, .int .i64 0, .int .i64 0, .int .i64 0, .int .i64 0, .int .i64 0, .string ⟨#[]⟩, .slice none 0 0, .slice none 0 0, .int .i64 0, .slice none 0 0, .bool false, .int .i64 0, .int .i64 0, .int .i64 0, .int .i64 0, .int .i64 0, .int .i64 0] 58); simpa using this
  have k2 : Block W (w.heap.size + 2) 58 [.int .i64 0, .int .i64 0, .int .i64 0, .int .i64 0, .int .i64 0, .int .i64 0, .int .i64 0, .int .i64 0, .int .i64 0, .int .i64 0, .int .i64 0, .int .i64 0, .int .i64 0, .string ⟨#[]⟩, .slice none 0 0, .slice none 0 0, .int .i64 0, .slice none 0 0, .bool false, .int .i64 0, .int .i64 0, .int .i64 0, .int .i64 0, .int .i64 0, .int .i64 0] := by rw [hW]; have := (Block.new (((w.alloc (.cells #[.int .i64 v, .slice a F.length cc] 24))).alloc (.cells #[.int .i64 c.s.op, .int .i64 c.s.fm, .int .i64 c.s.fd, .int .i64 c.s.pl, .int .i64 c.s.tt, .int .i64 c.s.a, .int .i64 c.s.b, .int .i64 c.s.f.id, .int .i64 c.s.f.kind, .int .i64 c.s.f.lo, .int .i64 c.s.f.hi, .int .i64 c.s.f.most, .int .i64 c.s.v.n, .string c.s.v.s, .slice ta c.s.t.length tc, .slice la c.s.l.length lc] 32)) 58 [.int .i64 0, .int .i64 0, .int .i64 0, .int .i64 0, .int .i64 0, .int .i64 0, .int .i64 0, .int .i64 0, .int .i64 0, .int .i64 0, .int .i64 0, .int .i64 0, .int .i64 0, .string ⟨#[]⟩, .slice none 0 0, .slice none 0 0, .int .i64 0, .slice none 0 0, .bool false, .int .i64 0, .int .i64 0, .int .i64 0, .int .i64 0, .int .i64 0, .int .i64 0]).alloc (.cells #[.int .i64 0, .int .i64 0, .int .i64 0, .int .i64 0, .int .i64 0, .int .i64 0, .int .i64 0, .int .i64 0, .int .i64 0, .int .i64 0, .int .i64 0, .int .i64 0, .int .i64 0, .string ⟨#[]⟩, .slice none 0 0, .slice none 0 0, .int .i64 0, .slice none 0 0, .bool false, .int .i64 0, .int .i64 0, .int .i64 0, .int .i64 0, .int .i64 0, .int .i64 0] 58); simpa using this
  have k3 : Block W (w.heap.size + 3) 58 [.int .i64 0, .int .i64 0, .int .i64 0, .int .i64 0, .int .i64 0, .int .i64 0, .int .i64 0, .int .i64 0, .int .i64 0, .int .i64 0, .int .i64 0, .int .i64 0, .int .i64 0, .string ⟨#[]⟩, .slice none 0 0, .slice none 0 0, .int .i64 0, .slice none 0 0, .bool false, .int .i64 0, .int .i64 0, .int .i64 0, .int .i64 0, .int .i64 0, .int .i64 0] := by rw [hW]; have := Block.new ((((w.alloc (.cells #[.int .i64 v, .slice a F.length cc] 24))).alloc (.cells #[.int .i64 c.s.op, .int .i64 c.s.fm, .int .i64 c.s.fd, .int .i64 c.s.pl, .int .i64 c.s.tt, .int .i64 c.s.a, .int .i64 c.s.b, .int .i64 c.s.f.id, .int .i64 c.s.f.kind, .int .i64 c.s.f.lo, .int .i64 c.s.f.hi, .int .i64 c.s.f.most, .int .i64 c.s.v.n, .string c.s.v.s, .slice ta c.s.t.length tc, .slice la c.s.l.length lc] 32)).alloc (.cells #[.int .i64 0, .int .i64 0, .int .i64 0, .int .i64 0, .int .i64 0, .int .i64 0, .int .i64 0, .int .i64 0, .int .i64 0, .int .i64 0, .int .i64 0, .int .i64 0, .int .i64 0, .string ⟨#[]⟩, .slice none 0 0, .slice none 0 0, .int .i64 0, .slice none 0 0, .bool false, .int .i64 0, .int .i64 0, .int .i64 0, .int .i64 0, .int .i64 0, .int .i64 0] 58)) 58 [.int .i64 0, .int .i64 0, .int .i64 0, .int .i64 0, .int .i64 0, .int .i64 0, .int .i64 0, .int .i64 0, .int .i64 0, .int .i64 0, .int .i64 0, .int .i64 0, .int .i64 0, .string ⟨#[]⟩, .slice none 0 0, .slice none 0 0, .int .i64 0, .slice none 0 0, .bool false, .int .i64 0, .int .i64 0, .int .i64 0, .int .i64 0, .int .i64 0, .int .i64 0]; simpa using this
  have HTH : Hid (W.there (w.heap.size + 3) 0 (#[.int .i64 c.s.op, .int .i64 c.s.fm, .int .i64 c.s.fd, .int .i64 c.s.pl, .int .i64 c.s.tt, .int .i64 c.s.a, .int .i64 c.s.b, .int .i64 c.s.f.id, .int .i64 c.s.f.kind, .int .i64 c.s.f.lo, .int .i64 c.s.f.hi, .int .i64 c.s.f.most, .int .i64 c.s.v.n, .string c.s.v.s, .slice ta c.s.t.length tc, .slice la c.s.l.length lc, .int .i64 0, .slice none 0 0, .bool false, .int .i64 0, .int .i64 0, .int .i64 0, .int .i64 0, .int .i64 0, .int .i64 0] : Array Value).size) := hid (k3.there 0 25 (by simp))
  have HRS : Hid (((((w.alloc (.cells #[.int .i64 v, .slice a F.length cc] 24))).alloc (.cells #[.int .i64 c.s.op, .int .i64 c.s.fm, .int .i64 c.s.fd, .int .i64 c.s.pl, .int .i64 c.s.tt, .int .i64 c.s.a, .int .i64 c.s.b, .int .i64 c.s.f.id, .int .i64 c.s.f.kind, .int .i64 c.s.f.lo, .int .i64 c.s.f.hi, .int .i64 c.s.f.most, .int .i64 c.s.v.n, .string c.s.v.s, .slice ta c.s.t.length tc, .slice la c.s.l.length lc] 32)).alloc (.cells #[.int .i64 0, .int .i64 0, .int .i64 0, .int .i64 0, .int .i64 0, .int .i64 0, .int .i64 0, .int .i64 0, .int .i64 0, .int .i64 0, .int .i64 0, .int .i64 0, .int .i64 0, .string ⟨#[]⟩, .slice none 0 0, .slice none 0 0, .int .i64 0, .slice none 0 0, .bool false, .int .i64 0, .int .i64 0, .int .i64 0, .int .i64 0, .int .i64 0, .int .i64 0] 58)).rangeAt (w.heap.size + 1) 0 [.int .i64 c.s.op, .int .i64 c.s.fm, .int .i64 c.s.fd, .int .i64 c.s.pl, .int .i64 c.s.tt, .int .i64 c.s.a, .int .i64 c.s.b, .int .i64 c.s.f.id, .int .i64 c.s.f.kind, .int .i64 c.s.f.lo, .int .i64 c.s.f.hi, .int .i64 c.s.f.most, .int .i64 c.s.v.n, .string c.s.v.s, .slice ta c.s.t.length tc, .slice la c.s.l.length lc]) := hid (by
    have := ((Block.new ((w.alloc (.cells #[.int .i64 v, .slice a F.length cc] 24))) 32 [.int .i64 c.s.op, .int .i64 c.s.fm, .int .i64 c.s.fd, .int .i64 c.s.pl, .int .i64 c.s.tt, .int .i64 c.s.a, .int .i64 c.s.b, .int .i64 c.s.f.id, .int .i64 c.s.f.kind, .int .i64 c.s.f.lo, .int .i64 c.s.f.hi, .int .i64 c.s.f.most, .int .i64 c.s.v.n, .string c.s.v.s, .slice ta c.s.t.length tc, .slice la c.s.l.length lc]).alloc (.cells #[.int .i64 0, .int .i64 0, .int .i64 0, .int .i64 0, .int .i64 0, .int .i64 0, .int .i64 0, .int .i64 0, .int .i64 0, .int .i64 0, .int .i64 0, .int .i64 0, .int .i64 0, .string ⟨#[]⟩, .slice none 0 0, .slice none 0 0, .int .i64 0, .slice none 0 0, .bool false, .int .i64 0, .int .i64 0, .int .i64 0, .int .i64 0, .int .i64 0, .int .i64 0] 58))
    have h2 : Block ((((w.alloc (.cells #[.int .i64 v, .slice a F.length cc] 24))).alloc (.cells #[.int .i64 c.s.op, .int .i64 c.s.fm, .int .i64 c.s.fd, .int .i64 c.s.pl, .int .i64 c.s.tt, .int .i64 c.s.a, .int .i64 c.s.b, .int .i64 c.s.f.id, .int .i64 c.s.f.kind, .int .i64 c.s.f.lo, .int .i64 c.s.f.hi, .int .i64 c.s.f.most, .int .i64 c.s.v.n, .string c.s.v.s, .slice ta c.s.t.length tc, .slice la c.s.l.length lc] 32)).alloc (.cells #[.int .i64 0, .int .i64 0, .int .i64 0, .int .i64 0, .int .i64 0, .int .i64 0, .int .i64 0, .int .i64 0, .int .i64 0, .int .i64 0, .int .i64 0, .int .i64 0, .int .i64 0, .string ⟨#[]⟩, .slice none 0 0, .slice none 0 0, .int .i64 0, .slice none 0 0, .bool false, .int .i64 0, .int .i64 0, .int .i64 0, .int .i64 0, .int .i64 0, .int .i64 0] 58)) (w.heap.size + 1) 32 [.int .i64 c.s.op, .int .i64 c.s.fm, .int .i64 c.s.fd, .int .i64 c.s.pl, .int .i64 c.s.tt, .int .i64 c.s.a, .int .i64 c.s.b, .int .i64 c.s.f.id, .int .i64 c.s.f.kind, .int .i64 c.s.f.lo, .int .i64 c.s.f.hi, .int .i64 c.s.f.most, .int .i64 c.s.v.n, .string c.s.v.s, .slice ta c.s.t.length tc, .slice la c.s.l.length lc] := by simpa using this
    exact h2.whole)
  have HIS : Hid ((Try.prog.info? 32).map (·.size) = some ([.int .i64 c.s.op, .int .i64 c.s.fm, .int .i64 c.s.fd, .int .i64 c.s.pl, .int .i64 c.s.tt, .int .i64 c.s.a, .int .i64 c.s.b, .int .i64 c.s.f.id, .int .i64 c.s.f.kind, .int .i64 c.s.f.lo, .int .i64 c.s.f.hi, .int .i64 c.s.f.most, .int .i64 c.s.v.n, .string c.s.v.s, .slice ta c.s.t.length tc, .slice la c.s.l.length lc] : List Value).length) := hid st_info
  have HIC : Hid ((Try.prog.info? 58).map (·.size) = some (#[.int .i64 c.s.op, .int .i64 c.s.fm, .int .i64 c.s.fd, .int .i64 c.s.pl, .int .i64 c.s.tt, .int .i64 c.s.a, .int .i64 c.s.b, .int .i64 c.s.f.id, .int .i64 c.s.f.kind, .int .i64 c.s.f.lo, .int .i64 c.s.f.hi, .int .i64 c.s.f.most, .int .i64 c.s.v.n, .string c.s.v.s, .slice ta c.s.t.length tc, .slice la c.s.l.length lc, .int .i64 0, .slice none 0 0, .bool false, .int .i64 0, .int .i64 0, .int .i64 0, .int .i64 0, .int .i64 0, .int .i64 0] : Array Value).size) := hid ch_info
  have HON : Hid ((#[.int .i64 c.s.op, .int .i64 c.s.fm, .int .i64 c.s.fd, .int .i64 c.s.pl, .int .i64 c.s.tt, .int .i64 c.s.a, .int .i64 c.s.b, .int .i64 c.s.f.id, .int .i64 c.s.f.kind, .int .i64 c.s.f.lo, .int .i64 c.s.f.hi, .int .i64 c.s.f.most, .int .i64 c.s.v.n, .string c.s.v.s, .slice ta c.s.t.length tc, .slice la c.s.l.length lc, .int .i64 0, .slice none 0 0, .bool false, .int .i64 0, .int .i64 0, .int .i64 0, .int .i64 0, .int .i64 0, .int .i64 0] : Array Value).all (·.oneCell') = true) := hid (all_oneCell_toArray (by repeat (first | exact one_nil | refine one_cons rfl ?_)))
  have HAT := hid hat
  have HOLD := hid hold
  have K0 := hid k0
  have K1 := hid k1
  have K2 := hid k2
  have K3 := hid k3
  have HBW := hid hbw
  have HSZ := hid hsz
  have cFm := fun (w' : World) (hb : Below w.heap.size w w') => form_named v a cc F c.s c hc w' (h.below hb) (hF.below hb)
  clear hat hold k0 k1 k2 k3 hbw hsz h hF hc
  subst hW
  go_enter Try.func20, Try.ntmps20
  go_wp2_with (first
    | (with_reducible refine wpList_load_mid rfl 32 (.tmp 3) rfl (w.heap.size + 1) 0 rfl [.int .i64 c.s.op, .int .i64 c.s.fm, .int .i64 c.s.fd, .int .i64 c.s.pl, .int .i64 c.s.tt, .int .i64 c.s.a, .int .i64 c.s.b, .int .i64 c.s.f.id, .int .i64 c.s.f.kind, .int .i64 c.s.f.lo, .int .i64 c.s.f.hi, .int .i64 c.s.f.most, .int .i64 c.s.v.n, .string c.s.v.s, .slice ta c.s.t.length tc, .slice la c.s.l.length lc] _ HRS.out Try.underlying32 rfl HIS.out ?_)
    | (with_reducible refine wpList_store_named rfl 58 (.tmp 5) (.tmp 7) rfl (w.heap.size + 3) 0 #[.int .i64 c.s.op, .int .i64 c.s.fm, .int .i64 c.s.fd, .int .i64 c.s.pl, .int .i64 c.s.tt, .int .i64 c.s.a, .int .i64 c.s.b, .int .i64 c.s.f.id, .int .i64 c.s.f.kind, .int .i64 c.s.f.lo, .int .i64 c.s.f.hi, .int .i64 c.s.f.most, .int .i64 c.s.v.n, .string c.s.v.s, .slice ta c.s.t.length tc, .slice la c.s.l.length lc, .int .i64 0, .slice none 0 0, .bool false, .int .i64 0, .int .i64 0, .int .i64 0, .int .i64 0, .int .i64 0, .int .i64 0] rfl rfl HTH.out HIC.out HON.out ?_))
  intro w1 hw1
  have HX : Hid (∀ w', Below w1.heap.size w1 w' → (Block w' w.heap.size 24 [.int .i64 v, .slice a F.length cc] ∧ Block w' (w.heap.size + 1) 32 [.int .i64 c.s.op, .int .i64 c.s.fm, .int .i64 c.s.fd, .int .i64 c.s.pl, .int .i64 c.s.tt, .int .i64 c.s.a, .int .i64 c.s.b, .int .i64 c.s.f.id, .int .i64 c.s.f.kind, .int .i64 c.s.f.lo, .int .i64 c.s.f.hi, .int .i64 c.s.f.most, .int .i64 c.s.v.n, .string c.s.v.s, .slice ta c.s.t.length tc, .slice la c.s.l.length lc] ∧ Block w' (w.heap.size + 2) 58 [.int .i64 0, .int .i64 0, .int .i64 0, .int .i64 0, .int .i64 0, .int .i64 0, .int .i64 0, .int .i64 0, .int .i64 0, .int .i64 0, .int .i64 0, .int .i64 0, .int .i64 0, .string ⟨#[]⟩, .slice none 0 0, .slice none 0 0, .int .i64 0, .slice none 0 0, .bool false, .int .i64 0, .int .i64 0, .int .i64 0, .int .i64 0, .int .i64 0, .int .i64 0] ∧ Block w' (w.heap.size + 3) 58 [.int .i64 c.s.op, .int .i64 c.s.fm, .int .i64 c.s.fd, .int .i64 c.s.pl, .int .i64 c.s.tt, .int .i64 c.s.a, .int .i64 c.s.b, .int .i64 c.s.f.id, .int .i64 c.s.f.kind, .int .i64 c.s.f.lo, .int .i64 c.s.f.hi, .int .i64 c.s.f.most, .int .i64 c.s.v.n, .string c.s.v.s, .slice ta c.s.t.length tc, .slice la c.s.l.length lc, .int .i64 0, .slice none 0 0, .bool false, .int .i64 0, .int .i64 0, .int .i64 0, .int .i64 0, .int .i64 0, .int .i64 0]) ∧ Below w.heap.size w w') := hid (fun w' hb => by
    have e3 : Block w1 (w.heap.size + 3) 58 [.int .i64 c.s.op, .int .i64 c.s.fm, .int .i64 c.s.fd, .int .i64 c.s.pl, .int .i64 c.s.tt, .int .i64 c.s.a, .int .i64 c.s.b, .int .i64 c.s.f.id, .int .i64 c.s.f.kind, .int .i64 c.s.f.lo, .int .i64 c.s.f.hi, .int .i64 c.s.f.most, .int .i64 c.s.v.n, .string c.s.v.s, .slice ta c.s.t.length tc, .slice la c.s.l.length lc, .int .i64 0, .slice none 0 0, .bool false, .int .i64 0, .int .i64 0, .int .i64 0, .int .i64 0, .int .i64 0, .int .i64 0] := by
      have := K3.out.setCells (vs := [.int .i64 c.s.op, .int .i64 c.s.fm, .int .i64 c.s.fd, .int .i64 c.s.pl, .int .i64 c.s.tt, .int .i64 c.s.a, .int .i64 c.s.b, .int .i64 c.s.f.id, .int .i64 c.s.f.kind, .int .i64 c.s.f.lo, .int .i64 c.s.f.hi, .int .i64 c.s.f.most, .int .i64 c.s.v.n, .string c.s.v.s, .slice ta c.s.t.length tc, .slice la c.s.l.length lc, .int .i64 0, .slice none 0 0, .bool false, .int .i64 0, .int .i64 0, .int .i64 0, .int .i64 0, .int .i64 0, .int .i64 0]) (o := 0)
      rw [put_all _ _ (by simp)] at this
      rw [← hw1.out]
      exact this
    have e0 : Block w1 w.heap.size 24 [.int .i64 v, .slice a F.length cc] := by rw [← hw1.out]; exact K0.out.aparts _ _ _ (by omega)
    have e1 : Block w1 (w.heap.size + 1) 32 [.int .i64 c.s.op, .int .i64 c.s.fm, .int .i64 c.s.fd, .int .i64 c.s.pl, .int .i64 c.s.tt, .int .i64 c.s.a, .int .i64 c.s.b, .int .i64 c.s.f.id, .int .i64 c.s.f.kind, .int .i64 c.s.f.lo, .int .i64 c.s.f.hi, .int .i64 c.s.f.most, .int .i64 c.s.v.n, .string c.s.v.s, .slice ta c.s.t.length tc, .slice la c.s.l.length lc] := by rw [← hw1.out]; exact K1.out.aparts _ _ _ (by omega)
    have e2 : Block w1 (w.heap.size + 2) 58 [.int .i64 0, .int .i64 0, .int .i64 0, .int .i64 0, .int .i64 0, .int .i64 0, .int .i64 0, .int .i64 0, .int .i64 0, .int .i64 0, .int .i64 0, .int .i64 0, .int .i64 0, .string ⟨#[]⟩, .slice none 0 0, .slice none 0 0, .int .i64 0, .slice none 0 0, .bool false, .int .i64 0, .int .i64 0, .int .i64 0, .int .i64 0, .int .i64 0, .int .i64 0] := by rw [← hw1.out]; exact K2.out.aparts _ _ _ (by omega)
    refine ⟨⟨e0.later hb, e1.later hb, e2.later hb, e3.later hb⟩, ?_⟩
    have hb1 : Below w.heap.size w w1 := by rw [← hw1.out]; exact below_setCells HBW.out (by omega) _ _
    exact hb1.trans (hb.mono hb1.size))
  clear HRS HIS HTH HIC HON K0 K1 K2 K3 HBW HSZ hw1
  have hmx : c.L.length ≤ maxLen := by unfold maxLen; omega
  obtain ⟨B3, hB3⟩ : ∃ B3, w.heap.size + 1 + 1 + 1 = B3 := ⟨_, rfl⟩
  rw [hB3]
  obtain ⟨B2, hB2⟩ : ∃ B2, w.heap.size + 1 + 1 = B2 := ⟨_, rfl⟩
  rw [hB2]
  obtain ⟨B1, hB1⟩ : ∃ B1, w.heap.size + 1 = B1 := ⟨_, rfl⟩
  rw [hB1]
  obtain ⟨B0, hB0⟩ : ∃ B0, Hid (w.heap.size = B0) := ⟨_, rfl⟩
  rw [hB0.out] at hB1 hB2 hB3 HX cFm ⊢
  rw [show B0 + 1 = B1 by omega, show B0 + 2 = B2 by omega, show B0 + 3 = B3 by omega] at HX
  have n1 : B3 ≠ B2 := by omega
  have n2 : B2 ≠ B3 := by omega
  have n3 : B3 ≠ B1 := by omega
  have n4 : B1 ≠ B3 := by omega
  have n5 : B3 ≠ B0 := by omega
  have n6 : B0 ≠ B3 := by omega
  have HLB : Hid (B0 ≤ B2 ∧ B0 ≤ B3) := hid ⟨by omega, by omega⟩
  clear hB1 hB2 hB3
  have hHX := HX.out w1 (Below.refl _ _)
  have HW1 := hid hHX.2
  have z0 := hHX.1.1.cell 0
  have z1 := hHX.1.1.cell 1
  have z2 := hHX.1.2.1.cell 1
  have HS3 : Hid (B3 < w1.heap.size) := hid hHX.1.2.2.2.lt
  have HS2 : Hid (B2 < w1.heap.size) := hid hHX.1.2.2.1.lt
  have HS0 : Hid (B0 ≤ w1.heap.size) := hid (Nat.le_of_lt hHX.1.1.lt)
  clear hHX
  have HIF : Hid (∀ (fa : Option Addr) (fc : Nat), (Try.prog.info? 58).map (·.size) = some ([.int .i64 c.s.op, .int .i64 c.s.fm, .int .i64 c.s.fd, .int .i64 c.s.pl, .int .i64 c.s.tt, .int .i64 c.s.a, .int .i64 c.s.b, .int .i64 c.s.f.id, .int .i64 c.s.f.kind, .int .i64 c.s.f.lo, .int .i64 c.s.f.hi, .int .i64 c.s.f.most, .int .i64 c.s.v.n, .string c.s.v.s, .slice ta c.s.t.length tc, .slice la c.s.l.length lc, .int .i64 c.fi, .slice fa c.L.length fc, .bool c.kn, .int .i64 c.at_, .int .i64 0, .int .i64 0, .int .i64 0, .int .i64 0, .int .i64 0] : List Value).length) := hid (fun _ _ => ch_info)
  have HIF2 : Hid (∀ (fa : Option Addr) (fc : Nat), (Try.prog.info? 58).map (·.size) = some ([.int .i64 c.s.op, .int .i64 c.s.fm, .int .i64 c.s.fd, .int .i64 c.s.pl, .int .i64 c.s.tt, .int .i64 c.s.a, .int .i64 c.s.b, .int .i64 c.s.f.id, .int .i64 c.s.f.kind, .int .i64 c.s.f.lo, .int .i64 c.s.f.hi, .int .i64 c.s.f.most, .int .i64 c.s.v.n, .string c.s.v.s, .slice ta c.s.t.length tc, .slice la c.s.l.length lc, .int .i64 c.fi, .slice fa c.L.length fc, .bool c.kn, .int .i64 c.at_, .int .i64 c.old.id, .int .i64 c.old.kind, .int .i64 c.old.lo, .int .i64 c.old.hi, .int .i64 c.old.most] : List Value).length) := hid (fun _ _ => ch_info)
  have HIG2 : Hid (∀ (fa : Option Addr) (fc : Nat), (Try.prog.info? 58).map (·.size) = some (#[.int .i64 c.s.op, .int .i64 c.s.fm, .int .i64 c.s.fd, .int .i64 c.s.pl, .int .i64 c.s.tt, .int .i64 c.s.a, .int .i64 c.s.b, .int .i64 c.s.f.id, .int .i64 c.s.f.kind, .int .i64 c.s.f.lo, .int .i64 c.s.f.hi, .int .i64 c.s.f.most, .int .i64 c.s.v.n, .string c.s.v.s, .slice ta c.s.t.length tc, .slice la c.s.l.length lc, .int .i64 c.fi, .slice fa c.L.length fc, .bool c.kn, .int .i64 c.at_, .int .i64 c.old.id, .int .i64 c.old.kind, .int .i64 c.old.lo, .int .i64 c.old.hi, .int .i64 c.old.most] : Array Value).size) := hid (fun _ _ => ch_info)
  have HON2 : Hid (∀ (fa : Option Addr) (fc : Nat), (#[.int .i64 c.s.op, .int .i64 c.s.fm, .int .i64 c.s.fd, .int .i64 c.s.pl, .int .i64 c.s.tt, .int .i64 c.s.a, .int .i64 c.s.b, .int .i64 c.s.f.id, .int .i64 c.s.f.kind, .int .i64 c.s.f.lo, .int .i64 c.s.f.hi, .int .i64 c.s.f.most, .int .i64 c.s.v.n, .string c.s.v.s, .slice ta c.s.t.length tc, .slice la c.s.l.length lc, .int .i64 c.fi, .slice fa c.L.length fc, .bool c.kn, .int .i64 c.at_, .int .i64 c.old.id, .int .i64 c.old.kind, .int .i64 c.old.lo, .int .i64 c.old.hi, .int .i64 c.old.most] : Array Value).all (·.oneCell') = true) := hid (fun fa fc => all_oneCell_toArray (by repeat (first | exact one_nil | refine one_cons rfl ?_)))
  have HIG : Hid (∀ (fa : Option Addr) (fc : Nat), (Try.prog.info? 58).map (·.size) = some (#[.int .i64 c.s.op, .int .i64 c.s.fm, .int .i64 c.s.fd, .int .i64 c.s.pl, .int .i64 c.s.tt, .int .i64 c.s.a, .int .i64 c.s.b, .int .i64 c.s.f.id, .int .i64 c.s.f.kind, .int .i64 c.s.f.lo, .int .i64 c.s.f.hi, .int .i64 c.s.f.most, .int .i64 c.s.v.n, .string c.s.v.s, .slice ta c.s.t.length tc, .slice la c.s.l.length lc, .int .i64 c.fi, .slice fa c.L.length fc, .bool c.kn, .int .i64 c.at_, .int .i64 0, .int .i64 0, .int .i64 0, .int .i64 0, .int .i64 0] : Array Value).size) := hid (fun _ _ => ch_info)
  have HON : Hid (∀ (fa : Option Addr) (fc : Nat), (#[.int .i64 c.s.op, .int .i64 c.s.fm, .int .i64 c.s.fd, .int .i64 c.s.pl, .int .i64 c.s.tt, .int .i64 c.s.a, .int .i64 c.s.b, .int .i64 c.s.f.id, .int .i64 c.s.f.kind, .int .i64 c.s.f.lo, .int .i64 c.s.f.hi, .int .i64 c.s.f.most, .int .i64 c.s.v.n, .string c.s.v.s, .slice ta c.s.t.length tc, .slice la c.s.l.length lc, .int .i64 c.fi, .slice fa c.L.length fc, .bool c.kn, .int .i64 c.at_, .int .i64 0, .int .i64 0, .int .i64 0, .int .i64 0, .int .i64 0] : Array Value).all (·.oneCell') = true) := hid (fun fa fc => all_oneCell_toArray (by repeat (first | exact one_nil | refine one_cons rfl ?_)))
  by_cases h0 : 0 ≤ c.at_
  · have d0 : decide (c.at_ ≥ 0) = true := decide_eq_true h0
    have h1 : c.at_ < c.L.length := by have := HAT.out; rw [this] at h0 ⊢; have := (firstAt_lt h0).1; rw [ids_length] at this; omega
    have HEQ : Hid (∀ p, c.L[c.at_.toNat]? = some p → p = c.old) := hid (fun p hp => by rw [HOLD.out]; unfold oldAt; rw [if_pos h0, List.getD_eq_getElem?_getD, hp]; rfl)
    go_wp2_with (first
      | (go_at_call 40; ((with_reducible refine (cFm _ HW1.out).mono ?_); rintro e w2 ⟨fa, fc, rfl, ho2, hb2⟩; obtain ⟨⟨b0, b1, b2, b3⟩, hbo⟩ := HX.out w2 hb2; have y2 := b1.cell 2; have y16 := b3.cell 16; have y17 := b3.cell 17; have y18 := b3.cell 18; have f16 := b3.frozen 16; have f17 := b3.frozen 17; have f18 := b3.frozen 18; have HKP := hid (((show KP w1.heap.size B0 w fa fc c.L w2 from ⟨ho2, hbo⟩).cell (o := 16) (v := .int .i64 c.fi) HLB.out.2 HS3.out).cell (o := 17) (v := .slice fa c.L.length fc) HLB.out.2 HS3.out |>.cell (o := 18) (v := .bool c.kn) HLB.out.2 HS3.out); have HK3 := hid (((b3.setCell 16 (.int .i64 c.fi)).setCell 17 (.slice fa c.L.length fc)).setCell 18 (.bool c.kn)); have HK2 := hid (((b2.apart B3 16 (.int .i64 c.fi) n2).apart B3 17 (.slice fa c.L.length fc) n2).apart B3 18 (.bool c.kn) n2); have cA := at_any c.fi fa fc c.L c.s.fd _ (own_fds HKP.out.1).1 hmx; rw [← HAT.out] at cA; have HSZ := hid (Nat.le_trans HS0.out (Nat.le_trans hb2.size (by simp : w2.heap.size ≤ (((w2.setCell ⟨B3, 16, none⟩ (.int .i64 c.fi)).setCell ⟨B3, 17, none⟩ (.slice fa c.L.length fc)).setCell ⟨B3, 18, none⟩ (.bool c.kn)).heap.size))); clear ho2 hb2 b0 b1 b2 b3 hbo))
      | (go_at_call 41; ((with_reducible refine cA.mono ?_); rintro e w3 ⟨rfl, hb3⟩; have hk3 : Block w3 B3 58 [.int .i64 c.s.op, .int .i64 c.s.fm, .int .i64 c.s.fd, .int .i64 c.s.pl, .int .i64 c.s.tt, .int .i64 c.s.a, .int .i64 c.s.b, .int .i64 c.s.f.id, .int .i64 c.s.f.kind, .int .i64 c.s.f.lo, .int .i64 c.s.f.hi, .int .i64 c.s.f.most, .int .i64 c.s.v.n, .string c.s.v.s, .slice ta c.s.t.length tc, .slice la c.s.l.length lc, .int .i64 c.fi, .slice fa c.L.length fc, .bool c.kn, .int .i64 0, .int .i64 0, .int .i64 0, .int .i64 0, .int .i64 0, .int .i64 0] := HK3.out.later hb3; have hk2 := HK2.out.later hb3; have x17 := hk3.cell 17; have x19 := hk3.cell 19; have g19 := hk3.frozen 19; have hkp3 := HKP.out.later hb3 HSZ.out; obtain ⟨gb, go_, p, rfl, hgl, hp, p0, p1, p2, p3, p4⟩ := (own_fds hkp3.1).1.at (i := c.at_.toNat) (by omega); have hgb := (World.ownsRow.lt hkp3.1 gb rfl).1; have hs3 := HS3.out; have n7 : gb ≠ B3 := (by omega); have n8 : B3 ≠ gb := (by omega); obtain rfl : p = c.old := HEQ.out p hp; have HKQ := hid (hkp3.cell (S := B3) (o := 19) (v := .int .i64 c.at_) HLB.out.2 HS3.out); have hm2 := hk2.apart B3 19 (.int .i64 c.at_) n2; have hm3 : Block (w3.setCell ⟨B3, 19, none⟩ (.int .i64 c.at_)) B3 58 [.int .i64 c.s.op, .int .i64 c.s.fm, .int .i64 c.s.fd, .int .i64 c.s.pl, .int .i64 c.s.tt, .int .i64 c.s.a, .int .i64 c.s.b, .int .i64 c.s.f.id, .int .i64 c.s.f.kind, .int .i64 c.s.f.lo, .int .i64 c.s.f.hi, .int .i64 c.s.f.most, .int .i64 c.s.v.n, .string c.s.v.s, .slice ta c.s.t.length tc, .slice la c.s.l.length lc, .int .i64 c.fi, .slice (some ⟨gb, go_, none⟩) c.L.length fc, .bool c.kn, .int .i64 c.at_, .int .i64 0, .int .i64 0, .int .i64 0, .int .i64 0, .int .i64 0] := hk3.setCell 19 (.int .i64 c.at_); have x20 := hk3.cell 20; have x21 := hk3.cell 21; have x22 := hk3.cell 22; have x23 := hk3.cell 23; have x24 := hk3.cell 24; have g20 := hk3.frozen 20; have g21 := hk3.frozen 21; have g22 := hk3.frozen 22; have g23 := hk3.frozen 23; have g24 := hk3.frozen 24; clear hkp3 hgb hs3; have hq2 := (((((hm2.apart B3 20 (.int .i64 c.old.id) n2).apart B3 21 (.int .i64 c.old.kind) n2).apart B3 22 (.int .i64 c.old.lo) n2).apart B3 23 (.int .i64 c.old.hi) n2).apart B3 24 (.int .i64 c.old.most) n2); have hq3 : Block ((((((w3.setCell ⟨B3, 19, none⟩ (.int .i64 c.at_)).setCell ⟨B3, 20, none⟩ (.int .i64 c.old.id)).setCell ⟨B3, 21, none⟩ (.int .i64 c.old.kind)).setCell ⟨B3, 22, none⟩ (.int .i64 c.old.lo)).setCell ⟨B3, 23, none⟩ (.int .i64 c.old.hi)).setCell ⟨B3, 24, none⟩ (.int .i64 c.old.most)) B3 58 [.int .i64 c.s.op, .int .i64 c.s.fm, .int .i64 c.s.fd, .int .i64 c.s.pl, .int .i64 c.s.tt, .int .i64 c.s.a, .int .i64 c.s.b, .int .i64 c.s.f.id, .int .i64 c.s.f.kind, .int .i64 c.s.f.lo, .int .i64 c.s.f.hi, .int .i64 c.s.f.most, .int .i64 c.s.v.n, .string c.s.v.s, .slice ta c.s.t.length tc, .slice la c.s.l.length lc, .int .i64 c.fi, .slice (some ⟨gb, go_, none⟩) c.L.length fc, .bool c.kn, .int .i64 c.at_, .int .i64 c.old.id, .int .i64 c.old.kind, .int .i64 c.old.lo, .int .i64 c.old.hi, .int .i64 c.old.most] := (((((hm3.setCell 20 (.int .i64 c.old.id)).setCell 21 (.int .i64 c.old.kind)).setCell 22 (.int .i64 c.old.lo)).setCell 23 (.int .i64 c.old.hi)).setCell 24 (.int .i64 c.old.most)); have HKR := hid (((((HKQ.out.cell (S := B3) (o := 20) (v := .int .i64 c.old.id) HLB.out.2 HS3.out).cell (S := B3) (o := 21) (v := .int .i64 c.old.kind) HLB.out.2 HS3.out).cell (S := B3) (o := 22) (v := .int .i64 c.old.lo) HLB.out.2 HS3.out).cell (S := B3) (o := 23) (v := .int .i64 c.old.hi) HLB.out.2 HS3.out).cell (S := B3) (o := 24) (v := .int .i64 c.old.most) HLB.out.2 HS3.out); have HTH := hid (hq2.there 0 (#[.int .i64 c.s.op, .int .i64 c.s.fm, .int .i64 c.s.fd, .int .i64 c.s.pl, .int .i64 c.s.tt, .int .i64 c.s.a, .int .i64 c.s.b, .int .i64 c.s.f.id, .int .i64 c.s.f.kind, .int .i64 c.s.f.lo, .int .i64 c.s.f.hi, .int .i64 c.s.f.most, .int .i64 c.s.v.n, .string c.s.v.s, .slice ta c.s.t.length tc, .slice la c.s.l.length lc, .int .i64 c.fi, .slice (some ⟨gb, go_, none⟩) c.L.length fc, .bool c.kn, .int .i64 c.at_, .int .i64 c.old.id, .int .i64 c.old.kind, .int .i64 c.old.lo, .int .i64 c.old.hi, .int .i64 c.old.most] : Array Value).size (by simp)); have HRG := hid hq3.whole; have HM2 := hid hq2; clear hb3 hk3 hk2 hm2 hm3 hq2 hq3 hp))
      | (with_reducible refine wpList_load_mid rfl 58 (.tmp 5) rfl B3 0 rfl [.int .i64 c.s.op, .int .i64 c.s.fm, .int .i64 c.s.fd, .int .i64 c.s.pl, .int .i64 c.s.tt, .int .i64 c.s.a, .int .i64 c.s.b, .int .i64 c.s.f.id, .int .i64 c.s.f.kind, .int .i64 c.s.f.lo, .int .i64 c.s.f.hi, .int .i64 c.s.f.most, .int .i64 c.s.v.n, .string c.s.v.s, .slice ta c.s.t.length tc, .slice la c.s.l.length lc, .int .i64 c.fi, .slice (some ⟨gb, go_, none⟩) c.L.length fc, .bool c.kn, .int .i64 c.at_, .int .i64 c.old.id, .int .i64 c.old.kind, .int .i64 c.old.lo, .int .i64 c.old.hi, .int .i64 c.old.most] _ HRG.out Try.underlying58 rfl (HIF2.out _ _) ?_)
      | (with_reducible refine wpList_store_named rfl 58 (.tmp 4) (.tmp 34) rfl B2 0 #[.int .i64 c.s.op, .int .i64 c.s.fm, .int .i64 c.s.fd, .int .i64 c.s.pl, .int .i64 c.s.tt, .int .i64 c.s.a, .int .i64 c.s.b, .int .i64 c.s.f.id, .int .i64 c.s.f.kind, .int .i64 c.s.f.lo, .int .i64 c.s.f.hi, .int .i64 c.s.f.most, .int .i64 c.s.v.n, .string c.s.v.s, .slice ta c.s.t.length tc, .slice la c.s.l.length lc, .int .i64 c.fi, .slice (some ⟨gb, go_, none⟩) c.L.length fc, .bool c.kn, .int .i64 c.at_, .int .i64 c.old.id, .int .i64 c.old.kind, .int .i64 c.old.lo, .int .i64 c.old.hi, .int .i64 c.old.most] rfl rfl HTH.out (HIG2.out _ _) (HON2.out _ _) ?_))
    intro w4 hw4
    go_wp2
    have hB4 : Block w4 B2 58 [.int .i64 c.s.op, .int .i64 c.s.fm, .int .i64 c.s.fd, .int .i64 c.s.pl, .int .i64 c.s.tt, .int .i64 c.s.a, .int .i64 c.s.b, .int .i64 c.s.f.id, .int .i64 c.s.f.kind, .int .i64 c.s.f.lo, .int .i64 c.s.f.hi, .int .i64 c.s.f.most, .int .i64 c.s.v.n, .string c.s.v.s, .slice ta c.s.t.length tc, .slice la c.s.l.length lc, .int .i64 c.fi, .slice (some ⟨gb, go_, none⟩) c.L.length fc, .bool c.kn, .int .i64 c.at_, .int .i64 c.old.id, .int .i64 c.old.kind, .int .i64 c.old.lo, .int .i64 c.old.hi, .int .i64 c.old.most] := by
      have := HM2.out.setCells (vs := [.int .i64 c.s.op, .int .i64 c.s.fm, .int .i64 c.s.fd, .int .i64 c.s.pl, .int .i64 c.s.tt, .int .i64 c.s.a, .int .i64 c.s.b, .int .i64 c.s.f.id, .int .i64 c.s.f.kind, .int .i64 c.s.f.lo, .int .i64 c.s.f.hi, .int .i64 c.s.f.most, .int .i64 c.s.v.n, .string c.s.v.s, .slice ta c.s.t.length tc, .slice la c.s.l.length lc, .int .i64 c.fi, .slice (some ⟨gb, go_, none⟩) c.L.length fc, .bool c.kn, .int .i64 c.at_, .int .i64 c.old.id, .int .i64 c.old.kind, .int .i64 c.old.lo, .int .i64 c.old.hi, .int .i64 c.old.most]) (o := 0)
      rw [put_all _ _ (by simp)] at this
      rw [← hw4.out]
      exact this
    have hkp := HKR.out.cells (S := B2) (o := 0) (vs := [.int .i64 c.s.op, .int .i64 c.s.fm, .int .i64 c.s.fd, .int .i64 c.s.pl, .int .i64 c.s.tt, .int .i64 c.s.a, .int .i64 c.s.b, .int .i64 c.s.f.id, .int .i64 c.s.f.kind, .int .i64 c.s.f.lo, .int .i64 c.s.f.hi, .int .i64 c.s.f.most, .int .i64 c.s.v.n, .string c.s.v.s, .slice ta c.s.t.length tc, .slice la c.s.l.length lc, .int .i64 c.fi, .slice (some ⟨gb, go_, none⟩) c.L.length fc, .bool c.kn, .int .i64 c.at_, .int .i64 c.old.id, .int .i64 c.old.kind, .int .i64 c.old.lo, .int .i64 c.old.hi, .int .i64 c.old.most]) HLB.out.1 HS2.out
    have hw5 := hw4.out
    rw [hw5] at hkp
    refine bodyPost_ret (results_cell (b := B2) (o := 0) rfl rfl hB4.whole Try.underlying58 rfl ch_info) rfl ?_
    exact ⟨_, _, rfl, (own_fds hkp.1).1, by rw [hB0.out]; exact hkp.2⟩
  · have d0 : decide (c.at_ ≥ 0) = false := decide_eq_false h0
    have HOE : Hid (c.old = step.fd0) := hid (by have := HOLD.out; unfold oldAt at this; rwa [if_neg h0] at this)
    clear h0
    go_wp2_with (first
      | (go_at_call 40; ((with_reducible refine (cFm _ HW1.out).mono ?_); rintro e w2 ⟨fa, fc, rfl, ho2, hb2⟩; obtain ⟨⟨b0, b1, b2, b3⟩, hbo⟩ := HX.out w2 hb2; have y2 := b1.cell 2; have y16 := b3.cell 16; have y17 := b3.cell 17; have y18 := b3.cell 18; have f16 := b3.frozen 16; have f17 := b3.frozen 17; have f18 := b3.frozen 18; have HKP := hid (((show KP w1.heap.size B0 w fa fc c.L w2 from ⟨ho2, hbo⟩).cell (o := 16) (v := .int .i64 c.fi) HLB.out.2 HS3.out).cell (o := 17) (v := .slice fa c.L.length fc) HLB.out.2 HS3.out |>.cell (o := 18) (v := .bool c.kn) HLB.out.2 HS3.out); have HK3 := hid (((b3.setCell 16 (.int .i64 c.fi)).setCell 17 (.slice fa c.L.length fc)).setCell 18 (.bool c.kn)); have HK2 := hid (((b2.apart B3 16 (.int .i64 c.fi) n2).apart B3 17 (.slice fa c.L.length fc) n2).apart B3 18 (.bool c.kn) n2); have cA := at_any c.fi fa fc c.L c.s.fd _ (own_fds HKP.out.1).1 hmx; rw [← HAT.out] at cA; have HSZ := hid (Nat.le_trans HS0.out (Nat.le_trans hb2.size (by simp : w2.heap.size ≤ (((w2.setCell ⟨B3, 16, none⟩ (.int .i64 c.fi)).setCell ⟨B3, 17, none⟩ (.slice fa c.L.length fc)).setCell ⟨B3, 18, none⟩ (.bool c.kn)).heap.size))); clear ho2 hb2 b0 b1 b2 b3 hbo))
      | (go_at_call 41; ((with_reducible refine cA.mono ?_); rintro e w3 ⟨rfl, hb3⟩; have hk3 : Block w3 B3 58 [.int .i64 c.s.op, .int .i64 c.s.fm, .int .i64 c.s.fd, .int .i64 c.s.pl, .int .i64 c.s.tt, .int .i64 c.s.a, .int .i64 c.s.b, .int .i64 c.s.f.id, .int .i64 c.s.f.kind, .int .i64 c.s.f.lo, .int .i64 c.s.f.hi, .int .i64 c.s.f.most, .int .i64 c.s.v.n, .string c.s.v.s, .slice ta c.s.t.length tc, .slice la c.s.l.length lc, .int .i64 c.fi, .slice fa c.L.length fc, .bool c.kn, .int .i64 0, .int .i64 0, .int .i64 0, .int .i64 0, .int .i64 0, .int .i64 0] := HK3.out.later hb3; have hk2 := HK2.out.later hb3; have x17 := hk3.cell 17; have x19 := hk3.cell 19; have g19 := hk3.frozen 19; have HKQ := hid ((HKP.out.later hb3 HSZ.out).cell (S := B3) (o := 19) (v := .int .i64 c.at_) HLB.out.2 HS3.out); have hm2 := hk2.apart B3 19 (.int .i64 c.at_) n2; have hm3 : Block (w3.setCell ⟨B3, 19, none⟩ (.int .i64 c.at_)) B3 58 [.int .i64 c.s.op, .int .i64 c.s.fm, .int .i64 c.s.fd, .int .i64 c.s.pl, .int .i64 c.s.tt, .int .i64 c.s.a, .int .i64 c.s.b, .int .i64 c.s.f.id, .int .i64 c.s.f.kind, .int .i64 c.s.f.lo, .int .i64 c.s.f.hi, .int .i64 c.s.f.most, .int .i64 c.s.v.n, .string c.s.v.s, .slice ta c.s.t.length tc, .slice la c.s.l.length lc, .int .i64 c.fi, .slice fa c.L.length fc, .bool c.kn, .int .i64 c.at_, .int .i64 0, .int .i64 0, .int .i64 0, .int .i64 0, .int .i64 0] := hk3.setCell 19 (.int .i64 c.at_); have HTH := hid (hm2.there 0 (#[.int .i64 c.s.op, .int .i64 c.s.fm, .int .i64 c.s.fd, .int .i64 c.s.pl, .int .i64 c.s.tt, .int .i64 c.s.a, .int .i64 c.s.b, .int .i64 c.s.f.id, .int .i64 c.s.f.kind, .int .i64 c.s.f.lo, .int .i64 c.s.f.hi, .int .i64 c.s.f.most, .int .i64 c.s.v.n, .string c.s.v.s, .slice ta c.s.t.length tc, .slice la c.s.l.length lc, .int .i64 c.fi, .slice fa c.L.length fc, .bool c.kn, .int .i64 c.at_, .int .i64 0, .int .i64 0, .int .i64 0, .int .i64 0, .int .i64 0] : Array Value).size (by simp)); have HRG := hid hm3.whole; have HM2 := hid hm2; clear hb3 hk3 hk2 hm2 hm3))
      | (with_reducible refine wpList_load_mid rfl 58 (.tmp 5) rfl B3 0 rfl [.int .i64 c.s.op, .int .i64 c.s.fm, .int .i64 c.s.fd, .int .i64 c.s.pl, .int .i64 c.s.tt, .int .i64 c.s.a, .int .i64 c.s.b, .int .i64 c.s.f.id, .int .i64 c.s.f.kind, .int .i64 c.s.f.lo, .int .i64 c.s.f.hi, .int .i64 c.s.f.most, .int .i64 c.s.v.n, .string c.s.v.s, .slice ta c.s.t.length tc, .slice la c.s.l.length lc, .int .i64 c.fi, .slice fa c.L.length fc, .bool c.kn, .int .i64 c.at_, .int .i64 0, .int .i64 0, .int .i64 0, .int .i64 0, .int .i64 0] _ HRG.out Try.underlying58 rfl (HIF.out _ _) ?_)
      | (with_reducible refine wpList_store_named rfl 58 (.tmp 4) (.tmp 34) rfl B2 0 #[.int .i64 c.s.op, .int .i64 c.s.fm, .int .i64 c.s.fd, .int .i64 c.s.pl, .int .i64 c.s.tt, .int .i64 c.s.a, .int .i64 c.s.b, .int .i64 c.s.f.id, .int .i64 c.s.f.kind, .int .i64 c.s.f.lo, .int .i64 c.s.f.hi, .int .i64 c.s.f.most, .int .i64 c.s.v.n, .string c.s.v.s, .slice ta c.s.t.length tc, .slice la c.s.l.length lc, .int .i64 c.fi, .slice fa c.L.length fc, .bool c.kn, .int .i64 c.at_, .int .i64 0, .int .i64 0, .int .i64 0, .int .i64 0, .int .i64 0] rfl rfl HTH.out (HIG.out _ _) (HON.out _ _) ?_))
    intro w4 hw4
    go_wp2
    have hB4 : Block w4 B2 58 [.int .i64 c.s.op, .int .i64 c.s.fm, .int .i64 c.s.fd, .int .i64 c.s.pl, .int .i64 c.s.tt, .int .i64 c.s.a, .int .i64 c.s.b, .int .i64 c.s.f.id, .int .i64 c.s.f.kind, .int .i64 c.s.f.lo, .int .i64 c.s.f.hi, .int .i64 c.s.f.most, .int .i64 c.s.v.n, .string c.s.v.s, .slice ta c.s.t.length tc, .slice la c.s.l.length lc, .int .i64 c.fi, .slice fa c.L.length fc, .bool c.kn, .int .i64 c.at_, .int .i64 0, .int .i64 0, .int .i64 0, .int .i64 0, .int .i64 0] := by
      have := HM2.out.setCells (vs := [.int .i64 c.s.op, .int .i64 c.s.fm, .int .i64 c.s.fd, .int .i64 c.s.pl, .int .i64 c.s.tt, .int .i64 c.s.a, .int .i64 c.s.b, .int .i64 c.s.f.id, .int .i64 c.s.f.kind, .int .i64 c.s.f.lo, .int .i64 c.s.f.hi, .int .i64 c.s.f.most, .int .i64 c.s.v.n, .string c.s.v.s, .slice ta c.s.t.length tc, .slice la c.s.l.length lc, .int .i64 c.fi, .slice fa c.L.length fc, .bool c.kn, .int .i64 c.at_, .int .i64 0, .int .i64 0, .int .i64 0, .int .i64 0, .int .i64 0]) (o := 0)
      rw [put_all _ _ (by simp)] at this
      rw [← hw4.out]
      exact this
    have hkp := HKQ.out.cells (S := B2) (o := 0) (vs := [.int .i64 c.s.op, .int .i64 c.s.fm, .int .i64 c.s.fd, .int .i64 c.s.pl, .int .i64 c.s.tt, .int .i64 c.s.a, .int .i64 c.s.b, .int .i64 c.s.f.id, .int .i64 c.s.f.kind, .int .i64 c.s.f.lo, .int .i64 c.s.f.hi, .int .i64 c.s.f.most, .int .i64 c.s.v.n, .string c.s.v.s, .slice ta c.s.t.length tc, .slice la c.s.l.length lc, .int .i64 c.fi, .slice fa c.L.length fc, .bool c.kn, .int .i64 c.at_, .int .i64 0, .int .i64 0, .int .i64 0, .int .i64 0, .int .i64 0]) HLB.out.1 HS2.out
    have hw5 := hw4.out
    rw [hw5] at hkp
    refine bodyPost_ret (results_cell (b := B2) (o := 0) rfl rfl hB4.whole Try.underlying58 rfl ch_info) rfl ?_
    exact ⟨_, _, by rw [HOE.out], (own_fds hkp.1).1, by rw [hB0.out]; exact hkp.2⟩
end Go.Proofs.Ytiajpjkkopdmgaa.typing
