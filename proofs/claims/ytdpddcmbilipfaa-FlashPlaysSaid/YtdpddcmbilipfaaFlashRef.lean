/- The reference's flash in the memory, and its contracts: mask, torn, Read, Power. No condition. -/
import Derived.Test.YtdpddcmbilipfaaFlashWrite
import Derived.Test.YtdpddcmbilipfaaFlashDo
namespace Go.Proofs.Ytdpddcmbilipfaa.flash
open Go.RowKit Go.Proofs.Ytdpddcmbilipfaa.word
set_option linter.unusedVariables false

def afterOf : Option (Nat × List Nat) → Int
  | none => -1
  | some (n, _) => n
def RFuse (S no : Nat → Prop) (fuse : Option (Nat × List Nat)) (cm : Value) (w : World) : Prop :=
  match fuse with
  | none => True
  | some (_, M) => MasksAt S no M.length M cm w
/-- the reference's flash at block g: its rows of words and of wear at gW, gV -/
structure RAt (S : Nat → Prop) (g : Nat) (F : Fl) (cm : Value) (gW cW gV cV : Nat) (w : World) : Prop where
  blk : Block w g 43 [.slice (some ⟨gW, 0, none⟩) F.ws.length cW, .int .i64 (F.long : Int), .slice (some ⟨gV, 0, none⟩) F.worn.length cV, .int .i64 (F.count : Int), .bool F.dark, .int .i64 (afterOf F.fuse), cm]
  fuse : RFuse S (at3 g gW gV) F.fuse cm w
  ws : Row w 32 .u32 gW cW F.ws
  wn : Row w 3 .i64 gV cV F.worn
  n1 : g ≠ gW
  n2 : g ≠ gV
  n3 : gW ≠ gV
  s1 : S g
  s2 : S gW
  s3 : S gV
def RefAt (S : Nat → Prop) (g : Nat) (F : Fl) (w : World) : Prop := ∃ cm gW cW gV cV, RAt S g F cm gW cW gV cV w
section
variable {S T no : Nat → Prop} {g : Nat} {F : Fl} {cm : Value} {gW cW gV cV : Nat} {w w' : World} {fuse : Option (Nat × List Nat)}
theorem RFuse.only (h : RFuse S no fuse cm w) (k : Only T w w') (hT : ∀ x, T x → S x → no x) : RFuse S no fuse cm w' := by
  match fuse, h with
  | none, h => trivial
  | some (n, M), h => exact MasksAt.only h k hT
theorem RAt.mem (h : RAt S g F cm gW cW gV cV w) (x : Nat) (hx : at3 g gW gV x) : S x := by
  rcases hx with e | e | e
  · rw [e]; exact h.s1
  · rw [e]; exact h.s2
  · rw [e]; exact h.s3
theorem RAt.only (h : RAt S g F cm gW cW gV cV w) (k : Only T w w') (hT : ∀ x, T x → ¬ S x) : RAt S g F cm gW cW gV cV w' :=
  ⟨h.blk.only k (fun ht => hT _ ht h.s1), h.fuse.only k (fun x ht hs => absurd hs (hT x ht)), h.ws.only k (fun ht => hT _ ht h.s2), h.wn.only k (fun ht => hT _ ht h.s3), h.n1, h.n2, h.n3, h.s1, h.s2, h.s3⟩
theorem RAt.later (h : RAt S g F cm gW cW gV cV w) (k : Below w.heap.size w w') : RAt S g F cm gW cW gV cV w' := h.only (T := fun _ => False) (Only.of k) (fun _ h => h.elim)
theorem RAt.drewN (h : RAt S g F cm gW cW gV cV w) (n : Nat) : RAt S g F cm gW cW gV cV (w.drewN n) := h.later (below_drewN (Below.refl _ _) n)
theorem RAt.clip (h : RAt S g F cm gW cW gV cV w) : RAt (fun x => S x ∧ x < w.heap.size) g F cm gW cW gV cV w := by
  refine ⟨h.blk, ?_, h.ws, h.wn, h.n1, h.n2, h.n3, ⟨h.s1, h.blk.lt⟩, ⟨h.s2, h.ws.lt⟩, ⟨h.s3, h.wn.lt⟩⟩
  have hf := h.fuse
  unfold RFuse at hf ⊢
  split
  · trivial
  · rename_i n M e
    rw [e] at hf
    obtain ⟨a, c, h3, h0, h4, h5⟩ := hf
    refine ⟨a, c, h3, h0, h4, ?_⟩
    rcases h5 with hz | ⟨x, hx, h6, h7⟩
    · exact .inl hz
    · rcases h4.2 with hz | ⟨b', off, ha, hlt, _⟩
      · exact .inl hz
      · rw [hx] at ha
        cases ha
        exact .inr ⟨_, hx, ⟨h6, hlt⟩, h7⟩
theorem RefAt.only (h : RefAt S g F w) (k : Only T w w') (hT : ∀ x, T x → ¬ S x) : RefAt S g F w' := by
  obtain ⟨cm, gW, cW, gV, cV, h⟩ := h
  exact ⟨cm, gW, cW, gV, cV, h.only k hT⟩
theorem RefAt.later (h : RefAt S g F w) (k : Below w.heap.size w w') : RefAt S g F w' := by
  obtain ⟨cm, gW, cW, gV, cV, h⟩ := h
  exact ⟨cm, gW, cW, gV, cV, h.later k⟩
theorem RAt.cell (h : RAt S g F cm gW cW gV cV w) : w.cell? ⟨g, 0, none⟩ = some (.slice (some ⟨gW, 0, none⟩) F.ws.length cW) ∧ w.cell? ⟨g, 1, none⟩ = some (.int .i64 (F.long : Int)) ∧ w.cell? ⟨g, 2, none⟩ = some (.slice (some ⟨gV, 0, none⟩) F.worn.length cV) ∧
    w.cell? ⟨g, 3, none⟩ = some (.int .i64 (F.count : Int)) ∧ w.cell? ⟨g, 4, none⟩ = some (.bool F.dark) ∧ w.cell? ⟨g, 5, none⟩ = some (.int .i64 (afterOf F.fuse)) ∧ w.cell? ⟨g, 6, none⟩ = some cm := by
  simp only [h.blk.cell]
  exact ⟨rfl, rfl, rfl, rfl, rfl, rfl, rfl⟩
theorem RAt.put (h : RAt S g F cm gW cW gV cV w) (o : Nat) (v : Value) : Only (fun x => x = g) w (w.setCell ⟨g, o, none⟩ v) := (Only.refl (fun x => x = g) w).setCell (.inl rfl) o v
theorem RAt.word (h : RAt S g F cm gW cW gV cV w) {i : Nat} (hi : i < F.ws.length) (v : Nat) : RAt S g { F with ws := F.ws.set i v } cm gW cW gV cV (w.setCell ⟨gW, i, none⟩ (.int .u32 (v : Int))) := by
  have ho : Only (fun x => x = gW) w (w.setCell ⟨gW, i, none⟩ (.int .u32 (v : Int))) := (Only.refl (fun x => x = gW) w).setCell (.inl rfl) i _
  refine ⟨?_, h.fuse.only ho (by rintro x rfl _; exact .inr (.inl rfl)), h.ws.set hi v, h.wn.apart _ _ _ h.n3.symm, h.n1, h.n2, h.n3, h.s1, h.s2, h.s3⟩
  have := h.blk.apart gW i (.int .u32 (v : Int)) h.n1
  simpa using this
theorem RAt.wear (h : RAt S g F cm gW cW gV cV w) {i : Nat} (hi : i < F.worn.length) (v : Nat) : RAt S g { F with worn := F.worn.set i v } cm gW cW gV cV (w.setCell ⟨gV, i, none⟩ (.int .i64 (v : Int))) := by
  have ho : Only (fun x => x = gV) w (w.setCell ⟨gV, i, none⟩ (.int .i64 (v : Int))) := (Only.refl (fun x => x = gV) w).setCell (.inl rfl) i _
  refine ⟨?_, h.fuse.only ho (by rintro x rfl _; exact .inr (.inr rfl)), h.ws.apart _ _ _ h.n3, h.wn.set hi v, h.n1, h.n2, h.n3, h.s1, h.s2, h.s3⟩
  have := h.blk.apart gV i (.int .i64 (v : Int)) h.n2
  simpa using this
/-- cells of the flash's own block turned -/
theorem RAt.own (h : RAt S g F cm gW cW gV cV w) {G : Fl} (hb : Block w' g 43 [.slice (some ⟨gW, 0, none⟩) F.ws.length cW, .int .i64 (F.long : Int), .slice (some ⟨gV, 0, none⟩) F.worn.length cV, .int .i64 (G.count : Int), .bool G.dark, .int .i64 (afterOf G.fuse), cm])
    (hw : G.ws = F.ws) (hl : G.long = F.long) (hv : G.worn = F.worn) (hO : Only (fun x => x = g) w w') (hf : RFuse S (at3 g gW gV) G.fuse cm w) : RAt S g G cm gW cW gV cV w' := by
  refine ⟨by rw [hw, hl, hv]; exact hb, hf.only hO (by rintro x rfl _; exact .inl rfl), by rw [hw]; exact h.ws.only hO h.n1.symm, by rw [hv]; exact h.wn.only hO h.n2.symm, h.n1, h.n2, h.n3, h.s1, h.s2, h.s3⟩
end
theorem refMask_any {S no : Nat → Prop} {g : Nat} {M : List Nat} {cm : Value} {w : World} (hm : MasksAt S no M.length M cm w) (hc : w.cell? ⟨g, 6, none⟩ = some cm) (i : Nat) (hi : i ≤ 1048576) (hL : M.length ≤ 140737488355328) :
    Calls Try.prog 44 #[.pointer (some ⟨g, 0, none⟩), .int .i64 (i : Int)] w (Quiet (.int .u32 (maskAt M i : Nat)) w) := by
  obtain ⟨a, c, rfl, _, hr, _⟩ := hm
  rw [Nat.min_self, List.take_of_length_le (Nat.le_refl _)] at hr
  rw [Nat.min_self] at hc
  by_cases h0 : M.length = 0
  · rw [maskAt, if_pos h0]
    rw [h0] at hc
    clear hr hL
    go_enter Try.func44, Try.ntmps44
    go_wp2
    go_ret
    exact ⟨rfl, 0, rfl⟩
  · rw [maskAt, if_neg h0]
    generalize hn : M.length = n at *
    have hlt : i % n < n := Nat.mod_lt _ (by omega)
    obtain ⟨b2, off, rfl, _, hcell⟩ := hr.at hlt
    have c2 := hcell (i % n) hlt
    have hpos : 0 < n := by omega
    clear hr hcell
    generalize M.getD (i % n) 0 = x at *
    generalize hq : i % n = q at *
    have hq2 : (i : Int) % (n : Int) = (q : Int) := by omega
    clear hn hq h0
    go_enter Try.func44, Try.ntmps44
    go_wp2
    go_quiet (fail)
    go_wp2
    go_ret
    exact ⟨rfl, nq, rfl⟩
/-- the call answers v; the reference's flash becomes F; what turns is its own -/
def RTurned (S : Nat → Prop) (g : Nat) (F : Fl) (cm : Value) (gW cW gV cV : Nat) (v : Value) (w : World) (e : Ending) (w' : World) : Prop :=
  e = .returned v ∧ RAt S g F cm gW cW gV cV w' ∧ Only (at3 g gW gV) w w'
theorem torn_yes {S : Nat → Prop} {g : Nat} {F : Fl} {cm : Value} {gW cW gV cV : Nat} {w : World} (h : RAt S g F cm gW cW gV cV w) (hcount : F.count < 4611686018427387904) (M : List Nat) (ht : F.fuse = some (0, M)) :
    Calls Try.prog 43 #[.pointer (some ⟨g, 0, none⟩)] w fun e w' => RTurned S g { F with count := F.count + 1, dark := true, fuse := none } cm gW cW gV cV (.bool true) w e w' ∧ MasksAt S (at3 g gW gV) M.length M cm w' := by
  obtain ⟨_, _, _, c3, c4, c5, _⟩ := h.cell
  have f3 := h.blk.frozen 3
  have f4 := h.blk.frozen 4
  have f5 := h.blk.frozen 5
  rw [ht] at c5
  have c5' : w.cell? ⟨g, 5, none⟩ = some (.int .i64 0) := c5
  have hfu := h.fuse
  rw [ht] at hfu
  have HO : Hid (Only (fun x => x = g) w (((w.setCell ⟨g, 3, none⟩ (.int .i64 ((F.count : Int) + 1))).setCell ⟨g, 4, none⟩ (.bool true)).setCell ⟨g, 5, none⟩ (.int .i64 (-1)))) := hid ((((Only.refl (fun x => x = g) w).setCell (.inl rfl) _ _).setCell (.inl rfl) _ _).setCell (.inl rfl) _ _)
  have HR : Hid (RAt S g { F with count := F.count + 1, dark := true, fuse := none } cm gW cW gV cV (((w.setCell ⟨g, 3, none⟩ (.int .i64 ((F.count : Int) + 1))).setCell ⟨g, 4, none⟩ (.bool true)).setCell ⟨g, 5, none⟩ (.int .i64 (-1)))) :=
    hid (h.own (((h.blk.setCell 3 _).setCell 4 _).setCell 5 _) rfl rfl rfl HO.out trivial)
  have HM : Hid (MasksAt S (at3 g gW gV) M.length M cm (((w.setCell ⟨g, 3, none⟩ (.int .i64 ((F.count : Int) + 1))).setCell ⟨g, 4, none⟩ (.bool true)).setCell ⟨g, 5, none⟩ (.int .i64 (-1)))) := hid (MasksAt.only hfu HO.out (by rintro x rfl _; exact .inl rfl))
  clear h ht hfu c5
  go_enter Try.func43, Try.ntmps43
  go_wp2
  go_ret
  exact ⟨⟨rfl, HR.out, HO.out.mono fun x hx _ => .inl hx⟩, HM.out⟩
theorem torn_no {S : Nat → Prop} {g : Nat} {F : Fl} {cm : Value} {gW cW gV cV : Nat} {w : World} (h : RAt S g F cm gW cW gV cV w) (hfm : ∀ n M, F.fuse = some (n, M) → n ≤ 9223372036854775807) (hd : F.dark = false) (hcount : F.count < 4611686018427387904) (ht : tears F.fuse = none) :
    Calls Try.prog 43 #[.pointer (some ⟨g, 0, none⟩)] w (RTurned S g { F with count := F.count + 1, fuse := burnt F.fuse } cm gW cW gV cV (.bool false) w) := by
  obtain ⟨_, _, _, c3, c4, c5, _⟩ := h.cell
  have f3 := h.blk.frozen 3
  have f5 := h.blk.frozen 5
  rw [hd] at c4
  have hfu := h.fuse
  match hF : F.fuse with
  | none =>
    rw [hF] at c5 hfu
    have c5' : w.cell? ⟨g, 5, none⟩ = some (.int .i64 (-1)) := c5
    have HO : Hid (Only (fun x => x = g) w (w.setCell ⟨g, 3, none⟩ (.int .i64 ((F.count : Int) + 1)))) := hid ((Only.refl (fun x => x = g) w).setCell (.inl rfl) _ _)
    have hblk := h.blk.setCell 3 (.int .i64 ((F.count : Int) + 1))
    rw [hF] at hblk
    have HR : Hid (RAt S g { F with count := F.count + 1, fuse := burnt none } cm gW cW gV cV (w.setCell ⟨g, 3, none⟩ (.int .i64 ((F.count : Int) + 1)))) :=
      hid (h.own hblk rfl rfl rfl HO.out trivial)
    clear h ht hfu c5 hblk hF hfm
    go_enter Try.func43, Try.ntmps43
    go_wp2
    go_ret
    exact ⟨rfl, HR.out, HO.out.mono fun x hx _ => .inl hx⟩
  | some (0, M) => rw [hF] at ht; cases ht
  | some (n + 1, M) =>
    have hn := hfm _ _ hF
    rw [hF] at c5 hfu
    have c5' : w.cell? ⟨g, 5, none⟩ = some (.int .i64 ((n : Int) + 1)) := c5
    have HO : Hid (Only (fun x => x = g) w ((w.setCell ⟨g, 3, none⟩ (.int .i64 ((F.count : Int) + 1))).setCell ⟨g, 5, none⟩ (.int .i64 (n : Int)))) := hid (((Only.refl (fun x => x = g) w).setCell (.inl rfl) _ _).setCell (.inl rfl) _ _)
    have HR : Hid (RAt S g { F with count := F.count + 1, fuse := burnt (some (n + 1, M)) } cm gW cW gV cV ((w.setCell ⟨g, 3, none⟩ (.int .i64 ((F.count : Int) + 1))).setCell ⟨g, 5, none⟩ (.int .i64 (n : Int)))) :=
      hid (h.own ((h.blk.setCell 3 _).setCell 5 _) rfl rfl rfl HO.out hfu)
    have hn0 : ¬ ((n : Int) + 1 = 0) := by omega
    have hn1 : 0 ≤ (n : Int) + 1 := by omega
    clear h ht hfu c5 hF hfm
    go_enter Try.func43, Try.ntmps43
    go_wp2
    go_ret
    exact ⟨rfl, HR.out, HO.out.mono fun x hx _ => .inl hx⟩
theorem refRead_any {S : Nat → Prop} {g : Nat} {F : Fl} {cm : Value} {gW cW gV cV : Nat} {w : World} (h : RAt S g F cm gW cW gV cV w) (ok : F.Ok) (a : Int) :
    Calls Try.prog 35 #[.pointer (some ⟨g, 0, none⟩), .int .i64 a] w (Quiet (.tuple #[.int .u32 ((F.read a).1 : Nat), .int .i64 (F.read a).2]) w) := by
  obtain ⟨c0, _, _, _, c4, _, _⟩ := h.cell
  have hn := ok.ws_le
  have hrow := h.ws
  clear h ok
  cases hd : F.dark with
  | true =>
    rw [hd] at c4
    have e : F.read a = (0, 10) := by rw [Fl.read, if_pos hd]
    rw [e]
    clear hd e hrow c0
    go_enter Try.func35, Try.ntmps35
    go_wp2
    go_ret2
    exact ⟨rfl, 0, rfl⟩
  | false =>
    rw [hd] at c4
    by_cases h0 : a < 0
    · have e : F.read a = (0, 3) := by rw [Fl.read, if_neg (by simp [hd]), if_pos (.inl h0)]
      rw [e]
      clear hd e hrow
      go_enter Try.func35, Try.ntmps35
      go_wp2
      go_ret2
      exact ⟨rfl, 0, rfl⟩
    · by_cases h1 : (F.ws.length : Int) ≤ a
      · have e : F.read a = (0, 3) := by rw [Fl.read, if_neg (by simp [hd]), if_pos (.inr h1)]
        rw [e]
        clear hd e hrow
        generalize F.ws.length = n at *
        go_enter Try.func35, Try.ntmps35
        go_wp2
        go_ret2
        exact ⟨rfl, 0, rfl⟩
      · obtain ⟨k, rfl⟩ := Int.eq_ofNat_of_zero_le (show 0 ≤ a by omega)
        have hk : k < F.ws.length := by omega
        have hc := hrow.get hk
        have e : F.read k = (F.ws.getD k 0, 0) := by rw [Fl.read, if_neg (by simp [hd]), if_neg (by omega), Int.toNat_natCast]
        rw [e]
        have H3 : (k : Int) < F.ws.length := by omega
        clear hd e hrow h1
        generalize F.ws.getD k 0 = x at *
        generalize F.ws.length = n at *
        go_enter Try.func35, Try.ntmps35
        go_wp2
        go_ret2
        exact ⟨rfl, 0, rfl⟩
theorem refPower_any {S : Nat → Prop} {g : Nat} {F : Fl} {cm : Value} {gW cW gV cV : Nat} {w : World} (h : RAt S g F cm gW cW gV cV w) :
    Calls Try.prog 37 #[.pointer (some ⟨g, 0, none⟩)] w (RTurned S g F.power cm gW cW gV cV (.tuple #[]) w) := by
  obtain ⟨_, _, _, _, c4, c5, _⟩ := h.cell
  have f4 := h.blk.frozen 4
  have f5 := h.blk.frozen 5
  have HO : Hid (Only (fun x => x = g) w ((w.setCell ⟨g, 4, none⟩ (.bool false)).setCell ⟨g, 5, none⟩ (.int .i64 (-1)))) := hid (((Only.refl (fun x => x = g) w).setCell (.inl rfl) _ _).setCell (.inl rfl) _ _)
  have HR : Hid (RAt S g F.power cm gW cW gV cV ((w.setCell ⟨g, 4, none⟩ (.bool false)).setCell ⟨g, 5, none⟩ (.int .i64 (-1)))) := hid (h.own ((h.blk.setCell 4 _).setCell 5 _) rfl rfl rfl HO.out trivial)
  clear h
  go_enter Try.func37, Try.ntmps37
  go_wp2
  exact ret0 rfl rfl ⟨rfl, HR.out, HO.out.mono fun x hx _ => .inl hx⟩
theorem lawWear_any {S : Nat → Prop} {g : Nat} {F : Fl} {cm : Value} {gW cW gV cV : Nat} {w : World} (h : RAt S g F cm gW cW gV cV w) (ok : F.Ok) (s : Int) :
    Calls Try.prog 17 #[.pointer (some ⟨g, 0, none⟩), .int .i64 s] w (Quiet (.int .i64 (wearAt F.worn s : Nat)) w) := by
  have h2 : w.cell? ⟨g, 2, none⟩ = some (.slice (some ⟨gV, 0, none⟩) F.worn.length cV) := h.cell.2.2.1
  have hr := h.wn
  have hl := ok.s2
  clear h ok
  generalize F.worn = worn at *
  by_cases h0 : s < 0
  · rw [wearAt, if_pos (.inl h0)]
    go_enter Try.func17, Try.ntmps17
    go_wp2
    go_ret
    exact ⟨rfl, 0, rfl⟩
  · by_cases h1 : (worn.length : Int) ≤ s
    · rw [wearAt, if_pos (.inr h1)]
      generalize worn.length = n at *
      go_enter Try.func17, Try.ntmps17
      go_wp2
      go_ret
      exact ⟨rfl, 0, rfl⟩
    · obtain ⟨k, rfl⟩ := Int.eq_ofNat_of_zero_le (show 0 ≤ s by omega)
      have hk : k < worn.length := by omega
      have hc := hr.get hk
      rw [wearAt, if_neg (by omega), Int.toNat_natCast]
      generalize worn.getD k 0 = x at *
      have H3 : (k : Int) < worn.length := by omega
      clear hr h1
      generalize worn.length = n at *
      go_enter Try.func17, Try.ntmps17
      go_wp2
      go_ret
      exact ⟨rfl, 0, rfl⟩
end Go.Proofs.Ytdpddcmbilipfaa.flash
