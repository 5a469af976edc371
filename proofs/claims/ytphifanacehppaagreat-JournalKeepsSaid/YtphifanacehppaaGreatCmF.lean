/- Contracts and lemmas that the claims of this seat share: FlashDid, GeomCheck, GeomSectors, DriveHold, DriveReady, DriveRead, DriveWrite, DriveClean, DriveFresh. Each says its own conditions. -/
import Derived.Test.YtphifanacehppaaGreatCmE
import Derived.Test.YtphifanacehppaaGreatCmB
import Derived.Test.YtphifanacehppaaGreatCmC
import Derived.IntWalk
import Derived.Handy
import Derived.BigQuiet
import Derived.WalkMore
/- Contracts of the flash's writes in one form: what is answered, what the flash becomes, and what else turns. No condition but a flash with fewer than 2^62 writes. -/
namespace Go.Proofs.YtphifanacehppaaGreat.flash
open Go.RowKit Go.Proofs.YtphifanacehppaaGreat.word
set_option linter.unusedVariables false

/-- the call answers v, the flash becomes F; only what the flash had in S turns -/
def Did (S : Nat → Prop) (b : Nat) (F : Fl) (v : Value) (w : World) (e : Ending) (w' : World) : Prop :=
  e = .returned v ∧ ∃ S', FlashAt S' b F w' ∧ (∀ x, S' x → x < w'.heap.size ∧ (S x ∨ w.heap.size ≤ x)) ∧ Only S w w'
theorem At.clip {S : Nat → Prop} {b : Nat} {F : Fl} {ca cb cm : Value} {bw cw bv cv : Nat} {w : World} (h : At S b F ca cb cm bw cw bv cv w) : At (fun x => S x ∧ x < w.heap.size) b F ca cb cm bw cw bv cv w := by
  refine ⟨h.blk, ?_, h.ws, h.wn, h.n1, h.n2, h.n3, ⟨h.s1, h.blk.lt⟩, ⟨h.s2, h.ws.lt⟩, ⟨h.s3, h.wn.lt⟩⟩
  have hf := h.fuse
  unfold FuseAt at hf ⊢
  split
  · rename_i e; rw [e] at hf; exact hf
  · rename_i n M e
    rw [e] at hf
    obtain ⟨h1, h2, a, c, h3, h0, h4, h5⟩ := hf
    refine ⟨h1, h2, a, c, h3, h0, h4, ?_⟩
    rcases h5 with hz | ⟨x, hx, h6, h7⟩
    · exact .inl hz
    · rcases h4.2 with hz | ⟨b', off, ha, hlt, _⟩
      · exact .inl hz
      · rw [hx] at ha
        cases ha
        exact .inr ⟨_, hx, ⟨h6, hlt⟩, h7⟩
theorem Turned.did {S : Nat → Prop} {b : Nat} {F G : Fl} {ca cb cm : Value} {bw cw bv cv : Nat} {w : World} (h : At S b F ca cb cm bw cw bv cv w) {v : Value} {e : Ending} {w' : World} (k : Turned S b G bw cw bv cv v w e w') : Did S b G v w e w' := by
  obtain ⟨he, ca', cb', cm', hA, hO⟩ := k
  exact ⟨he, _, ⟨_, _, _, _, _, _, _, hA.clip⟩, fun x hx => ⟨hx.2, .inl hx.1⟩, hO.mono fun x hx _ => h.mem x hx⟩
theorem Quiet.did {S : Nat → Prop} {b : Nat} {F : Fl} {w : World} (h : FlashAt S b F w) {v : Value} {e : Ending} {w' : World} (k : Quiet v w e w') : Did S b F v w e w' := by
  obtain ⟨he, n, rfl⟩ := k
  obtain ⟨ca, cb, cm, bw, cw, bv, cv, h⟩ := h
  exact ⟨he, _, ⟨_, _, _, _, _, _, _, (h.drewN n).clip⟩, fun x hx => ⟨hx.2, .inl hx.1⟩, (Only.refl _ _).drewN n⟩
section
variable {S : Nat → Prop} {b : Nat} {F : Fl} {w : World}
theorem program_did (h : FlashAt S b F w) (ok : F.Ok) (hc : F.count < 4611686018427387904) (a : Int) (x : Nat) (hx : x < 4294967296) :
    Calls Tryz.prog 97 #[.pointer (some ⟨b, 0, none⟩), .int .i64 a, .int .u32 x] w (Did S b (F.program a x).2 (.int .i64 (F.program a x).1) w) := by
  obtain ⟨ca, cb, cm, bw, cw, bv, cv, h⟩ := h
  exact (program_any h ok hc a x hx).mono fun e w' k => k.did h
theorem erase_did (h : FlashAt S b F w) (ok : F.Ok) (hc : F.count < 4611686018427387904) (s : Int) :
    Calls Tryz.prog 78 #[.pointer (some ⟨b, 0, none⟩), .int .i64 s] w (Did S b (F.erase s).2 (.int .i64 (F.erase s).1) w) := by
  obtain ⟨ca, cb, cm, bw, cw, bv, cv, h⟩ := h
  exact (erase_any h ok hc s).mono fun e w' k => k.did h
theorem power_did (h : FlashAt S b F w) : Calls Tryz.prog 15 #[.pointer (some ⟨b, 0, none⟩)] w (Did S b F.power (.tuple #[]) w) := by
  obtain ⟨ca, cb, cm, bw, cw, bv, cv, h⟩ := h
  exact (power_any h).mono fun e w' k => k.did h
theorem arm_did (h : FlashAt S b F w) (ok : F.Ok) (n : Int) (hn : n ≤ 9223372036854775807) (a : Option Addr) (len cap : Nat) (M : List Nat) (hr : Reads .u32 w a len M) (hlc : len ≤ cap) (hlen : len ≤ 140737488355328) (hcap : cap ≤ maxLen) (hsep : len = 0 ∨ ∃ x, a = some x ∧ ¬ S x.block) :
    Calls Tryz.prog 13 #[.pointer (some ⟨b, 0, none⟩), .int .i64 n, .slice a len cap] w (Did S b (F.arm n M) (.tuple #[]) w) := by
  obtain ⟨ca, cb, cm, bw, cw, bv, cv, h⟩ := h
  refine (arm_any h ok n hn a len cap M hr hlc hlen hcap hsep).mono ?_
  rintro e w' ⟨rfl, ⟨ca', cb', cm', hA⟩, hO⟩
  exact ⟨rfl, _, ⟨_, _, _, _, _, _, _, hA.clip⟩, fun x hx => ⟨hx.2, hx.1⟩, hO.mono fun x hx _ => h.mem x hx⟩
theorem read_quiet (h : FlashAt S b F w) (ok : F.Ok) (a : Int) : Calls Tryz.prog 67 #[.pointer (some ⟨b, 0, none⟩), .int .i64 a] w (Quiet (.tuple #[.int .u32 ((F.read a).1 : Nat), .int .i64 (F.read a).2]) w) := by
  obtain ⟨ca, cb, cm, bw, cw, bv, cv, h⟩ := h
  exact read_any h ok a
theorem Did.before {G : Fl} {v : Value} {w1 w' : World} {e : Ending} (hb : Below w.heap.size w w1) (k : Did S b G v w1 e w') : Did S b G v w e w' := by
  obtain ⟨he, S', h1, h2, h3⟩ := k
  exact ⟨he, S', h1, fun x hx => ⟨(h2 x hx).1, (h2 x hx).2.imp id fun h => Nat.le_trans hb.size h⟩, (Only.of hb).next h3 fun x hx _ => hx⟩
theorem Did.value {G : Fl} {v v' : Value} {w' : World} {e : Ending} (k : Did S b G v w e w') : Did S b G v' w (.returned v') w' := ⟨rfl, k.2⟩
end
end Go.Proofs.YtphifanacehppaaGreat.flash
/- Contracts of layer 8 (geom): within, Check, pages, Sectors, Ledger, Chunk, Page. No condition. -/
namespace Go.Proofs.YtphifanacehppaaGreat.geom
open Go.RowKit
set_option linter.unusedVariables false

theorem within_yes (n lo hi : Int) (w : World) (h1 : lo ≤ n) (h2 : n ≤ hi) : Calls Tryz.prog 75 #[.int .i64 n, .int .i64 lo, .int .i64 hi] w fun e w' => e = .returned (.bool true) ∧ w = w' := by
  go_enter Tryz.func75, Tryz.ntmps75
  go_wp2
  go_ret
  exact ⟨rfl, rfl⟩
theorem within_no (n lo hi : Int) (w : World) (h : n < lo ∨ hi < n) : Calls Tryz.prog 75 #[.int .i64 n, .int .i64 lo, .int .i64 hi] w fun e w' => e = .returned (.bool false) ∧ w = w' := by
  by_cases h1 : n < lo
  · clear h
    go_enter Tryz.func75, Tryz.ntmps75
    go_wp2
    go_ret
    exact ⟨rfl, rfl⟩
  · have h2 : hi < n := by omega
    have h3 : lo ≤ n := by omega
    have hd : decide (n ≤ hi) = false := decide_eq_false (by omega)
    clear h h1
    go_enter Tryz.func75, Tryz.ntmps75
    go_wp2
    go_ret
    exact ⟨rfl, rfl⟩
theorem check_yes (g : Geo) (h : g.Right) (w : World) : Calls Tryz.prog 52 #[.agg #[.int .i64 g.sector, .int .i64 g.slot, .int .i64 g.data, .int .i64 g.quota, .int .i64 g.tries, .int .i64 g.life]] w fun e w' => e = .returned (.int .i64 0) ∧ Below w.heap.size w w' := by
  obtain ⟨⟨h1, h2⟩, ⟨h3, h4⟩, ⟨h5, h6⟩, ⟨h7, h8⟩, ⟨h9, h10⟩, ⟨h11, h12⟩⟩ := h
  go_enter Tryz.func52, Tryz.ntmps52
  go_wp2_with (go_at_call 75; (with_reducible refine (within_yes _ _ _ _ (by omega) (by omega)).mono ?_); rintro e w' ⟨rfl, rfl⟩)
  go_ret
  exact ⟨rfl, (Below.refl _ _).alloc (Nat.le_refl _) _⟩
theorem check_no (g : Geo) (h : ¬ g.Right) (w : World) : Calls Tryz.prog 52 #[.agg #[.int .i64 g.sector, .int .i64 g.slot, .int .i64 g.data, .int .i64 g.quota, .int .i64 g.tries, .int .i64 g.life]] w fun e w' => e = .returned (.int .i64 2) ∧ Below w.heap.size w w' := by
  rcases Geo.wrong h with h | h | h | h | h | h
  all_goals
    rename_i hr
    clear hr
    go_enter Tryz.func52, Tryz.ntmps52
    go_wp2_with (go_at_call 75; (first
      | ((with_reducible refine (within_yes _ _ _ _ (by omega) (by omega)).mono ?_); rintro e w' ⟨rfl, rfl⟩)
      | ((with_reducible refine (within_no _ _ _ _ (by omega)).mono ?_); rintro e w' ⟨rfl, rfl⟩)))
    go_ret
    exact ⟨rfl, (Below.refl _ _).alloc (Nat.le_refl _) _⟩
end Go.Proofs.YtphifanacehppaaGreat.geom
/- Contracts of layer 8 (geom): pages, Sectors. No condition. -/
namespace Go.Proofs.YtphifanacehppaaGreat.geom
open Go.RowKit
set_option linter.unusedVariables false

/-- a geometry that has just been boxed stays -/
theorem six (g : Geo) (w w' : World) (hb : Below (w.alloc (.cells #[.int .i64 g.sector, .int .i64 g.slot, .int .i64 g.data, .int .i64 g.quota, .int .i64 g.tries, .int .i64 g.life] 23)).heap.size (w.alloc (.cells #[.int .i64 g.sector, .int .i64 g.slot, .int .i64 g.data, .int .i64 g.quota, .int .i64 g.tries, .int .i64 g.life] 23)) w') : (w'.cell? ⟨w.heap.size, 0, none⟩ = some (.int .i64 g.sector) ∧ w'.cell? ⟨w.heap.size, 1, none⟩ = some (.int .i64 g.slot) ∧ w'.cell? ⟨w.heap.size, 2, none⟩ = some (.int .i64 g.data) ∧ w'.cell? ⟨w.heap.size, 3, none⟩ = some (.int .i64 g.quota) ∧ w'.cell? ⟨w.heap.size, 4, none⟩ = some (.int .i64 g.tries) ∧ w'.cell? ⟨w.heap.size, 5, none⟩ = some (.int .i64 g.life)) := by
  have hB := (Block.new w 23 [.int .i64 g.sector, .int .i64 g.slot, .int .i64 g.data, .int .i64 g.quota, .int .i64 g.tries, .int .i64 g.life]).later hb
  exact ⟨hB.cell 0, hB.cell 1, hB.cell 2, hB.cell 3, hB.cell 4, hB.cell 5⟩
theorem belowNew (g : Geo) (w w' : World) (hb : Below (w.alloc (.cells #[.int .i64 g.sector, .int .i64 g.slot, .int .i64 g.data, .int .i64 g.quota, .int .i64 g.tries, .int .i64 g.life] 23)).heap.size (w.alloc (.cells #[.int .i64 g.sector, .int .i64 g.slot, .int .i64 g.data, .int .i64 g.quota, .int .i64 g.tries, .int .i64 g.life] 23)) w') : Below w.heap.size w w' := ((Below.refl _ _).alloc (Nat.le_refl _) _).trans (hb.mono (by simp))
theorem pages_any (g : Geo) (h : g.Right) (w : World) : Calls Tryz.prog 76 #[.agg #[.int .i64 g.sector, .int .i64 g.slot, .int .i64 g.data, .int .i64 g.quota, .int .i64 g.tries, .int .i64 g.life]] w fun e w' => e = .returned (.int .i64 (2 + 2 * g.slot)) ∧ Below w.heap.size w w' := by
  obtain ⟨_, ⟨h3, h4⟩, _⟩ := h
  go_enter Tryz.func76, Tryz.ntmps76
  go_wp2
  go_ret
  exact ⟨rfl, (Below.refl _ _).alloc (Nat.le_refl _) _⟩
/-- the same, at whatever later world -/
theorem pages_at (g : Geo) (h : g.Right) (w0 w : World) (hb : Below w0.heap.size w0 w) : Calls Tryz.prog 76 #[.agg #[.int .i64 g.sector, .int .i64 g.slot, .int .i64 g.data, .int .i64 g.quota, .int .i64 g.tries, .int .i64 g.life]] w fun e w' => e = .returned (.int .i64 (2 + 2 * g.slot)) ∧ Below w0.heap.size w0 w' :=
  (pages_any g h w).mono fun _ _ ⟨he, hw⟩ => ⟨he, hb.trans (hw.mono hb.size)⟩
theorem check_yes_at (g : Geo) (h : g.Right) (w0 w : World) (hb : Below w0.heap.size w0 w) : Calls Tryz.prog 52 #[.agg #[.int .i64 g.sector, .int .i64 g.slot, .int .i64 g.data, .int .i64 g.quota, .int .i64 g.tries, .int .i64 g.life]] w fun e w' => e = .returned (.int .i64 0) ∧ Below w0.heap.size w0 w' :=
  (check_yes g h w).mono fun _ _ ⟨he, hw⟩ => ⟨he, hb.trans (hw.mono hb.size)⟩
theorem check_no_at (g : Geo) (h : ¬ g.Right) (w0 w : World) (hb : Below w0.heap.size w0 w) : Calls Tryz.prog 52 #[.agg #[.int .i64 g.sector, .int .i64 g.slot, .int .i64 g.data, .int .i64 g.quota, .int .i64 g.tries, .int .i64 g.life]] w fun e w' => e = .returned (.int .i64 2) ∧ Below w0.heap.size w0 w' :=
  (check_no g h w).mono fun _ _ ⟨he, hw⟩ => ⟨he, hb.trans (hw.mono hb.size)⟩
theorem sectors_any (g : Geo) (w : World) : Calls Tryz.prog 54 #[.agg #[.int .i64 g.sector, .int .i64 g.slot, .int .i64 g.data, .int .i64 g.quota, .int .i64 g.tries, .int .i64 g.life]] w fun e w' => e = .returned (.int .i64 g.sectors) ∧ Below w.heap.size w w' := by
  have HS := hid (six g w)
  have HB := hid (belowNew g w)
  have hb0 : Below (w.alloc (.cells #[.int .i64 g.sector, .int .i64 g.slot, .int .i64 g.data, .int .i64 g.quota, .int .i64 g.tries, .int .i64 g.life] 23)).heap.size (w.alloc (.cells #[.int .i64 g.sector, .int .i64 g.slot, .int .i64 g.data, .int .i64 g.quota, .int .i64 g.tries, .int .i64 g.life] 23)) (w.alloc (.cells #[.int .i64 g.sector, .int .i64 g.slot, .int .i64 g.data, .int .i64 g.quota, .int .i64 g.tries, .int .i64 g.life] 23)) := Below.refl _ _
  by_cases h : g.Right
  · rw [Geo.sectors, if_pos h]
    have cc := fun w1 hb => check_yes_at g h (w.alloc (.cells #[.int .i64 g.sector, .int .i64 g.slot, .int .i64 g.data, .int .i64 g.quota, .int .i64 g.tries, .int .i64 g.life] 23)) w1 hb
    have cp := fun w1 hb => pages_at g h (w.alloc (.cells #[.int .i64 g.sector, .int .i64 g.slot, .int .i64 g.data, .int .i64 g.quota, .int .i64 g.tries, .int .i64 g.life] 23)) w1 hb
    obtain ⟨_, ⟨h3, h4⟩, ⟨h5, h6⟩, ⟨h7, h8⟩, _⟩ := h
    go_enter Tryz.func54, Tryz.ntmps54
    go_wp2_with (go_at_call 52; (with_reducible refine (cc _ hb0).mono ?_); rintro e w1 ⟨rfl, hb1⟩)
    have hk1 := HS.out w1 hb1
    have hb1' : Below (w.alloc (.cells #[.int .i64 g.sector, .int .i64 g.slot, .int .i64 g.data, .int .i64 g.quota, .int .i64 g.tries, .int .i64 g.life] 23)).heap.size (w.alloc (.cells #[.int .i64 g.sector, .int .i64 g.slot, .int .i64 g.data, .int .i64 g.quota, .int .i64 g.tries, .int .i64 g.life] 23)) w1.drew := hb1.trans (below_drewN (Below.refl _ _) 1)
    have hk1' := HS.out w1.drew hb1'
    go_region_held3 (fun w' => (w'.cell? ⟨w.heap.size, 0, none⟩ = some (.int .i64 g.sector) ∧ w'.cell? ⟨w.heap.size, 1, none⟩ = some (.int .i64 g.slot) ∧ w'.cell? ⟨w.heap.size, 2, none⟩ = some (.int .i64 g.data) ∧ w'.cell? ⟨w.heap.size, 3, none⟩ = some (.int .i64 g.quota) ∧ w'.cell? ⟨w.heap.size, 4, none⟩ = some (.int .i64 g.tries) ∧ w'.cell? ⟨w.heap.size, 5, none⟩ = some (.int .i64 g.life))) (first | assumption | go_keep) ((go_at_call 76; (with_reducible refine (cp _ hb1').mono ?_); rintro e w2 ⟨rfl, hb2⟩; have hk2 := HS.out w2 hb2))
    go_wp2
    go_ret
    exact ⟨ret_int (IntWalk.i64_in _ (by omega)), HB.out _ hb2⟩
  · rw [Geo.sectors, if_neg h]
    have cc := fun w1 hb => check_no_at g h (w.alloc (.cells #[.int .i64 g.sector, .int .i64 g.slot, .int .i64 g.data, .int .i64 g.quota, .int .i64 g.tries, .int .i64 g.life] 23)) w1 hb
    clear h
    go_enter Tryz.func54, Tryz.ntmps54
    go_wp2_with (go_at_call 52; (with_reducible refine (cc _ hb0).mono ?_); rintro e w1 ⟨rfl, hb1⟩)
    go_ret
    exact ⟨rfl, HB.out _ hb1⟩
theorem sectors_at (g : Geo) (w0 w : World) (hb : Below w0.heap.size w0 w) : Calls Tryz.prog 54 #[.agg #[.int .i64 g.sector, .int .i64 g.slot, .int .i64 g.data, .int .i64 g.quota, .int .i64 g.tries, .int .i64 g.life]] w fun e w' => e = .returned (.int .i64 g.sectors) ∧ Below w0.heap.size w0 w' :=
  (sectors_any g w).mono fun _ _ ⟨he, hw⟩ => ⟨he, hb.trans (hw.mono hb.size)⟩
end Go.Proofs.YtphifanacehppaaGreat.geom
/- A drive in the memory, and its contracts: exists, ready, address, Geometry. No condition. -/
namespace Go.Proofs.YtphifanacehppaaGreat.drive
open Go.RowKit Go.Proofs.YtphifanacehppaaGreat.flash Go.Proofs.YtphifanacehppaaGreat.geom Go.Proofs.YtphifanacehppaaGreat.word
set_option linter.unusedVariables false

/-- the flash becomes F; only what the flash had in S turns -/
def Turn (S : Nat → Prop) (b : Nat) (F : Fl) (w w' : World) : Prop :=
  ∃ S', FlashAt S' b F w' ∧ (∀ x, S' x → x < w'.heap.size ∧ (S x ∨ w.heap.size ≤ x)) ∧ Only S w w'
section
variable {S : Nat → Prop} {b : Nat} {F G : Fl} {w w1 w' : World}
theorem FlashAt.clip {S : Nat → Prop} (h : FlashAt S b F w) : FlashAt (fun x => S x ∧ x < w.heap.size) b F w := by
  obtain ⟨ca, cb, cm, bw, cw, bv, cv, h⟩ := h
  exact ⟨_, _, _, _, _, _, _, h.clip⟩
theorem Turn.of (h : FlashAt S b F w) (k : Below w.heap.size w w') : Turn S b F w w' :=
  ⟨_, FlashAt.clip (h.later k), fun x hx => ⟨hx.2, .inl hx.1⟩, Only.of k⟩
theorem Turn.before (hb : Below w.heap.size w w1) (k : Turn S b F w1 w') : Turn S b F w w' := by
  obtain ⟨S', h1, h2, h3⟩ := k
  exact ⟨S', h1, fun x hx => ⟨(h2 x hx).1, (h2 x hx).2.imp id fun h => Nat.le_trans hb.size h⟩, (Only.of hb).next h3 fun x hx _ => hx⟩
theorem Turn.later (k : Turn S b F w w1) (hb : Below w1.heap.size w1 w') : Turn S b F w w' := by
  obtain ⟨S', h1, h2, h3⟩ := k
  exact ⟨S', h1.later hb, fun x hx => ⟨Nat.lt_of_lt_of_le (h2 x hx).1 hb.size, (h2 x hx).2⟩, h3.later hb⟩
theorem Turn.join {S' : Nat → Prop} (h2 : ∀ x, S' x → x < w1.heap.size ∧ (S x ∨ w.heap.size ≤ x)) (h3 : Only S w w1) (k : Turn S' b G w1 w') : Turn S b G w w' := by
  obtain ⟨S2, k1, k2, k3⟩ := k
  refine ⟨S2, k1, fun x hx => ⟨(k2 x hx).1, ?_⟩, h3.next k3 fun x hx hlt => ?_⟩
  · rcases (k2 x hx).2 with h | h
    · exact (h2 x h).2
    · exact .inr (Nat.le_trans h3.size h)
  · rcases (h2 x hx).2 with h | h
    · exact h
    · omega
theorem Turn.wide {T : Nat → Prop} (k : Turn S b F w w') (h : ∀ x, S x → T x) : Turn T b F w w' := by
  obtain ⟨S', h1, h2, h3⟩ := k
  exact ⟨S', h1, fun x hx => ⟨(h2 x hx).1, (h2 x hx).2.imp (h x) id⟩, h3.mono fun x hx _ => h x hx⟩
theorem Turn.next (k : Turn S b F w w1) (h : ∀ S', FlashAt S' b F w1 → (∀ x, S' x → x < w1.heap.size ∧ (S x ∨ w.heap.size ≤ x)) → Turn S' b G w1 w') : Turn S b G w w' := by
  obtain ⟨S', h1, h2, h3⟩ := k
  obtain ⟨S2, k1, k2, k3⟩ := h S' h1 h2
  refine ⟨S2, k1, fun x hx => ⟨(k2 x hx).1, ?_⟩, h3.next k3 fun x hx hlt => ?_⟩
  · rcases (k2 x hx).2 with h | h
    · exact (h2 x h).2
    · exact .inr (Nat.le_trans h3.size h)
  · rcases (h2 x hx).2 with h | h
    · exact h
    · omega
end
/-- the drive at block d: over the flash at b, with the geometry g -/
structure DriveAt (S : Nat → Prop) (d b : Nat) (g : Geo) (F : Fl) (w : World) : Prop where
  blk : Block w d 109 [.pointer (some ⟨b, 0, none⟩), .int .i64 g.sector, .int .i64 g.slot, .int .i64 g.data, .int .i64 g.quota, .int .i64 g.tries, .int .i64 g.life]
  fl : FlashAt S b F w
  nd : ¬ S d
section
variable {S T : Nat → Prop} {d b : Nat} {g : Geo} {F G : Fl} {w w1 w' : World}
theorem DriveAt.later (h : DriveAt S d b g F w) (k : Below w.heap.size w w') : DriveAt S d b g F w' := ⟨h.blk.later k, h.fl.later k, h.nd⟩
theorem DriveAt.cells (h : DriveAt S d b g F w) : w.cell? ⟨d, 0, none⟩ = some (.pointer (some ⟨b, 0, none⟩)) ∧ w.cell? ⟨d, 1, none⟩ = some (.int .i64 g.sector) ∧ w.cell? ⟨d, 2, none⟩ = some (.int .i64 g.slot) ∧ w.cell? ⟨d, 3, none⟩ = some (.int .i64 g.data) ∧ w.cell? ⟨d, 4, none⟩ = some (.int .i64 g.quota) ∧ w.cell? ⟨d, 5, none⟩ = some (.int .i64 g.tries) ∧ w.cell? ⟨d, 6, none⟩ = some (.int .i64 g.life) := by
  simp only [h.blk.cell]
  exact ⟨rfl, rfl, rfl, rfl, rfl, rfl, rfl⟩
theorem DriveAt.lt (h : DriveAt S d b g F w) : d < w.heap.size := h.blk.lt
/-- the drive, behind a call that turned the flash -/
theorem DriveAt.turn (h : DriveAt S d b g F w) (k : Turn S b G w w') : ∃ S', DriveAt S' d b g G w' ∧ (∀ x, S' x → x < w'.heap.size ∧ (S x ∨ w.heap.size ≤ x)) ∧ Only S w w' := by
  obtain ⟨S', h1, h2, h3⟩ := k
  refine ⟨S', ⟨h.blk.only h3 h.nd, h1, fun hs => ?_⟩, h2, h3⟩
  rcases (h2 d hs).2 with h4 | h4
  · exact h.nd h4
  · have := h.lt; omega
/-- what is done behind a call that turned the flash -/
theorem DriveAt.next {H : Fl} (h : DriveAt S d b g F w) (k : Turn S b G w w1) (r : ∀ S', DriveAt S' d b g G w1 → (∀ x, S' x → x < w1.heap.size ∧ (S x ∨ w.heap.size ≤ x)) → Turn S' b H w1 w') : Turn S b H w w' :=
  k.next fun S' h1 h2 => r S' ⟨h.blk.only (by obtain ⟨_, _, _, h3⟩ := k; exact h3) h.nd, h1, fun hs => by
    rcases (h2 d hs).2 with h4 | h4
    · exact h.nd h4
    · have := h.lt; omega⟩ h2
end
theorem gone_at {S : Nat → Prop} {b : Nat} {F : Fl} {w : World} (h : FlashAt S b F w) : Calls Tryz.prog 90 #[.pointer (some ⟨b, 0, none⟩)] w (Quiet (.bool F.dark) w) := by
  obtain ⟨ca, cb, cm, bw, cw, bv, cv, h⟩ := h
  exact gone_any b _ w h.cell.2.2.2.2.2.2.2
theorem address_any (d : Nat) (s a v : Int) (g : Geo) (w : World) (h1 : w.cell? ⟨d, 1, none⟩ = some (.int .i64 g.sector)) (hs : 0 ≤ s * g.sector ∧ s * g.sector ≤ 1048576) (ha : 0 ≤ a ∧ a ≤ 1048576) (hv : s * g.sector + a = v) :
    Calls Tryz.prog 68 #[.pointer (some ⟨d, 0, none⟩), .int .i64 s, .int .i64 a] w (Quiet (.int .i64 v) w) := by
  subst hv
  obtain ⟨p, hp⟩ : ∃ p, s * g.sector = p := ⟨_, rfl⟩
  rw [hp] at hs ⊢
  go_enter Tryz.func68, Tryz.ntmps68
  go_wp2
  go_ret
  exact ⟨rfl, 0, rfl⟩
theorem geometry_nil (w : World) : Calls Tryz.prog 44 #[.pointer none] w fun e w' => e = .returned (.agg #[.int .i64 0, .int .i64 0, .int .i64 0, .int .i64 0, .int .i64 0, .int .i64 0]) ∧ Below w.heap.size w w' := by
  go_enter Tryz.func44, Tryz.ntmps44
  go_wp2
  go_returns
  exact ⟨rfl, (Below.refl _ _).alloc (Nat.le_refl _) _⟩
theorem geometry_any {S : Nat → Prop} {d b : Nat} {g : Geo} {F : Fl} {w : World} (h : DriveAt S d b g F w) : Calls Tryz.prog 44 #[.pointer (some ⟨d, 0, none⟩)] w fun e w' => e = .returned (.agg #[.int .i64 g.sector, .int .i64 g.slot, .int .i64 g.data, .int .i64 g.quota, .int .i64 g.tries, .int .i64 g.life]) ∧ Below w.heap.size w w' := by
  have hk := (h.later ((Below.refl _ w).alloc (Nat.le_refl _) (.cells #[.int .i64 0, .int .i64 0, .int .i64 0, .int .i64 0, .int .i64 0, .int .i64 0] 23))).cells
  have HL := hid h.lt
  clear h
  go_enter Tryz.func44, Tryz.ntmps44
  go_wp2
  go_returns
  exact ⟨rfl, (Below.refl _ _).alloc (Nat.le_refl _) _⟩
end Go.Proofs.YtphifanacehppaaGreat.drive
/- Contracts of a drive's exists and ready. No condition. -/
namespace Go.Proofs.YtphifanacehppaaGreat.drive
open Go.RowKit Go.Proofs.YtphifanacehppaaGreat.flash Go.Proofs.YtphifanacehppaaGreat.geom Go.Proofs.YtphifanacehppaaGreat.word
set_option linter.unusedVariables false

/-- what a call in a later world still sees of the drive -/
theorem DriveAt.seen {S : Nat → Prop} {d b : Nat} {g : Geo} {F : Fl} {w : World} (h : DriveAt S d b g F w) : Hid (∀ w', Below w.heap.size w w' → w'.cell? ⟨d, 0, none⟩ = some (.pointer (some ⟨b, 0, none⟩)) ∧ w'.cell? ⟨d, 1, none⟩ = some (.int .i64 g.sector) ∧ w'.cell? ⟨d, 2, none⟩ = some (.int .i64 g.slot) ∧ w'.cell? ⟨d, 3, none⟩ = some (.int .i64 g.data) ∧ w'.cell? ⟨d, 4, none⟩ = some (.int .i64 g.quota) ∧ w'.cell? ⟨d, 5, none⟩ = some (.int .i64 g.tries) ∧ w'.cell? ⟨d, 6, none⟩ = some (.int .i64 g.life)) :=
  hid fun w' hb => (h.later hb).cells
theorem sectors_from (g : Geo) (w0 w : World) (hb : Below w0.heap.size w0 w) : Calls Tryz.prog 54 #[.agg #[.int .i64 g.sector, .int .i64 g.slot, .int .i64 g.data, .int .i64 g.quota, .int .i64 g.tries, .int .i64 g.life]] w fun e w' => e = .returned (.int .i64 g.sectors) ∧ Below w0.heap.size w0 w' :=
  (sectors_any g w).mono fun _ _ ⟨he, hw⟩ => ⟨he, hb.trans (hw.mono hb.size)⟩
theorem exists_any {S : Nat → Prop} {d b : Nat} {g : Geo} {F : Fl} {w : World} (h : DriveAt S d b g F w) (hr : g.Right) (s a n : Int) (ha : a ≤ 9223372036854775807) :
    Calls Tryz.prog 89 #[.pointer (some ⟨d, 0, none⟩), .int .i64 s, .int .i64 a, .int .i64 n] w fun e w' => e = .returned (.bool (decide (0 ≤ s ∧ s < g.sectors ∧ 0 ≤ a ∧ 0 ≤ n ∧ n ≤ g.sector - a))) ∧ Below w.heap.size w w' := by
  have HS := h.seen
  have hk0 := HS.out w (Below.refl _ _)
  have cs := sectors_from g w w (Below.refl _ _)
  obtain ⟨⟨r1, r2⟩, _⟩ := hr
  clear h
  obtain ⟨v, hv⟩ : ∃ v, Hid (decide (0 ≤ s ∧ s < g.sectors ∧ 0 ≤ a ∧ 0 ≤ n ∧ n ≤ g.sector - a) = v) := ⟨_, rfl⟩
  rw [hv.out]
  generalize g.sectors = T at *
  by_cases h1 : 0 ≤ s
  · by_cases h2 : s < T
    · by_cases h3 : 0 ≤ a
      · by_cases h4 : 0 ≤ n
        · by_cases h5 : n ≤ g.sector - a
          all_goals
            go_enter Tryz.func89, Tryz.ntmps89
            go_wp2_with (go_at_call 54; (with_reducible refine cs.mono ?_); rintro e w1 ⟨rfl, hb1⟩; have hk1 := HS.out w1 hb1)
            go_ret
            exact ⟨ret_bool (by rw [← hv.out]; first | exact decide_eq_decide.2 (by omega) | exact (decide_eq_true (by omega)).symm | exact (decide_eq_false (by omega)).symm), hb1⟩
        · go_enter Tryz.func89, Tryz.ntmps89
          go_wp2_with (go_at_call 54; (with_reducible refine cs.mono ?_); rintro e w1 ⟨rfl, hb1⟩; have hk1 := HS.out w1 hb1)
          go_ret
          exact ⟨ret_bool (by rw [← hv.out]; exact (decide_eq_false (by omega)).symm), hb1⟩
      · go_enter Tryz.func89, Tryz.ntmps89
        go_wp2_with (go_at_call 54; (with_reducible refine cs.mono ?_); rintro e w1 ⟨rfl, hb1⟩; have hk1 := HS.out w1 hb1)
        go_ret
        exact ⟨ret_bool (by rw [← hv.out]; exact (decide_eq_false (by omega)).symm), hb1⟩
    · go_enter Tryz.func89, Tryz.ntmps89
      go_wp2_with (go_at_call 54; (with_reducible refine cs.mono ?_); rintro e w1 ⟨rfl, hb1⟩; have hk1 := HS.out w1 hb1)
      go_ret
      exact ⟨ret_bool (by rw [← hv.out]; exact (decide_eq_false (by omega)).symm), hb1⟩
  · go_enter Tryz.func89, Tryz.ntmps89
    go_wp2
    go_ret
    exact ⟨ret_bool (by rw [← hv.out]; exact (decide_eq_false (by omega)).symm), Below.refl _ _⟩
theorem exists_from {S : Nat → Prop} {d b : Nat} {g : Geo} {F : Fl} {w0 w : World} (h : DriveAt S d b g F w0) (hr : g.Right) (s a n : Int) (ha : a ≤ 9223372036854775807) (hb : Below w0.heap.size w0 w) :
    Calls Tryz.prog 89 #[.pointer (some ⟨d, 0, none⟩), .int .i64 s, .int .i64 a, .int .i64 n] w fun e w' => e = .returned (.bool (decide (0 ≤ s ∧ s < g.sectors ∧ 0 ≤ a ∧ 0 ≤ n ∧ n ≤ g.sector - a))) ∧ Below w0.heap.size w0 w' :=
  (exists_any (h.later hb) hr s a n ha).mono fun _ _ ⟨he, hw⟩ => ⟨he, hb.trans (hw.mono hb.size)⟩
theorem ready_none (s a n : Int) (w : World) : Calls Tryz.prog 66 #[.pointer none, .int .i64 s, .int .i64 a, .int .i64 n] w (Quiet (.int .i64 1) w) := by
  go_enter Tryz.func66, Tryz.ntmps66
  go_wp2
  go_ret
  exact ⟨rfl, 0, rfl⟩
theorem ready_this {S : Nat → Prop} {d b : Nat} {g : Geo} {F : Fl} {w : World} (h : DriveAt S d b g F w) (hr : g.Right) (s a n : Int) (ha : a ≤ 9223372036854775807) :
    Calls Tryz.prog 66 #[.pointer (some ⟨d, 0, none⟩), .int .i64 s, .int .i64 a, .int .i64 n] w fun e w' => e = .returned (.int .i64 (bad F g s a n)) ∧ Below w.heap.size w w' := by
  have HS := h.seen
  have ce := exists_any h hr s a n ha
  have cg : ∀ w', Below w.heap.size w w' → Calls Tryz.prog 90 #[.pointer (some ⟨b, 0, none⟩)] w' (Quiet (.bool F.dark) w') := fun w' hb => gone_at (h.later hb).fl
  clear h hr
  by_cases h1 : 0 ≤ s ∧ s < g.sectors ∧ 0 ≤ a ∧ 0 ≤ n ∧ n ≤ g.sector - a
  · rw [decide_eq_true h1] at ce
    have HB := hid (show bad F g s a n = if F.dark = true then 10 else 0 by unfold bad; rw [if_pos h1])
    clear h1 ha
    cases hd : F.dark
    all_goals
      rw [hd] at cg HB
      clear hd
      go_enter Tryz.func66, Tryz.ntmps66
      go_wp2_with (first
        | (go_at_call 89; (with_reducible refine ce.mono ?_); rintro e w1 ⟨rfl, hb1⟩; have hk1 := HS.out w1 hb1)
        | (go_at_call 90; (with_reducible refine (cg _ hb1).mono ?_); rintro e w2 ⟨rfl, m, rfl⟩))
      go_ret
      exact ⟨ret_int (by rw [HB.out]; rfl), below_drewN hb1 m⟩
  · rw [decide_eq_false h1] at ce
    have HB := hid (show bad F g s a n = 3 by unfold bad; rw [if_neg h1])
    clear h1 ha
    go_enter Tryz.func66, Tryz.ntmps66
    go_wp2_with (first
      | (go_at_call 89; (with_reducible refine ce.mono ?_); rintro e w1 ⟨rfl, hb1⟩; have hk1 := HS.out w1 hb1))
    go_ret
    exact ⟨ret_int HB.out.symm, hb1⟩
theorem ready_from {S : Nat → Prop} {d b : Nat} {g : Geo} {F : Fl} {w0 w : World} (h : DriveAt S d b g F w0) (hr : g.Right) (s a n : Int) (ha : a ≤ 9223372036854775807) (hb : Below w0.heap.size w0 w) :
    Calls Tryz.prog 66 #[.pointer (some ⟨d, 0, none⟩), .int .i64 s, .int .i64 a, .int .i64 n] w fun e w' => e = .returned (.int .i64 (bad F g s a n)) ∧ Below w0.heap.size w0 w' :=
  (ready_this (h.later hb) hr s a n ha).mono fun _ _ ⟨he, hw⟩ => ⟨he, hb.trans (hw.mono hb.size)⟩
end Go.Proofs.YtphifanacehppaaGreat.drive
/- Contract of a drive's Read. No condition. -/
namespace Go.Proofs.YtphifanacehppaaGreat.drive
open Go.RowKit Go.Proofs.YtphifanacehppaaGreat.flash Go.Proofs.YtphifanacehppaaGreat.geom Go.Proofs.YtphifanacehppaaGreat.word
set_option linter.unusedVariables false

theorem read_none (s a n : Int) (w : World) : Calls Tryz.prog 43 #[.pointer none, .int .i64 s, .int .i64 a, .int .i64 n] w (Quiet (.tuple #[.slice none 0 0, .int .i64 1]) w) := by
  go_enter Tryz.func43, Tryz.ntmps43
  go_wp2_with (go_at_call 66; (with_reducible refine (ready_none _ _ _ _).mono ?_); rintro e w1 ⟨rfl, m, rfl⟩)
  go_ret2
  exact ⟨rfl, m, rfl⟩
theorem read_bad {S : Nat → Prop} {d b : Nat} {g : Geo} {F : Fl} {w : World} (h : DriveAt S d b g F w) (hr : g.Right) (s a n : Int) (ha : a ≤ 9223372036854775807) (hz : bad F g s a n ≠ 0) :
    Calls Tryz.prog 43 #[.pointer (some ⟨d, 0, none⟩), .int .i64 s, .int .i64 a, .int .i64 n] w fun e w' => e = .returned (.tuple #[.slice none 0 0, .int .i64 (bad F g s a n)]) ∧ Below w.heap.size w w' := by
  have cr := ready_this h hr s a n ha
  have ho := bad_or F g s a n
  generalize bad F g s a n = z at *
  clear h hr
  rcases ho with rfl | rfl | rfl
  · exact absurd rfl hz
  all_goals
    clear hz
    go_enter Tryz.func43, Tryz.ntmps43
    go_wp2_with (go_at_call 66; (with_reducible refine cr.mono ?_); rintro e w1 ⟨rfl, hb1⟩)
    go_ret2
    exact ⟨rfl, hb1⟩
set_option maxRecDepth 20000 in
theorem read_good {S : Nat → Prop} {d b : Nat} {g : Geo} {F : Fl} {w : World} (h : DriveAt S d b g F w) (ok : F.Ok) (ft : Fit F g) (s a : Int) (N : Nat) (hz : bad F g s a N = 0) :
    Calls Tryz.prog 43 #[.pointer (some ⟨d, 0, none⟩), .int .i64 s, .int .i64 a, .int .i64 (N : Int)] w fun e w' => ∃ q, e = .returned (.tuple #[.slice (some ⟨q, 0, none⟩) N N, .int .i64 0]) ∧ w.heap.size ≤ q ∧ Reads .u32 w' (some ⟨q, 0, none⟩) N (span F (addr g s a) N) ∧ Below w.heap.size w w' := by
  obtain ⟨hin, hd⟩ := bad_zero hz
  obtain ⟨hA, hlen, p0, p1, n1, a1⟩ := addr_in ok ft hin
  have cr := ready_this h ft.right s a N (by omega)
  rw [hz] at cr
  rw [Int.toNat_natCast] at hlen
  obtain ⟨q1, q2, q3, q4, q5⟩ := hin
  have HS := h.seen
  have hws := ok.ws_le
  have ca : ∀ k, k < N → ∀ w', Below w.heap.size w w' → Calls Tryz.prog 68 #[.pointer (some ⟨d, 0, none⟩), .int .i64 s, .int .i64 (a + (k : Int))] w' (Quiet (.int .i64 ((addr g s a : Nat) + (k : Int))) w') := fun k hk w' hb =>
    address_any d s (a + k) _ g w' (HS.out w' hb).2.1 ⟨p0, by omega⟩ (by omega) (by rw [hA]; omega)
  have cf : ∀ k, k < N → ∀ w', Below w.heap.size w w' → Calls Tryz.prog 67 #[.pointer (some ⟨b, 0, none⟩), .int .i64 ((addr g s a : Nat) + (k : Int))] w' (Quiet (.tuple #[.int .u32 ((F.ws.getD (addr g s a + k) 0 : Nat) : Int), .int .i64 0]) w') := fun k hk w' hb => by
    have := read_quiet (h.later hb).fl ok ((addr g s a : Nat) + (k : Int))
    rw [Fl.read, if_neg (by simp [hd]), if_neg (by omega), show ((addr g s a : Nat) + (k : Int)).toNat = addr g s a + k by omega] at this
    exact this
  have CA := hid ca
  have CF := hid cf
  have HSP : Hid (upTo (fun i => F.ws.getD (addr g s a + i) 0) N N = span F (addr g s a) N) := hid (upTo_all _ _)
  obtain ⟨i0, hi, hz0, hz1, hz2⟩ := info_parts u32_info
  clear h ok ft hz hA hlen p0 p1 hws hd ca cf q1 q2 q5
  generalize addr g s a = A at *
  obtain ⟨f, hf⟩ : ∃ f : Nat → Nat, f = fun i => F.ws.getD (A + i) 0 := ⟨_, rfl⟩
  have CF2 : Hid (∀ k, k < N → ∀ w', Below w.heap.size w w' → Calls Tryz.prog 67 #[.pointer (some ⟨b, 0, none⟩), .int .i64 ((A : Nat) + (k : Int))] w' (Quiet (.tuple #[.int .u32 ((f k : Nat) : Int), .int .i64 0]) w')) := by rw [hf]; exact CF
  rw [← hf] at HSP
  clear CF hf
  go_enter Tryz.func43, Tryz.ntmps43
  go_wp2_with (first
    | (go_at_call 66; (with_reducible refine cr.mono ?_); rintro e w1 ⟨rfl, hb1⟩)
    | (at_make; refine wpList_make_full _ rfl _ _ 24 rfl w1.heap.size 43 i0 (.int .u32 0) 1 Tryz.underlying24 hi hz0 hz1 _ _ _ _ N rfl rfl rfl rfl (by rw [hz2]; omega) (by unfold maxLen; omega) (Nat.le_refl _) ?_))
  intro w2 hown hgrow
  rw [toList_madeCells_one] at hown
  have HB2 : Hid (Below w.heap.size w w2) := hid (hb1.grown hgrow hb1.size (fun k h => by cases h))
  have HQ := hid hb1.size
  have HO : Hid (w2.ownsRow w1.heap.size 43 1 (.slice (some ⟨w1.heap.size, 0, none⟩) N N) N ((upTo f 0 N).map fun x : Nat => Value.int .u32 (x : Int))) := hid (by rw [upTo_zero, List.map_replicate]; exact hown)
  clear hown hgrow hb1 cr
  go_wp2
  go_loopw [27] (fun i wr => ∃ k : Nat, k ≤ N ∧ i = .int .i64 (k : Int) ∧ Hid (wr.ownsRow w1.heap.size 43 1 (.slice (some ⟨w1.heap.size, 0, none⟩) N N) N ((upTo f k N).map fun x : Nat => Value.int .u32 (x : Int))) ∧ Hid (Below w.heap.size w wr)) (fun i _ => N - (intOf i).toNat)
  case atStart => exact ⟨0, Nat.zero_le _, rfl, HO, HB2⟩
  case round =>
    obtain ⟨k, hk, rfl, ho, hb⟩ := hrel
    clear HO HB2
    by_cases hlt : k < N
    · have ca := fun m => CA.out k hlt (wr.drewN m) (below_drewN hb.out m)
      have cf := fun m => CF2.out k hlt (wr.drewN m) (below_drewN hb.out m)
      have hk1 := HS.out wr hb.out
      have f2 := ho.out.frozenAt k
      have c2 : wr.cell? ⟨w1.heap.size, k, none⟩ = some (.int .u32 0) := by
        rw [ho.out.cellAt _ (by omega)]
        simp [upTo, hlt]
      have i1 : (k : Int) < N := by omega
      generalize hx : f k = x at *
      have HX := hid hx
      clear hx
      go_wp2
      go_quiet (first
        | (go_at_call 68; (with_reducible exact quietAt (ca _)))
        | (go_at_call 67; (with_reducible exact quietAt (cf _))))
      go_wp2
      have hst := (ho.out.drewN nq).stored k (.int .u32 (x : Int))
      have hmap : ((upTo f k N).map fun x : Nat => Value.int .u32 (x : Int)).set k (.int .u32 (x : Int)) = (upTo f (k + 1) N).map fun x : Nat => Value.int .u32 (x : Int) := by
        rw [← upTo_set f k N hlt, List.map_set, HX.out]
      rw [hmap] at hst
      exact ⟨⟨k + 1, by omega, by go_num, hid hst.1, hid ((below_drewN hb.out nq).grown hst.2 (by simp [hb.out.size]) (fun j h => by cases h; exact HQ.out))⟩, by simp [intOf]; omega⟩
    · obtain rfl : k = N := by omega
      go_wp2
      go_ret2
      refine ⟨w1.heap.size, rfl, HQ.out, ?_, hb.out⟩
      rw [← HSP.out]
      exact Reads.own ho.out
end Go.Proofs.YtphifanacehppaaGreat.drive
/- Contracts of a drive's fits and Write. No condition but a flash with fewer than 2^61 writes. -/
namespace Go.Proofs.YtphifanacehppaaGreat.drive
open Go.RowKit Go.Proofs.YtphifanacehppaaGreat.flash Go.Proofs.YtphifanacehppaaGreat.geom Go.Proofs.YtphifanacehppaaGreat.word
set_option linter.unusedVariables false

set_option maxHeartbeats 1600000 in
theorem fits_any (a b : Option Addr) (n ca cb : Nat) (W B : List Nat) (w : World) (hn : n ≤ 1048576) (ha : Reads .u32 w a n W) (hb : Reads .u32 w b n B) (hW : ∀ x ∈ W, x < 4294967296) (hB : ∀ x ∈ B, x < 4294967296) (v : Bool) (hv : Hid (v = decide (∀ i, i < n → clr (W.getD i 0) (B.getD i 0) = 0))) :
    Calls Tryz.prog 96 #[.slice a n ca, .slice b n cb] w (Quiet (.bool v) w) := by
  go_enter Tryz.func96, Tryz.ntmps96
  go_wp2
  go_loopw [9] (fun i wr => ∃ k : Nat, k ≤ n ∧ i = .int .i64 (k : Int) ∧ (∃ m, wr = w.drewN m) ∧ Hid (∀ i, i < k → clr (W.getD i 0) (B.getD i 0) = 0)) (fun i _ => n - (intOf i).toNat)
  case atStart => exact ⟨0, Nat.zero_le _, rfl, ⟨0, rfl⟩, hid (fun i h => by omega)⟩
  case round =>
    obtain ⟨k, hk, rfl, ⟨m, rfl⟩, hall⟩ := hrel
    by_cases hlt : k < n
    · obtain ⟨b1, o1, rfl, _, hc1⟩ := ha.at hlt
      obtain ⟨b2, o2, rfl, _, hc2⟩ := hb.at hlt
      have c1 : (w.drewN m).cell? ⟨b1, o1 + k, none⟩ = some (.int .u32 ((W.getD k 0 : Nat) : Int)) := hc1 k hlt
      have c2 : (w.drewN m).cell? ⟨b2, o2 + k, none⟩ = some (.int .u32 ((B.getD k 0 : Nat) : Int)) := hc2 k hlt
      have hwi := fun w' => within_any (W.getD k 0) (B.getD k 0) (getD_lt hW (by decide) k) (getD_lt hB (by decide) k) w'
      have i1 : (k : Int) < n := by omega
      clear hc1 hc2 ha hb hW hB
      by_cases hz : clr (W.getD k 0) (B.getD k 0) = 0
      · have hnx : Hid (∀ i, i < k + 1 → clr (W.getD i 0) (B.getD i 0) = 0) := hid (fun i hi => by
          by_cases h : i < k
          · exact hall.out i h
          · rw [show i = k by omega]; exact hz)
        rw [hz, show ((0 : Nat) == 0) = true from rfl] at hwi
        clear hz
        generalize W.getD k 0 = x1 at *
        generalize B.getD k 0 = x2 at *
        go_wp2_with (go_at_call 115; (with_reducible refine (hwi _).mono ?_); rintro e w' ⟨rfl, m2, rfl⟩)
        exact ⟨⟨k + 1, by omega, by go_num, ⟨_, rfl⟩, hnx⟩, by simp [intOf]; omega⟩
      · have hvf : Hid (v = false) := hid (by rw [hv.out]; exact decide_eq_false fun h => hz (h k hlt))
        rw [show (clr (W.getD k 0) (B.getD k 0) == 0) = false by simpa using hz] at hwi
        clear hz
        generalize W.getD k 0 = x1 at *
        generalize B.getD k 0 = x2 at *
        go_wp2_with (go_at_call 115; (with_reducible refine (hwi _).mono ?_); rintro e w' ⟨rfl, m2, rfl⟩)
        go_ret
        exact ⟨ret_bool hvf.out.symm, _, rfl⟩
    · obtain rfl : k = n := by omega
      have hvt : Hid (v = true) := hid (by rw [hv.out]; exact decide_eq_true hall.out)
      go_wp2
      go_ret
      exact ⟨ret_bool hvt.out.symm, _, rfl⟩
theorem write_none (s a : Int) (x : Option Addr) (n c : Nat) (w : World) : Calls Tryz.prog 73 #[.pointer none, .int .i64 s, .int .i64 a, .slice x n c] w (Quiet (.int .i64 1) w) := by
  go_enter Tryz.func73, Tryz.ntmps73
  go_wp2
  go_step3
  go_wp2_with (go_at_call 43; (with_reducible refine (read_none _ _ _ _).mono ?_); rintro e w1 ⟨rfl, m, rfl⟩)
  rw [Exit.noGoto_ret]
  go_ret
  exact ⟨rfl, m, rfl⟩
theorem write_bad {S : Nat → Prop} {d b : Nat} {g : Geo} {F : Fl} {w : World} (h : DriveAt S d b g F w) (hr : g.Right) (s a : Int) (ha : a ≤ 9223372036854775807) (x : Option Addr) (n c : Nat) (hz : bad F g s a n ≠ 0) :
    Calls Tryz.prog 73 #[.pointer (some ⟨d, 0, none⟩), .int .i64 s, .int .i64 a, .slice x n c] w (Did S b F (.int .i64 (bad F g s a n)) w) := by
  have cr := read_bad h hr s a n ha hz
  have ho := bad_or F g s a n
  have HF := hid h.fl
  generalize bad F g s a n = z at *
  clear h hr
  rcases ho with rfl | rfl | rfl
  · exact absurd rfl hz
  all_goals
    clear hz
    go_enter Tryz.func73, Tryz.ntmps73
    go_wp2
    go_step3
    go_wp2_with (go_at_call 43; (with_reducible refine cr.mono ?_); rintro e w1 ⟨rfl, hb1⟩)
    rw [Exit.noGoto_ret]
    go_ret
    exact ⟨rfl, Turn.of HF.out hb1⟩
theorem FlashAt.clip' {S : Nat → Prop} {b : Nat} {F : Fl} {w w' : World} (h : FlashAt S b F w) (k : Below w.heap.size w w') : FlashAt (fun x => S x ∧ x < w.heap.size) b F w' := (FlashAt.clip h).later k
set_option maxHeartbeats 4000000 in
set_option maxRecDepth 20000 in
theorem write_good {S : Nat → Prop} {d b : Nat} {g : Geo} {F : Fl} {w : World} (h : DriveAt S d b g F w) (ok : F.Ok) (ft : Fit F g) (hc : F.count < 2305843009213693952) (s a : Int) (x : Option Addr) (n c : Nat) (W : List Nat)
    (hr : Reads .u32 w x n W) (hW : ∀ y ∈ W, y < 4294967296) (hsep : n = 0 ∨ ∃ y, x = some y ∧ ¬ S y.block) (hz : bad F g s a n = 0) :
    Calls Tryz.prog 73 #[.pointer (some ⟨d, 0, none⟩), .int .i64 s, .int .i64 a, .slice x n c] w (Did S b (if ¬ fits F (addr g s a) W then (11, F) else prog F (addr g s a) W).2 (.int .i64 (if ¬ fits F (addr g s a) W then (11, F) else prog F (addr g s a) W).1) w) := by
  obtain ⟨hin, hd⟩ := bad_zero hz
  obtain ⟨hA, hlen, p0, p1, n1, a1⟩ := addr_in ok ft hin
  rw [Int.toNat_natCast] at hlen
  have cr := read_good h ok ft s a n hz
  have hws := ok.ws_le
  have hWl := hr.1
  obtain ⟨q1, q2, q3, q4, q5⟩ := hin
  have hsp : ∀ y ∈ span F (addr g s a) n, y < 4294967296 := mem_of_getD fun j hj => by
    rw [span_length] at hj
    rw [span_getD _ _ _ _ hj]
    exact getD_lt ok.w (by decide) _
  have HV : Hid (decide (∀ i, i < n → clr (W.getD i 0) ((span F (addr g s a) n).getD i 0) = 0) = decide (fits F (addr g s a) W)) := hid (by
    rw [decide_eq_decide]
    unfold fits
    rw [hWl]
    exact ⟨fun h i hi => by have := h i hi; rwa [span_getD _ _ _ _ hi] at this, fun h i hi => by rw [span_getD _ _ _ _ hi]; exact h i hi⟩)
  have cf : ∀ q w', Reads .u32 w' (some ⟨q, 0, none⟩) n (span F (addr g s a) n) → Below w.heap.size w w' → Calls Tryz.prog 96 #[.slice x n c, .slice (some ⟨q, 0, none⟩) n n] w' (Quiet (.bool (decide (fits F (addr g s a) W))) w') := fun q w' hq hb =>
    fits_any x _ n c n W _ w' (by omega) (hr.below hb) hq hW hsp _ (hid HV.out.symm)
  have H := hid h
  have HR := hid hr
  have HA := hid hA
  have HL := hid hlen
  have HW := hid hW
  have HOK := hid ok
  have HFT := hid ft
  have HSEP := hid hsep
  have HCT := hid hc
  clear h hr hW ok ft hz hA hlen hd hws hsp HV q2 q5 hsep hc
  generalize hAA : addr g s a = A at *
  have HAA := hid hAA
  clear hAA
  by_cases hfit : fits F A W
  · rw [decide_eq_true hfit] at cf
    rw [if_neg (fun h => h hfit)]
    clear hfit
    go_enter Tryz.func73, Tryz.ntmps73
    go_wp2
    go_step3
    go_wp2_with (first
      | (go_at_call 43; (with_reducible refine cr.mono ?_); rintro e w1 ⟨q, rfl, hq0, hq, hb1⟩)
      | (go_at_call 96; (with_reducible refine (cf _ _ hq hb1).mono ?_); rintro e w2 ⟨rfl, m, rfl⟩))
    obtain ⟨w2, hw2⟩ : ∃ y, Hid (w1.drewN m = y) := ⟨_, rfl⟩
    have hb2 := below_drewN hb1 m
    have hq2 := hq.drewN m
    rw [hw2.out] at hb2 hq2 ⊢
    have HQ2 := hid hq2
    have HQ0 := hid hq0
    have HB2 := hid hb2
    have HD := H.out.later hb2
    have HD1 : DriveAt (fun y => S y ∧ y < w.heap.size) d b g F w2 := ⟨HD.blk, FlashAt.clip' H.out.fl hb2, fun hs => HD.nd hs.1⟩
    have HDH := hid HD1
    have HTU : Hid (Turn (fun y => S y ∧ y < w.heap.size) b F w2 w2) := hid (Turn.of HD1.fl (Below.refl _ _))
    clear cr cf hq hb1 hq0 hw2 hb2 hq2 HD HD1
    go_step3
    go_wp2
    go_loopw [32] (fun i wr => ∃ k : Nat, k ≤ n ∧ i = .int .i64 (k : Int) ∧ ∃ G, Hid (Half F A W k G) ∧ Hid (Turn (fun y => S y ∧ y < w.heap.size) b G w2 wr)) (fun i _ => n - (intOf i).toNat)
    case atStart => exact ⟨0, Nat.zero_le _, rfl, F, hid (Half.zero HOK.out), HTU⟩
    case round =>
      obtain ⟨k, hk, rfl, G, hH, hT⟩ := hrel
      clear HTU
      by_cases hlt : k < n
      · obtain ⟨S', hDA, hS', hO⟩ := HDH.out.turn hT.out
        have rW : Reads .u32 wr x n W := reads_only (HR.out.below HB2.out) hO (HSEP.out.imp id fun ⟨y, hy, hn⟩ => ⟨y, hy, fun hs => hn hs.1⟩)
        have rQ : Reads .u32 wr (some ⟨q, 0, none⟩) n (span F A n) := reads_only HQ2.out hO (.inr ⟨_, rfl, fun hs => by have h1 := HQ0.out; have h2 : q < w.heap.size := hs.2; omega⟩)
        obtain ⟨wb, wo, rfl, _, cW⟩ := rW.at hlt
        obtain ⟨qb, qo, hqq, _, cQ⟩ := rQ.at hlt
        cases hqq
        have c1 := cW k hlt
        have c2 := cQ k hlt
        rw [Nat.zero_add, span_getD _ _ _ _ hlt] at c2
        have hk1 := hDA.cells
        have i1 : (k : Int) < n := by omega
        have hkW : Hid (k < W.length) := hid (by rw [HR.out.1]; exact hlt)
        have hx2 : W.getD k 0 < 4294967296 := getD_lt HW.out (by decide) k
        by_cases hxy : F.ws.getD (A + k) 0 = W.getD k 0
        · have hH2 := hid (hH.out.skip hkW.out hxy)
          rw [hxy] at c2
          clear hH hxy cW cQ rW rQ hDA hS' hO
          generalize W.getD k 0 = x1 at *
          go_wp2
          exact ⟨⟨k + 1, by omega, by go_num, G, hH2, hT⟩, by simp [intOf]; omega⟩
        · have ca : ∀ m, Calls Tryz.prog 68 #[.pointer (some ⟨d, 0, none⟩), .int .i64 s, .int .i64 (a + (k : Int))] (wr.drewN m) (Quiet (.int .i64 ((A : Nat) + (k : Int))) (wr.drewN m)) := fun m =>
            address_any d s (a + k) _ g _ hk1.2.1 ⟨p0, by omega⟩ (by omega) (by rw [HA.out]; omega)
          have cp : ∀ m, Calls Tryz.prog 97 #[.pointer (some ⟨b, 0, none⟩), .int .i64 ((A : Nat) + (k : Int)), .int .u32 (W.getD k 0 : Nat)] (wr.drewN m) (Did S' b (G.program ((A + k : Nat) : Int) (W.getD k 0)).2 (.int .i64 (G.program ((A + k : Nat) : Int) (W.getD k 0)).1) (wr.drewN m)) := fun m =>
            program_did (hDA.fl.later (below_drewN (Below.refl _ _) m)) hH.out.st.ok (by have := hH.out.st.c2; have := HCT.out; omega) _ _ hx2
          have HJ : Hid (∀ m w' H, Turn S' b H (wr.drewN m) w' → Turn S b H w w' ∧ Turn (fun y => S y ∧ y < w.heap.size) b H w2 w') := hid (fun m w' H ht => by
            have h1 := Turn.join hS' hO (Turn.before (below_drewN (Below.refl _ _) m) ht)
            exact ⟨Turn.before HB2.out (h1.wide fun y hy => hy.1), h1⟩)
          by_cases hpz : (G.program ((A + k : Nat) : Int) (W.getD k 0)).1 = 0
          · have hH2 := hid (hH.out.on HW.out hkW.out hxy hpz)
            have hne : ((W.getD k 0 : Nat) : Int) ≠ ((F.ws.getD (A + k) 0 : Nat) : Int) := by omega
            rw [hpz] at cp
            clear hH hxy cW cQ rW rQ hDA hS' hO hpz hT
            generalize (G.program ((A + k : Nat) : Int) (W.getD k 0)).2 = G2 at *
            generalize W.getD k 0 = x1 at *
            generalize F.ws.getD (A + k) 0 = x2 at *
            go_wp2
            refine tail.region 11 (by kernel_rfl) (by kernel_rfl) ?_
            simp only [List.take_succ_cons, List.take_zero, List.drop_succ_cons, List.drop_zero]
            repeat (go_big_quiet_step ((go_at_call 68; (with_reducible exact quietAt (ca _)))))
            refine wpQuiet_nil ?_
            rintro _ ⟨nq, rfl⟩
            go_wp2_with (go_at_call 97; (with_reducible refine (cp _).mono ?_); rintro e w4 ⟨rfl, ht⟩)
            exact ⟨⟨k + 1, by omega, by go_num, G2, hH2, hid (HJ.out _ _ _ ht).2⟩, by simp [intOf]; omega⟩
          · have hH2 := hid (hH.out.err hkW.out hxy hpz)
            have hne : ((W.getD k 0 : Nat) : Int) ≠ ((F.ws.getD (A + k) 0 : Nat) : Int) := by omega
            clear hH hxy cW cQ rW rQ hDA hS' hO hT
            generalize (G.program ((A + k : Nat) : Int) (W.getD k 0)) = R at *
            obtain ⟨z, G2⟩ := R
            rw [hH2.out]
            simp only at cp hpz ⊢
            generalize W.getD k 0 = x1 at *
            generalize F.ws.getD (A + k) 0 = x2 at *
            go_wp2
            refine tail.region 11 (by kernel_rfl) (by kernel_rfl) ?_
            simp only [List.take_succ_cons, List.take_zero, List.drop_succ_cons, List.drop_zero]
            repeat (go_big_quiet_step ((go_at_call 68; (with_reducible exact quietAt (ca _)))))
            refine wpQuiet_nil ?_
            rintro _ ⟨nq, rfl⟩
            go_wp2_with (go_at_call 97; (with_reducible refine (cp _).mono ?_); rintro e w4 ⟨rfl, ht⟩)
            rw [Exit.noGoto_ret]
            go_ret
            exact ⟨rfl, (HJ.out _ _ _ ht).1⟩
      · obtain rfl : k = n := by omega
        have hE : Hid (prog F A W = (0, G)) := hid (by have := HR.out.1; subst this; exact hH.out.done)
        have HF : Hid (Turn S b G w wr) := hid (Turn.before HB2.out (hT.out.wide fun y hy => hy.1))
        clear hH
        go_wp2
        rw [Exit.noGoto_ret]
        go_ret
        have hfin : Did S b (prog F A W).2 (.int .i64 (prog F A W).1) w (.returned (.int .i64 0)) wr := by rw [hE.out]; exact ⟨rfl, HF.out⟩
        exact hfin
  · rw [decide_eq_false hfit] at cf
    rw [if_pos hfit]
    clear hfit
    go_enter Tryz.func73, Tryz.ntmps73
    go_wp2
    go_step3
    go_wp2_with (first
      | (go_at_call 43; (with_reducible refine cr.mono ?_); rintro e w1 ⟨q, rfl, hq0, hq, hb1⟩)
      | (go_at_call 96; (with_reducible refine (cf _ _ hq hb1).mono ?_); rintro e w2 ⟨rfl, m, rfl⟩))
    rw [Exit.noGoto_ret]
    go_ret
    exact ⟨rfl, Turn.of H.out.fl (below_drewN hb1 m)⟩
theorem write_this {S : Nat → Prop} {d b : Nat} {g : Geo} {F : Fl} {w : World} (h : DriveAt S d b g F w) (ok : F.Ok) (ft : Fit F g) (hc : F.count < 2305843009213693952) (s a : Int) (ha : a ≤ 9223372036854775807) (x : Option Addr) (n c : Nat) (W : List Nat)
    (hr : Reads .u32 w x n W) (hW : ∀ y ∈ W, y < 4294967296) (hsep : n = 0 ∨ ∃ y, x = some y ∧ ¬ S y.block) :
    Calls Tryz.prog 73 #[.pointer (some ⟨d, 0, none⟩), .int .i64 s, .int .i64 a, .slice x n c] w (Did S b (write F g s a W).2 (.int .i64 (write F g s a W).1) w) := by
  have hl := hr.1
  unfold write
  rw [hl]
  by_cases hz : bad F g s a n = 0
  · rw [if_neg (fun h => h hz)]
    exact write_good h ok ft hc s a x n c W hr hW hsep hz
  · rw [if_pos hz]
    exact write_bad h ft.right s a ha x n c hz
end Go.Proofs.YtphifanacehppaaGreat.drive
/- Contracts of a drive's Blank, Clean and Fresh. No condition but a flash with fewer than 2^61 writes. -/
namespace Go.Proofs.YtphifanacehppaaGreat.drive
open Go.RowKit Go.Proofs.YtphifanacehppaaGreat.flash Go.Proofs.YtphifanacehppaaGreat.geom Go.Proofs.YtphifanacehppaaGreat.word
set_option linter.unusedVariables false

theorem field_geo (x0 x1 x2 x3 x4 x5 : Value) (W : World) : (Instr.field 23 (.agg #[x0, x1, x2, x3, x4, x5]) 0).run Tryz.prog W = .ok x0 W := by kernel_rfl
theorem blank_none (s a : Int) (w : World) : Calls Tryz.prog 46 #[.pointer none, .int .i64 s, .int .i64 a] w fun e w' => e = .returned (.tuple #[.bool false, .int .i64 1]) ∧ Below w.heap.size w w' := by
  have hf := field_geo (.int .i64 0) (.int .i64 0) (.int .i64 0) (.int .i64 0) (.int .i64 0) (.int .i64 0)
  go_enter Tryz.func46, Tryz.ntmps46
  go_wp2_with (first
    | (go_at_call 44; (with_reducible refine (geometry_nil _).mono ?_); rintro e w1 ⟨rfl, hb1⟩)
    | (go_at_call 43; (with_reducible refine (read_none _ _ _ _).mono ?_); rintro e w2 ⟨rfl, m, rfl⟩))
  go_ret2
  exact ⟨rfl, below_drewN hb1 m⟩
theorem blank_bad {S : Nat → Prop} {d b : Nat} {g : Geo} {F : Fl} {w : World} (h : DriveAt S d b g F w) (hr : g.Right) (s a : Int) (ha : a ≤ 9223372036854775807) (hz : bad F g s a (g.sector - a) ≠ 0) :
    Calls Tryz.prog 46 #[.pointer (some ⟨d, 0, none⟩), .int .i64 s, .int .i64 a] w fun e w' => e = .returned (.tuple #[.bool false, .int .i64 (bad F g s a (g.sector - a))]) ∧ Below w.heap.size w w' := by
  have hf := field_geo (.int .i64 g.sector) (.int .i64 g.slot) (.int .i64 g.data) (.int .i64 g.quota) (.int .i64 g.tries) (.int .i64 g.life)
  have cg := geometry_any h
  obtain ⟨⟨r1, r2⟩, _⟩ := id hr
  by_cases h0 : 0 ≤ a
  · have cr : ∀ w', Below w.heap.size w w' → Calls Tryz.prog 43 #[.pointer (some ⟨d, 0, none⟩), .int .i64 s, .int .i64 a, .int .i64 (g.sector - a)] w' fun e w2 => e = .returned (.tuple #[.slice none 0 0, .int .i64 (bad F g s a (g.sector - a))]) ∧ Below w.heap.size w w2 := fun w' hb =>
      (read_bad (h.later hb) hr s a _ ha hz).mono fun _ _ ⟨he, hw⟩ => ⟨he, hb.trans (hw.mono hb.size)⟩
    have ho := bad_or F g s a (g.sector - a)
    generalize bad F g s a (g.sector - a) = z at *
    clear h hr
    rcases ho with rfl | rfl | rfl
    · exact absurd rfl hz
    all_goals
      clear hz
      go_enter Tryz.func46, Tryz.ntmps46
      go_wp2_with (first
        | (go_at_call 44; (with_reducible refine cg.mono ?_); rintro e w1 ⟨rfl, hb1⟩)
        | (go_at_call 43; (with_reducible refine (cr _ hb1).mono ?_); rintro e w2 ⟨rfl, hb2⟩))
      go_ret2
      exact ⟨rfl, hb2⟩
  · have hb3 : ∀ n, bad F g s a n = 3 := fun n => by unfold bad; rw [if_neg (by omega)]
    have cr : ∀ n w', Below w.heap.size w w' → Calls Tryz.prog 43 #[.pointer (some ⟨d, 0, none⟩), .int .i64 s, .int .i64 a, .int .i64 n] w' fun e w2 => e = .returned (.tuple #[.slice none 0 0, .int .i64 3]) ∧ Below w.heap.size w w2 := fun n w' hb => by
      have := read_bad (h.later hb) hr s a n ha (by rw [hb3]; decide)
      rw [hb3] at this
      exact this.mono fun _ _ ⟨he, hw⟩ => ⟨he, hb.trans (hw.mono hb.size)⟩
    rw [hb3]
    clear h hr hz hb3
    go_enter Tryz.func46, Tryz.ntmps46
    go_wp2_with (first
      | (go_at_call 44; (with_reducible refine cg.mono ?_); rintro e w1 ⟨rfl, hb1⟩)
      | (go_at_call 43; (with_reducible refine (cr _ _ hb1).mono ?_); rintro e w2 ⟨rfl, hb2⟩))
    go_ret2
    exact ⟨rfl, hb2⟩
set_option maxHeartbeats 1600000 in
theorem blank_good {S : Nat → Prop} {d b : Nat} {g : Geo} {F : Fl} {w : World} (h : DriveAt S d b g F w) (ok : F.Ok) (ft : Fit F g) (s a : Int) (hz : bad F g s a (g.sector - a) = 0) :
    Calls Tryz.prog 46 #[.pointer (some ⟨d, 0, none⟩), .int .i64 s, .int .i64 a] w fun e w' => e = .returned (.tuple #[.bool (ones F (addr g s a) (g.sector - a).toNat), .int .i64 0]) ∧ Below w.heap.size w w' := by
  obtain ⟨hin, hd⟩ := bad_zero hz
  obtain ⟨hA, hlen, p0, p1, n1, a1⟩ := addr_in ok ft hin
  have hf := field_geo (.int .i64 g.sector) (.int .i64 g.slot) (.int .i64 g.data) (.int .i64 g.quota) (.int .i64 g.tries) (.int .i64 g.life)
  have cg := geometry_any h
  obtain ⟨q1, q2, q3, q4, q5⟩ := hin
  obtain ⟨N, hN⟩ : ∃ N : Nat, g.sector - a = (N : Int) := Int.eq_ofNat_of_zero_le q4
  rw [hN] at hz ⊢
  rw [Int.toNat_natCast]
  have hw : IntKind.i64.wrap (g.sector - a) = (N : Int) := by rw [hN]; exact IntWalk.i64_in _ (by omega)
  have cr : ∀ w', Below w.heap.size w w' → Calls Tryz.prog 43 #[.pointer (some ⟨d, 0, none⟩), .int .i64 s, .int .i64 a, .int .i64 (N : Int)] w' fun e w2 => ∃ q, e = .returned (.tuple #[.slice (some ⟨q, 0, none⟩) N N, .int .i64 0]) ∧ Reads .u32 w2 (some ⟨q, 0, none⟩) N (span F (addr g s a) N) ∧ Below w.heap.size w w2 := fun w' hb => by
    refine (read_good (h.later hb) ok ft s a N hz).mono ?_
    rintro e w2 ⟨q, he, _, hq, hw⟩
    exact ⟨q, he, hq, hb.trans (hw.mono hb.size)⟩
  have hws : ∀ j, F.ws.getD j 0 < 4294967296 := fun j => getD_lt ok.w (by decide) j
  have hs1 : g.sector ≤ 1024 := ft.right.1.2
  have HS := hid hws
  have HNN := hid hN
  clear h ok ft hz hA hlen hd hws q1 q2 q5 p0 p1
  generalize addr g s a = A at *
  go_enter Tryz.func46, Tryz.ntmps46
  go_wp2_with (first
    | (go_at_call 44; (with_reducible refine cg.mono ?_); rintro e w1 ⟨rfl, hb1⟩)
    | (go_at_call 43; (with_reducible refine (cr _ hb1).mono ?_); rintro e w2 ⟨q, rfl, hq, hb2⟩))
  have HQ := hid hq
  have HB := hid hb2
  clear hq hb2 hb1 cr cg
  go_loopw [29] (fun i wr => ∃ k : Nat, k ≤ N ∧ i = .int .i64 (k : Int) ∧ (∃ m, wr = w2.drewN m) ∧ Hid (∀ j, j < k → F.ws.getD (A + j) 0 = 4294967295)) (fun i _ => N - (intOf i).toNat)
  case atStart => exact ⟨0, Nat.zero_le _, rfl, ⟨0, rfl⟩, hid (fun i h => by omega)⟩
  case round =>
    obtain ⟨k, hk, rfl, ⟨m, rfl⟩, hall⟩ := hrel
    by_cases hlt : k < N
    · obtain ⟨qb, qo, hqq, _, cQ⟩ := HQ.out.at hlt
      cases hqq
      have c2 : (w2.drewN m).cell? ⟨q, 0 + k, none⟩ = some (.int .u32 (((span F A N).getD k 0 : Nat) : Int)) := cQ k hlt
      rw [Nat.zero_add, span_getD _ _ _ _ hlt] at c2
      have i1 : (k : Int) < N := by omega
      have hxl := HS.out (A + k)
      clear cQ
      by_cases hx : F.ws.getD (A + k) 0 = 4294967295
      · have hnx : Hid (∀ j, j < k + 1 → F.ws.getD (A + j) 0 = 4294967295) := hid (fun i hi => by
          by_cases h : i < k
          · exact hall.out i h
          · rw [show i = k by omega]; exact hx)
        rw [hx] at c2
        clear hx hxl
        go_wp2
        exact ⟨⟨k + 1, by omega, by go_num, ⟨_, rfl⟩, hnx⟩, by simp [intOf]; omega⟩
      · have hvf := hid (ones_no hlt hx)
        have hne : ((F.ws.getD (A + k) 0 : Nat) : Int) ≠ 4294967295 := by omega
        clear hx
        generalize F.ws.getD (A + k) 0 = x1 at *
        go_wp2
        go_ret2
        exact ⟨by rw [hvf.out]; rfl, below_drewN HB.out _⟩
    · obtain rfl : k = N := by omega
      have hvt := hid (ones_yes hall.out)
      go_wp2
      go_ret2
      exact ⟨by rw [hvt.out]; rfl, below_drewN HB.out _⟩
theorem blank_this {S : Nat → Prop} {d b : Nat} {g : Geo} {F : Fl} {w : World} (h : DriveAt S d b g F w) (ok : F.Ok) (ft : Fit F g) (s a : Int) (ha : a ≤ 9223372036854775807) :
    Calls Tryz.prog 46 #[.pointer (some ⟨d, 0, none⟩), .int .i64 s, .int .i64 a] w fun e w' => e = .returned (.tuple #[.bool (blankAt F g s a).1, .int .i64 (blankAt F g s a).2]) ∧ Below w.heap.size w w' := by
  unfold blankAt
  by_cases hz : bad F g s a (g.sector - a) = 0
  · rw [if_neg (fun h => h hz)]
    exact blank_good h ok ft s a hz
  · rw [if_pos hz]
    exact blank_bad h ft.right s a ha hz
end Go.Proofs.YtphifanacehppaaGreat.drive
/- Contracts of a drive's Clean and Fresh. No condition but a flash with fewer than 2^60 writes. -/
namespace Go.Proofs.YtphifanacehppaaGreat.drive
open Go.RowKit Go.Proofs.YtphifanacehppaaGreat.flash Go.Proofs.YtphifanacehppaaGreat.geom Go.Proofs.YtphifanacehppaaGreat.word
set_option linter.unusedVariables false

theorem clean_none (s : Int) (w : World) : Calls Tryz.prog 56 #[.pointer none, .int .i64 s] w fun e w' => e = .returned (.int .i64 1) ∧ Below w.heap.size w w' := by
  go_enter Tryz.func56, Tryz.ntmps56
  go_wp2_with (go_at_call 46; (with_reducible refine (blank_none _ _ _).mono ?_); rintro e w1 ⟨rfl, hb1⟩)
  go_ret
  exact ⟨rfl, hb1⟩
theorem clean_this {S : Nat → Prop} {d b : Nat} {g : Geo} {F : Fl} {w : World} (h : DriveAt S d b g F w) (ok : F.Ok) (ft : Fit F g) (hc : F.count < 2305843009213693952) (s : Int) :
    Calls Tryz.prog 56 #[.pointer (some ⟨d, 0, none⟩), .int .i64 s] w (Did S b (clean F g s).2 (.int .i64 (clean F g s).1) w) := by
  have cb := blank_this h ok ft s 0 (by omega)
  have hbo := blank_or F g s 0
  have ce : ∀ w', Below w.heap.size w w' → Calls Tryz.prog 78 #[.pointer (some ⟨b, 0, none⟩), .int .i64 s] w' (Did S b (F.erase s).2 (.int .i64 (F.erase s).1) w') := fun w' hb => erase_did (h.later hb).fl ok (by omega) s
  have HS := h.seen
  have HF := hid h.fl
  have HD : Hid (∀ w' H, Turn S b H w' w' → True) := hid fun _ _ _ => trivial
  unfold clean
  clear h ok ft HD
  generalize blankAt F g s 0 = R at *
  obtain ⟨v, z⟩ := R
  simp only at *
  by_cases hz : z = 0
  · subst hz
    clear hbo
    cases v with
    | true =>
      rw [if_pos (.inr rfl)]
      clear ce
      go_enter Tryz.func56, Tryz.ntmps56
      go_wp2_with (go_at_call 46; (with_reducible refine cb.mono ?_); rintro e w1 ⟨rfl, hb1⟩)
      go_ret
      exact ⟨rfl, Turn.of HF.out hb1⟩
    | false =>
      rw [if_neg (by simp)]
      generalize F.erase s = E at *
      go_enter Tryz.func56, Tryz.ntmps56
      go_wp2_with (first
        | (go_at_call 46; (with_reducible refine cb.mono ?_); rintro e w1 ⟨rfl, hb1⟩; have hk1 := HS.out w1 hb1)
        | (go_at_call 78; (with_reducible refine (ce _ hb1).mono ?_); rintro e w2 ⟨rfl, ht⟩))
      go_ret
      exact ⟨rfl, Turn.before hb1 ht⟩
  · rw [if_pos (.inl hz)]
    clear ce
    rcases hbo with rfl | rfl | rfl
    · exact absurd rfl hz
    all_goals
      clear hz
      go_enter Tryz.func56, Tryz.ntmps56
      go_wp2_with (go_at_call 46; (with_reducible refine cb.mono ?_); rintro e w1 ⟨rfl, hb1⟩)
      go_ret
      exact ⟨rfl, Turn.of HF.out hb1⟩
theorem fresh_none (s : Int) (x : Option Addr) (n c : Nat) (w : World) : Calls Tryz.prog 72 #[.pointer none, .int .i64 s, .slice x n c] w (Quiet (.int .i64 1) w) := by
  go_enter Tryz.func72, Tryz.ntmps72
  go_wp2_with (go_at_call 66; (with_reducible refine (ready_none _ _ _ _).mono ?_); rintro e w1 ⟨rfl, m, rfl⟩)
  go_ret
  exact ⟨rfl, m, rfl⟩
/-- what a row of words that came in is still there behind a call that turned the flash -/
theorem Turn.reads {S S' : Nat → Prop} {w w' : World} {x : Option Addr} {n : Nat} {W : List Nat} (hr : Reads .u32 w x n W) (hsep : n = 0 ∨ ∃ y, x = some y ∧ ¬ S y.block) (h2 : ∀ y, S' y → y < w'.heap.size ∧ (S y ∨ w.heap.size ≤ y)) (h3 : Only S w w') :
    Reads .u32 w' x n W ∧ (n = 0 ∨ ∃ y, x = some y ∧ ¬ S' y.block) := by
  refine ⟨reads_only hr h3 hsep, ?_⟩
  rcases hsep with h0 | ⟨y, hy, hn⟩
  · exact .inl h0
  · rcases hr.2 with h0 | ⟨b, off, hx, hlt, _⟩
    · exact .inl h0
    · rw [hy] at hx
      cases hx
      refine .inr ⟨_, hy, fun hs => ?_⟩
      rcases (h2 _ hs).2 with h | h
      · exact hn h
      · simp at h; omega
theorem fresh_this {S : Nat → Prop} {d b : Nat} {g : Geo} {F : Fl} {w : World} (h : DriveAt S d b g F w) (ok : F.Ok) (ft : Fit F g) (hc : F.count < 1152921504606846976) (s : Int) (x : Option Addr) (n c : Nat) (W : List Nat)
    (hr : Reads .u32 w x n W) (hW : ∀ y ∈ W, y < 4294967296) (hsep : n = 0 ∨ ∃ y, x = some y ∧ ¬ S y.block) :
    Calls Tryz.prog 72 #[.pointer (some ⟨d, 0, none⟩), .int .i64 s, .slice x n c] w (Did S b (fresh F g s W).2 (.int .i64 (fresh F g s W).1) w) := by
  have hl := hr.1
  have cy := ready_this h ft.right s 0 n (by omega)
  have hbo := bad_or F g s 0 n
  have st := clean_step ok g s
  have cc : ∀ w', Below w.heap.size w w' → Calls Tryz.prog 56 #[.pointer (some ⟨d, 0, none⟩), .int .i64 s] w' (Did S b (clean F g s).2 (.int .i64 (clean F g s).1) w') := fun w' hb => clean_this (h.later hb) ok ft (by omega) s
  have cw : ∀ w1 w2, Below w.heap.size w w1 → Turn S b (clean F g s).2 w1 w2 → Calls Tryz.prog 73 #[.pointer (some ⟨d, 0, none⟩), .int .i64 s, .int .i64 0, .slice x n c] w2 fun e w' => e = .returned (.int .i64 (write (clean F g s).2 g s 0 W).1) ∧ Turn S b (write (clean F g s).2 g s 0 W).2 w w' := fun w1 w2 hb ht => by
    obtain ⟨S', hD, h2, h3⟩ := (h.later hb).turn ht
    obtain ⟨r1, r2⟩ := Turn.reads (hr.below hb) hsep h2 h3
    refine (write_this hD st.ok (ft.like st.like) (by have := st.c2; omega) s 0 (by omega) x n c W r1 hW r2).mono ?_
    rintro e w' ⟨he, k⟩
    exact ⟨he, Turn.before hb (Turn.join h2 h3 k)⟩
  have HF := hid h.fl
  unfold fresh
  rw [hl]
  clear h ok ft hr hW hsep st hl hc
  by_cases hz : bad F g s 0 n = 0
  · rw [hz] at cy
    rw [if_neg (fun h => h hz)]
    clear hbo hz
    generalize clean F g s = C at *
    obtain ⟨z, G⟩ := C
    simp only at *
    by_cases hz : z = 0
    · subst hz
      rw [if_neg (fun h => h rfl)]
      generalize write G g s 0 W = R at *
      go_enter Tryz.func72, Tryz.ntmps72
      go_wp2_with (first
        | (go_at_call 66; (with_reducible refine cy.mono ?_); rintro e w1 ⟨rfl, hb1⟩)
        | (go_at_call 56; (with_reducible refine (cc _ hb1).mono ?_); rintro e w2 ⟨rfl, ht0⟩; have ht : Turn S b G w1 w2 := ht0)
        | (go_at_call 73; (with_reducible refine (cw _ _ hb1 ht).mono ?_); rintro e w3 ⟨rfl, ht2⟩))
      go_ret
      exact ⟨rfl, ht2⟩
    · rw [if_pos hz]
      clear cw
      go_enter Tryz.func72, Tryz.ntmps72
      go_wp2_with (first
        | (go_at_call 66; (with_reducible refine cy.mono ?_); rintro e w1 ⟨rfl, hb1⟩)
        | (go_at_call 56; (with_reducible refine (cc _ hb1).mono ?_); rintro e w2 ⟨rfl, ht⟩))
      go_ret
      exact ⟨rfl, Turn.before hb1 ht⟩
  · rw [if_pos hz]
    generalize bad F g s 0 n = z at *
    clear cc cw
    rcases hbo with rfl | rfl | rfl
    · exact absurd rfl hz
    all_goals
      clear hz
      go_enter Tryz.func72, Tryz.ntmps72
      go_wp2_with (go_at_call 66; (with_reducible refine cy.mono ?_); rintro e w1 ⟨rfl, hb1⟩)
      go_ret
      exact ⟨rfl, Turn.of HF.out hb1⟩
end Go.Proofs.YtphifanacehppaaGreat.drive
