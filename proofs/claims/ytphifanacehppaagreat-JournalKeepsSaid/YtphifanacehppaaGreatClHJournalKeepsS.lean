/- Lemmas of the claim HJournalKeeps. Each says its own conditions. -/
import Derived.Test.YtphifanacehppaaGreatClHJournalKeepsO
import Derived.Test.YtphifanacehppaaGreatClHJournalKeepsR
/- Contract of run of layer 11's statements. No condition but acts as few and as small as the statements ask. -/
namespace Go.Proofs.YtphifanacehppaaGreat.journal
open Go Go.RowKit Go.Proofs.YtphifanacehppaaGreat.flash Go.Proofs.YtphifanacehppaaGreat.geom Go.Proofs.YtphifanacehppaaGreat.word
set_option linter.unusedVariables false

/-- at the head of the loop -/
structure RunAt (w0 : World) (Q : Nat → Prop) (j d b r e c : Nat) (g : Geo) (F : Fl) (J : Jv) (pb rb B : Nat) (w wr : World) : Prop where
  duo : Duo2 w0 (AndTwo Q pb rb) j d b r e c g F J F J wr
  pv : Block wr pb 34 [.pointer (some ⟨b, 0, none⟩), .pointer (some ⟨d, 0, none⟩), .pointer (some ⟨j, 0, none⟩), .pointer (some ⟨r, 0, none⟩)]
  rv : Block wr rb 34 [.pointer none, .pointer none, .pointer none, .pointer none]
  inv : Inv F g J
  lit : F.dark = false
  cnt : F.count ≤ B
  st : Stays Q w wr
theorem ne_self (z : Int) : (z != z) = false := by simp
theorem power_count (F : Fl) : F.power.count = F.count := rfl
/-- the acts in memory, in every world in which what there was at first stands -/
theorem acts_at {w0 w : World} {a0 : Option Addr} {l : List JAct} (ac : JActs w0 a0 l) {k : Nat} (hk : k < l.length) (hb : Below w0.heap.size w0 w) :
    ∃ b2 off q, a0 = some ⟨b2, off, none⟩ ∧ l[k]? = some q ∧ w.cell? ⟨b2, off + k * 4, none⟩ = some (.int .i64 q.k) ∧ w.cell? ⟨b2, off + k * 4 + 1, none⟩ = some (.int .i64 q.n) ∧ w.cell? ⟨b2, off + k * 4 + 2, none⟩ = some (.slice q.l q.lLen q.lCap) ∧ w.cell? ⟨b2, off + k * 4 + 3, none⟩ = some (.slice q.v q.vLen q.vCap) := by
  obtain ⟨b2, off, q, h1, _, h2, h3⟩ := (ac.below hb).at hk
  exact ⟨b2, off, q, h1, h2, h3⟩
/-- within a round: the act in a variable of its own -/
structure Mid (w0 : World) (Q : Nat → Prop) (j d b r e c : Nat) (g : Geo) (F : Fl) (J : Jv) (G : Fl) (K : Jv) (pb rb ab : Nat) (av : List Value) (wS w : World) : Prop where
  duo : Duo2 w0 (AndTwo (AndTwo Q pb rb) ab ab) j d b r e c g F J G K w
  pv : Block w pb 34 [.pointer (some ⟨b, 0, none⟩), .pointer (some ⟨d, 0, none⟩), .pointer (some ⟨j, 0, none⟩), .pointer (some ⟨r, 0, none⟩)]
  rv : Block w rb 34 [.pointer none, .pointer none, .pointer none, .pointer none]
  av : Block w ab 40 av
  st : Stays Q wS w
section
variable {w0 wS w w' : World} {Q : Nat → Prop} {j d b r e c pb rb ab : Nat} {g : Geo} {F G F2 G2 : Fl} {J K J2 K2 : Jv} {av : List Value}
theorem Mid.later (h : Mid w0 Q j d b r e c g F J G K pb rb ab av wS w) (k : Below w.heap.size w w') : Mid w0 Q j d b r e c g F J G K pb rb ab av wS w' :=
  ⟨h.duo.later k, h.pv.later k, h.rv.later k, h.av.later k, h.st.trans (.below k)⟩
theorem Mid.next (h : Mid w0 Q j d b r e c g F J G K pb rb ab av wS w) (D : Duo2 w0 (AndTwo (AndTwo Q pb rb) ab ab) j d b r e c g F2 J2 G2 K2 w') (s : Stays (AndTwo (AndTwo Q pb rb) ab ab) w w') : Mid w0 Q j d b r e c g F2 J2 G2 K2 pb rb ab av wS w' :=
  ⟨D, s.blk h.pv (.inl (.inr (.inl rfl))), s.blk h.rv (.inl (.inr (.inr rfl))), s.blk h.av (.inr (.inl rfl)), h.st.trans ⟨s.size, fun x hx hl => s.block x (.inl (.inl hx)) hl⟩⟩
theorem Mid.pair (h : Mid w0 Q j d b r e c g F J G K pb rb ab av wS w) : w.cell? ⟨pb, 0, none⟩ = some (.pointer (some ⟨b, 0, none⟩)) ∧ w.cell? ⟨pb, 1, none⟩ = some (.pointer (some ⟨d, 0, none⟩)) ∧ w.cell? ⟨pb, 2, none⟩ = some (.pointer (some ⟨j, 0, none⟩)) ∧ w.cell? ⟨pb, 3, none⟩ = some (.pointer (some ⟨r, 0, none⟩)) :=
  ⟨h.pv.cell 0, h.pv.cell 1, h.pv.cell 2, h.pv.cell 3⟩
theorem Mid.act {x0 x1 x2 x3 : Value} (h : Mid w0 Q j d b r e c g F J G K pb rb ab [x0, x1, x2, x3] wS w) : w.cell? ⟨ab, 0, none⟩ = some x0 ∧ w.cell? ⟨ab, 1, none⟩ = some x1 ∧ w.cell? ⟨ab, 2, none⟩ = some x2 ∧ w.cell? ⟨ab, 3, none⟩ = some x3 :=
  ⟨h.av.cell 0, h.av.cell 1, h.av.cell 2, h.av.cell 3⟩
theorem Mid.head (h : Mid w0 Q j d b r e c g F J F J pb rb ab av wS w) {B : Nat} (inv : Inv F g J) (lit : F.dark = false) (cnt : F.count ≤ B) : RunAt w0 Q j d b r e c g F J pb rb B wS w :=
  ⟨h.duo.less fun x hx => .inl hx, h.pv, h.rv, inv, lit, cnt, h.st⟩
/-- behind opened, whose pair was stored -/
theorem Mid.stored {j2 r2 B : Nat} (h : Mid w0 Q j d b r e c g F J G K pb rb ab av wS w) (D : Duo2 w0 (AndTwo (AndTwo Q pb rb) ab ab) j2 d b r2 e c g F2 J2 F2 J2 w') (s : Stays (AndTwo (AndTwo Q pb rb) ab ab) w w') (hp : w0.heap.size ≤ pb) (hne : pb ≠ rb) (hQ : ∀ x, Q x → x ≠ pb) (inv : Inv F2 g J2) (lit : F2.dark = false) (cnt : F2.count ≤ B) :
    RunAt w0 Q j2 d b r2 e c g F2 J2 pb rb B wS ((((w'.setCell ⟨pb, 0, none⟩ (.pointer (some ⟨b, 0, none⟩))).setCell ⟨pb, 1, none⟩ (.pointer (some ⟨d, 0, none⟩))).setCell ⟨pb, 2, none⟩ (.pointer (some ⟨j2, 0, none⟩))).setCell ⟨pb, 3, none⟩ (.pointer (some ⟨r2, 0, none⟩))) := by
  have hO : Only (fun x => x = pb) w' ((((w'.setCell ⟨pb, 0, none⟩ (.pointer (some ⟨b, 0, none⟩))).setCell ⟨pb, 1, none⟩ (.pointer (some ⟨d, 0, none⟩))).setCell ⟨pb, 2, none⟩ (.pointer (some ⟨j2, 0, none⟩))).setCell ⟨pb, 3, none⟩ (.pointer (some ⟨r2, 0, none⟩))) :=
    ((((Only.refl (fun x => x = pb) w').setCell (g := pb) (.inl rfl) 0 _).setCell (g := pb) (.inl rfl) 1 _).setCell (g := pb) (.inl rfl) 2 _).setCell (g := pb) (.inl rfl) 3 _
  have P := s.blk h.pv (.inl (.inr (.inl rfl)))
  have R := s.blk h.rv (.inl (.inr (.inr rfl)))
  refine ⟨(D.set hO fun x hx => by subst hx; exact ⟨.inl (.inr (.inl rfl)), hp⟩).less fun x hx => .inl hx, (((P.setCell 0 _).setCell 1 _).setCell 2 _).setCell 3 _, R.only hO (fun e => hne e.symm), inv, lit, cnt, (h.st.trans ⟨s.size, fun x hx hl => s.block x (.inl (.inl hx)) hl⟩).trans (.only hO fun x hx e => hQ x hx e)⟩
/-- the act is laid in a variable -/
theorem RunAt.mid {B : Nat} (h : RunAt w0 Q j d b r e c g F J pb rb B wS w) (x0 x1 x2 x3 : Value) : Mid w0 Q j d b r e c g F J F J pb rb w.heap.size [x0, x1, x2, x3] wS (w.alloc (.cells #[x0, x1, x2, x3] 40)) := by
  have hb : Below w.heap.size w (w.alloc (.cells #[x0, x1, x2, x3] 40)) := (Below.refl _ _).alloc (Nat.le_refl _) _
  have hA := Block.new w 40 [x0, x1, x2, x3]
  refine ⟨h.duo.more hb fun x hx => ?_, h.pv.later hb, h.rv.later hb, hA, h.st.trans (.below hb)⟩
  rcases hx with hx | rfl | rfl
  · exact .inl hx
  · exact .inr ⟨Nat.le_refl _, hA.lt⟩
  · exact .inr ⟨Nat.le_refl _, hA.lt⟩
end
section
variable {w0 wr w : World} {Q : Nat → Prop} {j d b r e c : Nat} {g : Geo} {F : Fl} {J : Jv}
set_option maxRecDepth 20000 in
set_option maxHeartbeats 12800000 in
theorem run_this (h : Duo2 w0 Q j d b r e c g F J F J w) (inv : Inv F g J) (hd : F.dark = false) (hcnt : F.count ≤ 100000) (a0 : Option Addr) (cap : Nat) (l : List JAct) (ac : JActs w0 a0 l) (fp : ∀ p ∈ l, p.Good w0) (hbig : bigL l = false) :
    Calls Tryz.prog 10 #[.agg #[.pointer (some ⟨b, 0, none⟩), .pointer (some ⟨d, 0, none⟩), .pointer (some ⟨j, 0, none⟩), .pointer (some ⟨r, 0, none⟩)], .slice a0 l.length cap] w fun o w' =>
      ∃ j2 r2 F2 J2, o = .returned (.tuple #[.agg #[.pointer (some ⟨b, 0, none⟩), .pointer (some ⟨d, 0, none⟩), .pointer (some ⟨j2, 0, none⟩), .pointer (some ⟨r2, 0, none⟩)], .bool true]) ∧ Duo2 w0 Q j2 d b r2 e c g F2 J2 F2 J2 w' ∧ Inv F2 g J2 ∧ F2.dark = false ∧ F2.count ≤ F.count + 60 * l.length ∧ Stays Q w w' := by
  obtain ⟨hl1, hl2⟩ := not_big hbig
  obtain ⟨w1, hw1⟩ : ∃ z, Hid ((w.alloc (.cells #[.pointer (some ⟨b, 0, none⟩), .pointer (some ⟨d, 0, none⟩), .pointer (some ⟨j, 0, none⟩), .pointer (some ⟨r, 0, none⟩)] 34)).alloc (.cells #[.pointer none, .pointer none, .pointer none, .pointer none] 34) = z) := ⟨_, rfl⟩
  have hb1 : Below w.heap.size w w1 := by rw [← hw1.out]; exact ((Below.refl _ _).alloc (Nat.le_refl _) _).alloc (by simp) _
  have hP : Block w1 w.heap.size 34 [.pointer (some ⟨b, 0, none⟩), .pointer (some ⟨d, 0, none⟩), .pointer (some ⟨j, 0, none⟩), .pointer (some ⟨r, 0, none⟩)] := by
    rw [← hw1.out]
    exact (Block.new w 34 [.pointer (some ⟨b, 0, none⟩), .pointer (some ⟨d, 0, none⟩), .pointer (some ⟨j, 0, none⟩), .pointer (some ⟨r, 0, none⟩)]).alloc _
  have hR : Block w1 (w.heap.size + 1) 34 [.pointer none, .pointer none, .pointer none, .pointer none] := by
    rw [← hw1.out]
    have := Block.new (w.alloc (.cells #[.pointer (some ⟨b, 0, none⟩), .pointer (some ⟨d, 0, none⟩), .pointer (some ⟨j, 0, none⟩), .pointer (some ⟨r, 0, none⟩)] 34)) 34 [.pointer none, .pointer none, .pointer none, .pointer none]
    simpa using this
  have D1 := h.more (Q' := AndTwo Q w.heap.size (w.heap.size + 1)) hb1 (fun x hx => by
    rcases hx with hx | rfl | rfl
    · exact .inl hx
    · exact .inr ⟨Nat.le_refl _, hP.lt⟩
    · exact .inr ⟨Nat.le_succ _, hR.lt⟩)
  have hw0 : w0.heap.size ≤ w.heap.size := h.below.size
  have HQLT : Hid (∀ x, Q x → x < w.heap.size) := hid fun x hx => by obtain ⟨M, N, _, hq⟩ := h; exact (hq x hx).1
  have HST := hid (RunAt.mk (B := F.count + 60 * 0) (w := w) D1 hP hR inv hd (by omega) (.below hb1))
  have HAC := hid ac
  have HFP := hid fp
  have HL2 := hid hl2
  have hlb : (l.length : Int) ≤ 60 := by omega
  have HC := hid hcnt
  clear h inv hd ac fp hbig hl2 hb1 hP hR D1 hcnt
  go_enter Tryz.func10, Tryz.ntmps10
  go_wp2_with fail
  rw [hw1.out]
  go_wp2
  go_loopw [6] (fun i wr => ∃ k : Nat, k ≤ l.length ∧ i = .int .i64 (k : Int) ∧ ∃ j' r' F' J', Hid (RunAt w0 Q j' d b r' e c g F' J' w.heap.size (w.heap.size + 1) (F.count + 60 * k) w wr)) (fun i _ => l.length - (intOf i).toNat)
  case atStart => exact ⟨0, Nat.zero_le _, rfl, j, r, F, J, HST⟩
  case round =>
    obtain ⟨k, hk, rfl, j', r', F', J', hrun⟩ := hrel
    clear HST
    by_cases hlt : k < l.length
    · obtain ⟨b2, off, q, rfl, hq2, c0, c1, c2, c3⟩ := acts_at HAC.out hlt hrun.out.duo.below
      have hqg := HFP.out q (List.mem_of_getElem? hq2)
      have hql := HL2.out q (List.mem_of_getElem? hq2)
      have i1 : (k : Int) < l.length := by omega
      have HN := hid (show w.heap.size ≠ w.heap.size + 1 ∧ ∀ x, Q x → x ≠ w.heap.size from ⟨by omega, fun x hx => by have := HQLT.out x hx; omega⟩)
      have hcF : F'.count ≤ 200000 := by have := hrun.out.cnt; have := HC.out; omega
      have m2 := hrun.out.mid (.int .i64 q.k) (.int .i64 q.n) (.slice q.l q.lLen q.lCap) (.slice q.v q.vLen q.vCap)
      obtain ⟨w2, hw2⟩ : ∃ z, Hid (wr.alloc (.cells #[.int .i64 q.k, .int .i64 q.n, .slice q.l q.lLen q.lCap, .slice q.v q.vLen q.vCap] 40) = z) := ⟨_, rfl⟩
      rw [hw2.out] at m2
      have inv := hrun.out.inv
      have lit := hrun.out.lit
      have HCK := hid hrun.out.cnt
      have HG := hid hqg
      have HLL := hid hql
      generalize l.length = N at *
      by_cases e5 : q.k = 5
      · rw [e5] at m2 hw2 c0
        have car := duo_arm m2.duo inv.fits.ok q.n hqg.bn.2 q.l q.lLen q.lCap q.lW (hqg.rl.below m2.duo.below) hqg.cl (by have := hql.1; omega) hqg.dl (hqg.sepl.imp id fun ⟨y, hy, hb⟩ => ⟨y, hy, .inl hb⟩)
        have n2 := m2.pair
        have o2 := m2.act
        have inv1 : Inv (F'.arm q.n q.lW) g J' := inv.arm hqg.bn.2 (by have := hqg.rl.1; have := hql.1; omega) hqg.ml
        have lit1 : (F'.arm q.n q.lW).dark = false := lit
        have hc1 : (F'.arm q.n q.lW).count < 1152921504606846976 := by show F'.count < _; omega
        have lv := act_leaves inv1 lit1 5 hqg.ml hqg.mv
        have st := act_step (J := J') inv1.fits 5 hqg.ml hqg.mv
        have pw0 : wr.cell? ⟨w.heap.size, 0, none⟩ = some (.pointer (some ⟨b, 0, none⟩)) := hrun.out.pv.cell 0
        have hwl : w.heap.size < wr.heap.size := hrun.out.pv.lt
        go_wp2_with fail
        rw [hw2.out]
        go_wp2_with (go_at_call 13; ((with_reducible refine car.mono ?_); rintro o w3 ⟨rfl, D3, s3⟩; have HM3 := hid (m2.next D3 s3); clear D3 s3))
        have hbA : Below w3.heap.size w3 w3.drew := below_drewN (Below.refl _ _) 1
        have mA := HM3.out.later hbA
        have kA := mA.pair
        have aA := mA.act
        have rA := duo_rcells mA.duo
        have crm := duo_rarm mA.duo q.n hqg.bn.2 hqg.bn.1 q.l q.lLen q.lCap q.lW (hqg.rl.below mA.duo.below) (by have := hql.1; omega) (hqg.sepl.imp id fun ⟨y, hy, hb⟩ => ⟨y, hy, .inl hb⟩)
        clear car n2 o2 m2
        go_region_held3 (fun w' => w'.cell? ⟨w.heap.size, 3, none⟩ = some (.pointer (some ⟨r', 0, none⟩)) ∧ w'.cell? ⟨r', 0, none⟩ = some (.pointer (some ⟨e, 0, none⟩)) ∧ w'.cell? ⟨e, 0, none⟩ = some (.pointer (some ⟨c, 0, none⟩)) ∧ w'.cell? ⟨wr.heap.size, 1, none⟩ = some (.int .i64 q.n) ∧ w'.cell? ⟨wr.heap.size, 2, none⟩ = some (.slice q.l q.lLen q.lCap)) (first | assumption | go_keep) (
          (go_at_call 35; (with_reducible refine crm.mono ?_); rintro o wb ⟨rfl, DB, sB⟩; have m5 := mA.next DB sB; have kB := m5.pair; have aB := m5.act; have rB := duo_rcells m5.duo))
        clear crm mA kA aA rA
        have z10 : (actV (F'.arm q.n q.lW) g J' 5 q.lW q.vW).1 = 0 := by unfold actV; rw [if_neg (by decide), if_neg (by decide), if_neg (by decide)]
        have hz : Hid ((actV (F'.arm q.n q.lW) g J' 5 q.lW q.vW).1 = 0) := hid z10
        obtain ⟨G, hG⟩ : ∃ z, Hid ((actV (F'.arm q.n q.lW) g J' 5 q.lW q.vW).2.1 = z) := ⟨_, rfl⟩
        obtain ⟨K, hK⟩ : ∃ z, Hid ((actV (F'.arm q.n q.lW) g J' 5 q.lW q.vW).2.2 = z) := ⟨_, rfl⟩
        have hbd : Below wb.heap.size wb wb.drew := below_drewN (Below.refl _ _) 1
        have m8 := m5.later hbd
        have cdo := duo_do m8.duo inv1.fits hc1 inv1.sound inv1.seq (5) q.n q.l q.v q.lLen q.lCap q.vLen q.vCap q.lW q.vW (hqg.rl.below m8.duo.below) hqg.ml (hqg.rv.below m8.duo.below) hqg.mv (by have := hql.1; omega) (by have := hql.2; omega)
        rw [hz.out, hG.out, hK.out] at cdo
        have ctold : ∀ w', Duo2 w0 (AndTwo (AndTwo Q w.heap.size (w.heap.size + 1)) wr.heap.size wr.heap.size) j' d b r' e c g G K (F'.arm q.n q.lW) J' w' → Calls Tryz.prog 12 #[.pointer (some ⟨r', 0, none⟩), .agg #[.int .i64 (5), .int .i64 q.n, .slice q.l q.lLen q.lCap, .slice q.v q.vLen q.vCap]] w' fun o w2 => o = .returned (.int .i64 0) ∧ Duo2 w0 (AndTwo (AndTwo Q w.heap.size (w.heap.size + 1)) wr.heap.size wr.heap.size) j' d b r' e c g G K G K w2 ∧ Stays (AndTwo (AndTwo Q w.heap.size (w.heap.size + 1)) wr.heap.size wr.heap.size) w' w2 := fun w' D => by
          have := duo_told D inv1.fits hc1 inv1.sound inv1.seq (5) q.n q.l q.v q.lLen q.lCap q.vLen q.vCap q.lW q.vW (hqg.rl.below D.below) hqg.ml (hqg.rv.below D.below) hqg.mv
          rwa [hz.out, hG.out, hK.out] at this
        have k8 := m8.pair
        have a8 := m8.act
        have nz : (actV (F'.arm q.n q.lW) g J' 5 q.lW q.vW).1 ≠ 10 := by rw [z10]; decide
        have lvA : Inv G g K ∧ G.dark = false := by
          rcases lv.1 with ⟨h1, h2, h3, h4⟩ | ⟨h1, _⟩
          · rw [hG.out] at h2 h4
            rw [hK.out] at h3
            rw [← h3] at h4
            exact ⟨h4, h2⟩
          · exact absurd h1 nz
        obtain ⟨invG, litG⟩ := lvA
        have HCG : Hid (G.count ≤ F.count + 60 * (k + 1)) := hid (by have h1 := st.c2; rw [hG.out] at h1; have := HCK.out; have hac : (F'.arm q.n q.lW).count = F'.count := rfl; omega)
        clear lv st z10 nz hqg hql hq2 e5 kB aB rB m5
        go_wp2
        go_region_held3 (fun w' => w'.cell? ⟨w.heap.size, 2, none⟩ = some (.pointer (some ⟨j', 0, none⟩)) ∧ w'.cell? ⟨w.heap.size, 3, none⟩ = some (.pointer (some ⟨r', 0, none⟩)) ∧ w'.cell? ⟨wr.heap.size, 0, none⟩ = some (.int .i64 5) ∧ w'.cell? ⟨wr.heap.size, 1, none⟩ = some (.int .i64 q.n) ∧ w'.cell? ⟨wr.heap.size, 2, none⟩ = some (.slice q.l q.lLen q.lCap) ∧ w'.cell? ⟨wr.heap.size, 3, none⟩ = some (.slice q.v q.vLen q.vCap)) (first | assumption | go_keep) (first
          | (go_at_call 14; (with_reducible refine cdo.mono ?_); rintro o w3 ⟨rfl, D3, s3⟩; have m3 := m8.next D3 s3; have k3 := m3.pair; have a3 := m3.act)
          | (go_at_call 12; (with_reducible refine (ctold _ D3).mono ?_); rintro o w4 ⟨rfl, D4, s4⟩; have m4 := m3.next D4 s4; have k4 := m4.pair; have a4 := m4.act))
        have hM4 := hid m4
        clear cdo ctold m8 k8 a8 m3 k3 a3 D3 s3 D4 s4
        have hq := ne_self 0
        go_wp2
        have hb9 : Below w4.heap.size w4 w4.drew := below_drewN (Below.refl _ _) 1
        have m9 := hM4.out.later hb9
        obtain ⟨gW, cW, hseen, cwords, csame⟩ := duo_seen m9.duo invG.fits.ok
        have k9 := m9.pair
        have n9 := hseen _ (Below.refl _ _)
        have HSE := hid hseen
        have HM9 := hid m9
        have cw9 := cwords _ (Below.refl _ _)
        clear hseen cwords m9 k4 a4 m4
        go_region_held3 (fun w' => w'.cell? ⟨w.heap.size, 0, none⟩ = some (.pointer (some ⟨b, 0, none⟩)) ∧ w'.cell? ⟨w.heap.size, 3, none⟩ = some (.pointer (some ⟨r', 0, none⟩)) ∧ w'.cell? ⟨r', 0, none⟩ = some (.pointer (some ⟨e, 0, none⟩)) ∧ w'.cell? ⟨e, 0, none⟩ = some (.pointer (some ⟨c, 0, none⟩)) ∧ w'.cell? ⟨c, 0, none⟩ = some (.slice (some ⟨gW, 0, none⟩) G.ws.length cW)) (first | assumption | go_keep) (first
          | (go_at_call 36; (with_reducible refine cw9.mono ?_); rintro o w5 ⟨qw, cq, rfl, hrd, hb5⟩; have n5 := HSE.out _ hb5; have k5 := (HM9.out.later hb5).pair; have cs5 := csame _ cq _ hrd hb5)
          | (go_at_call 18; (with_reducible refine cs5.mono ?_); rintro o w6 ⟨rfl, m6, rfl⟩; have n6 := HSE.out _ (below_drewN hb5 m6); have k6 := (HM9.out.later (below_drewN hb5 m6)).pair; have a6 := (HM9.out.later (below_drewN hb5 m6)).act))
        have M6 := hid (HM9.out.later (below_drewN hb5 m6))
        clear cw9 cs5 csame n9 k9 n5 k5 n6 hrd
        go_wp2_with (first
          | (go_at_call 37; ((with_reducible refine (duo_same M6.out.duo invG.fits invG.sound).mono ?_); rintro o w7 ⟨rfl, hb7⟩; have M7 := hid (M6.out.later hb7); have k7 := M7.out.pair; have a7 := M7.out.act)))
        exact ⟨⟨k + 1, by omega, by go_num, j', r', G, K, hid (M7.out.head invG litG HCG.out)⟩, by simp [intOf]; omega⟩
      · have f5 : (q.k == 5) = false := by simpa using e5
        have lv := act_leaves inv lit q.k hqg.ml hqg.mv
        have st := act_step (J := J') inv.fits q.k hqg.ml hqg.mv
        by_cases e4 : q.k = 4
        · rw [e4] at lv st m2 hw2 c0
          clear f5 e5
          have hc1 : F'.count < 1152921504606846976 := by omega
          have z10 : (actV F' g J' 4 q.lW q.vW).1 = 0 := by unfold actV; rw [if_neg (by decide), if_neg (by decide), if_neg (by decide)]
          have hz : Hid ((actV F' g J' 4 q.lW q.vW).1 = 0) := hid z10
          obtain ⟨G, hG⟩ : ∃ z, Hid ((actV F' g J' 4 q.lW q.vW).2.1 = z) := ⟨_, rfl⟩
          obtain ⟨K, hK⟩ : ∃ z, Hid ((actV F' g J' 4 q.lW q.vW).2.2 = z) := ⟨_, rfl⟩
          have hbd : Below w2.heap.size w2 w2.drew := below_drewN (Below.refl _ _) 1
          have m8 := m2.later hbd
          have cdo := duo_do m8.duo inv.fits hc1 inv.sound inv.seq (4) q.n q.l q.v q.lLen q.lCap q.vLen q.vCap q.lW q.vW (hqg.rl.below m8.duo.below) hqg.ml (hqg.rv.below m8.duo.below) hqg.mv (by have := hql.1; omega) (by have := hql.2; omega)
          rw [hz.out, hG.out, hK.out] at cdo
          have ctold : ∀ w', Duo2 w0 (AndTwo (AndTwo Q w.heap.size (w.heap.size + 1)) wr.heap.size wr.heap.size) j' d b r' e c g G K F' J' w' → Calls Tryz.prog 12 #[.pointer (some ⟨r', 0, none⟩), .agg #[.int .i64 (4), .int .i64 q.n, .slice q.l q.lLen q.lCap, .slice q.v q.vLen q.vCap]] w' fun o w2 => o = .returned (.int .i64 0) ∧ Duo2 w0 (AndTwo (AndTwo Q w.heap.size (w.heap.size + 1)) wr.heap.size wr.heap.size) j' d b r' e c g G K G K w2 ∧ Stays (AndTwo (AndTwo Q w.heap.size (w.heap.size + 1)) wr.heap.size wr.heap.size) w' w2 := fun w' D => by
            have := duo_told D inv.fits hc1 inv.sound inv.seq (4) q.n q.l q.v q.lLen q.lCap q.vLen q.vCap q.lW q.vW (hqg.rl.below D.below) hqg.ml (hqg.rv.below D.below) hqg.mv
            rwa [hz.out, hG.out, hK.out] at this
          have k8 := m8.pair
          have a8 := m8.act
          have nz : (actV F' g J' 4 q.lW q.vW).1 ≠ 10 := by rw [z10]; decide
          have lvA : Inv G g K ∧ G.dark = false := by
            rcases lv.1 with ⟨h1, h2, h3, h4⟩ | ⟨h1, _⟩
            · rw [hG.out] at h2 h4
              rw [hK.out] at h3
              rw [← h3] at h4
              exact ⟨h4, h2⟩
            · exact absurd h1 nz
          obtain ⟨invG, litG⟩ := lvA
          have HCG : Hid (G.count ≤ F.count + 60 * (k + 1)) := hid (by have h1 := st.c2; rw [hG.out] at h1; have := HCK.out; omega)
          clear lv st z10 nz hqg hql hq2 m2 e4
          go_wp2
          rw [hw2.out]
          go_region_held3 (fun w' => w'.cell? ⟨w.heap.size, 2, none⟩ = some (.pointer (some ⟨j', 0, none⟩)) ∧ w'.cell? ⟨w.heap.size, 3, none⟩ = some (.pointer (some ⟨r', 0, none⟩)) ∧ w'.cell? ⟨wr.heap.size, 0, none⟩ = some (.int .i64 4) ∧ w'.cell? ⟨wr.heap.size, 1, none⟩ = some (.int .i64 q.n) ∧ w'.cell? ⟨wr.heap.size, 2, none⟩ = some (.slice q.l q.lLen q.lCap) ∧ w'.cell? ⟨wr.heap.size, 3, none⟩ = some (.slice q.v q.vLen q.vCap)) (first | assumption | go_keep) (first
            | (go_at_call 14; (with_reducible refine cdo.mono ?_); rintro o w3 ⟨rfl, D3, s3⟩; have m3 := m8.next D3 s3; have k3 := m3.pair; have a3 := m3.act)
            | (go_at_call 12; (with_reducible refine (ctold _ D3).mono ?_); rintro o w4 ⟨rfl, D4, s4⟩; have m4 := m3.next D4 s4; have k4 := m4.pair; have a4 := m4.act))
          have hM4 := hid m4
          clear cdo ctold m8 k8 a8 m3 k3 a3 D3 s3 D4 s4
          have hq := ne_self 0
          go_wp2
          have hb9 : Below w4.heap.size w4 w4.drew := below_drewN (Below.refl _ _) 1
          have m9 := hM4.out.later hb9
          obtain ⟨gW, cW, hseen, cwords, csame⟩ := duo_seen m9.duo invG.fits.ok
          have k9 := m9.pair
          have n9 := hseen _ (Below.refl _ _)
          have HSE := hid hseen
          have HM9 := hid m9
          have cw9 := cwords _ (Below.refl _ _)
          clear hseen cwords m9 k4 a4 m4
          go_region_held3 (fun w' => w'.cell? ⟨w.heap.size, 0, none⟩ = some (.pointer (some ⟨b, 0, none⟩)) ∧ w'.cell? ⟨w.heap.size, 3, none⟩ = some (.pointer (some ⟨r', 0, none⟩)) ∧ w'.cell? ⟨r', 0, none⟩ = some (.pointer (some ⟨e, 0, none⟩)) ∧ w'.cell? ⟨e, 0, none⟩ = some (.pointer (some ⟨c, 0, none⟩)) ∧ w'.cell? ⟨c, 0, none⟩ = some (.slice (some ⟨gW, 0, none⟩) G.ws.length cW)) (first | assumption | go_keep) (first
            | (go_at_call 36; (with_reducible refine cw9.mono ?_); rintro o w5 ⟨qw, cq, rfl, hrd, hb5⟩; have n5 := HSE.out _ hb5; have k5 := (HM9.out.later hb5).pair; have cs5 := csame _ cq _ hrd hb5)
            | (go_at_call 18; (with_reducible refine cs5.mono ?_); rintro o w6 ⟨rfl, m6, rfl⟩; have n6 := HSE.out _ (below_drewN hb5 m6); have k6 := (HM9.out.later (below_drewN hb5 m6)).pair; have a6 := (HM9.out.later (below_drewN hb5 m6)).act))
          have M6 := hid (HM9.out.later (below_drewN hb5 m6))
          clear cw9 cs5 csame n9 k9 n5 k5 n6 hrd
          go_wp2_with (first
            | (go_at_call 37; ((with_reducible refine (duo_same M6.out.duo invG.fits invG.sound).mono ?_); rintro o w7 ⟨rfl, hb7⟩; have M7 := hid (M6.out.later hb7); have k7 := M7.out.pair; have a7 := M7.out.act))
            | (go_at_call 11; ((with_reducible refine (opened_this M7.out.duo invG).mono ?_); rintro o w8 ⟨j2, r2, rfl, D8, s8⟩; have P8 := s8.blk M7.out.pv (.inl (.inr (.inl rfl))); have x0 : w8.cell? ⟨w.heap.size, 0, none⟩ = some (.pointer (some ⟨b, 0, none⟩)) := P8.cell 0; have x1 : w8.cell? ⟨w.heap.size, 1, none⟩ = some (.pointer (some ⟨d, 0, none⟩)) := P8.cell 1; have x2 : w8.cell? ⟨w.heap.size, 2, none⟩ = some (.pointer (some ⟨j', 0, none⟩)) := P8.cell 2; have x3 : w8.cell? ⟨w.heap.size, 3, none⟩ = some (.pointer (some ⟨r', 0, none⟩)) := P8.cell 3; have y0 := P8.frozen 0; have y1 := P8.frozen 1; have y2 := P8.frozen 2; have y3 := P8.frozen 3; have HD8 := hid D8; have HS8 := hid s8; clear P8 D8 s8)))
          exact ⟨⟨k + 1, by omega, by go_num, j2, r2, G.power, K, hid (M7.out.stored HD8.out HS8.out hw0 HN.out.1 HN.out.2 invG.power rfl HCG.out)⟩, by simp [intOf]; omega⟩
        · have f4 : (q.k == 4) = false := by simpa using e4
          by_cases z10 : (actV F' g J' q.k q.lW q.vW).1 = 10
          · have hc1 : F'.count < 1152921504606846976 := by omega
            have hz : Hid ((actV F' g J' q.k q.lW q.vW).1 = 10) := hid z10
            obtain ⟨G, hG⟩ : ∃ z, Hid ((actV F' g J' q.k q.lW q.vW).2.1 = z) := ⟨_, rfl⟩
            obtain ⟨K, hK⟩ : ∃ z, Hid ((actV F' g J' q.k q.lW q.vW).2.2 = z) := ⟨_, rfl⟩
            have hbd : Below w2.heap.size w2 w2.drew := below_drewN (Below.refl _ _) 1
            have m8 := m2.later hbd
            have cdo := duo_do m8.duo inv.fits hc1 inv.sound inv.seq (q.k) q.n q.l q.v q.lLen q.lCap q.vLen q.vCap q.lW q.vW (hqg.rl.below m8.duo.below) hqg.ml (hqg.rv.below m8.duo.below) hqg.mv (by have := hql.1; omega) (by have := hql.2; omega)
            rw [hz.out, hG.out, hK.out] at cdo
            have ctold : ∀ w', Duo2 w0 (AndTwo (AndTwo Q w.heap.size (w.heap.size + 1)) wr.heap.size wr.heap.size) j' d b r' e c g G K F' J' w' → Calls Tryz.prog 12 #[.pointer (some ⟨r', 0, none⟩), .agg #[.int .i64 (q.k), .int .i64 q.n, .slice q.l q.lLen q.lCap, .slice q.v q.vLen q.vCap]] w' fun o w2 => o = .returned (.int .i64 10) ∧ Duo2 w0 (AndTwo (AndTwo Q w.heap.size (w.heap.size + 1)) wr.heap.size wr.heap.size) j' d b r' e c g G K G K w2 ∧ Stays (AndTwo (AndTwo Q w.heap.size (w.heap.size + 1)) wr.heap.size wr.heap.size) w' w2 := fun w' D => by
              have := duo_told D inv.fits hc1 inv.sound inv.seq (q.k) q.n q.l q.v q.lLen q.lCap q.vLen q.vCap q.lW q.vW (hqg.rl.below D.below) hqg.ml (hqg.rv.below D.below) hqg.mv
              rwa [hz.out, hG.out, hK.out] at this
            have k8 := m8.pair
            have a8 := m8.act
            have lvB : ∃ J2, Inv G g J2 := by
              rcases lv.1 with ⟨h1, _⟩ | ⟨_, J2, h2, _⟩
              · exact absurd z10 h1
              · exact ⟨J2, by rw [← hG.out]; exact h2⟩
            obtain ⟨J2, invG⟩ := lvB
            have HCG : Hid (G.count ≤ F.count + 60 * (k + 1)) := hid (by have h1 := st.c2; rw [hG.out] at h1; have := HCK.out; omega)
            clear lv st z10 hqg hql hq2 m2
            go_wp2
            rw [hw2.out]
            go_region_held3 (fun w' => w'.cell? ⟨w.heap.size, 2, none⟩ = some (.pointer (some ⟨j', 0, none⟩)) ∧ w'.cell? ⟨w.heap.size, 3, none⟩ = some (.pointer (some ⟨r', 0, none⟩)) ∧ w'.cell? ⟨wr.heap.size, 0, none⟩ = some (.int .i64 q.k) ∧ w'.cell? ⟨wr.heap.size, 1, none⟩ = some (.int .i64 q.n) ∧ w'.cell? ⟨wr.heap.size, 2, none⟩ = some (.slice q.l q.lLen q.lCap) ∧ w'.cell? ⟨wr.heap.size, 3, none⟩ = some (.slice q.v q.vLen q.vCap)) (first | assumption | go_keep) (first
              | (go_at_call 14; (with_reducible refine cdo.mono ?_); rintro o w3 ⟨rfl, D3, s3⟩; have m3 := m8.next D3 s3; have k3 := m3.pair; have a3 := m3.act)
              | (go_at_call 12; (with_reducible refine (ctold _ D3).mono ?_); rintro o w4 ⟨rfl, D4, s4⟩; have m4 := m3.next D4 s4; have k4 := m4.pair; have a4 := m4.act))
            have hM4 := hid m4
            clear cdo ctold m8 k8 a8 m3 k3 a3 D3 s3 D4 s4
            have hq := ne_self 10
            go_wp2
            have hb9 : Below w4.heap.size w4 w4.drew := below_drewN (Below.refl _ _) 1
            have m9 := hM4.out.later hb9
            obtain ⟨gW, cW, hseen, cwords, csame⟩ := duo_seen m9.duo invG.fits.ok
            have k9 := m9.pair
            have n9 := hseen _ (Below.refl _ _)
            have HSE := hid hseen
            have HM9 := hid m9
            have cw9 := cwords _ (Below.refl _ _)
            clear hseen cwords m9 k4 a4 m4
            go_region_held3 (fun w' => w'.cell? ⟨w.heap.size, 0, none⟩ = some (.pointer (some ⟨b, 0, none⟩)) ∧ w'.cell? ⟨w.heap.size, 3, none⟩ = some (.pointer (some ⟨r', 0, none⟩)) ∧ w'.cell? ⟨r', 0, none⟩ = some (.pointer (some ⟨e, 0, none⟩)) ∧ w'.cell? ⟨e, 0, none⟩ = some (.pointer (some ⟨c, 0, none⟩)) ∧ w'.cell? ⟨c, 0, none⟩ = some (.slice (some ⟨gW, 0, none⟩) G.ws.length cW)) (first | assumption | go_keep) (first
              | (go_at_call 36; (with_reducible refine cw9.mono ?_); rintro o w5 ⟨qw, cq, rfl, hrd, hb5⟩; have n5 := HSE.out _ hb5; have k5 := (HM9.out.later hb5).pair; have cs5 := csame _ cq _ hrd hb5)
              | (go_at_call 18; (with_reducible refine cs5.mono ?_); rintro o w6 ⟨rfl, m6, rfl⟩; have n6 := HSE.out _ (below_drewN hb5 m6); have k6 := (HM9.out.later (below_drewN hb5 m6)).pair; have a6 := (HM9.out.later (below_drewN hb5 m6)).act))
            have M6 := hid (HM9.out.later (below_drewN hb5 m6))
            clear cw9 cs5 csame n9 k9 n5 k5 n6 hrd
            go_wp2_with (first
              | (go_at_call 11; ((with_reducible refine (opened_this M6.out.duo invG).mono ?_); rintro o w8 ⟨j2, r2, rfl, D8, s8⟩; have P8 := s8.blk M6.out.pv (.inl (.inr (.inl rfl))); have x0 : w8.cell? ⟨w.heap.size, 0, none⟩ = some (.pointer (some ⟨b, 0, none⟩)) := P8.cell 0; have x1 : w8.cell? ⟨w.heap.size, 1, none⟩ = some (.pointer (some ⟨d, 0, none⟩)) := P8.cell 1; have x2 : w8.cell? ⟨w.heap.size, 2, none⟩ = some (.pointer (some ⟨j', 0, none⟩)) := P8.cell 2; have x3 : w8.cell? ⟨w.heap.size, 3, none⟩ = some (.pointer (some ⟨r', 0, none⟩)) := P8.cell 3; have y0 := P8.frozen 0; have y1 := P8.frozen 1; have y2 := P8.frozen 2; have y3 := P8.frozen 3; have HD8 := hid D8; have HS8 := hid s8; clear P8 D8 s8)))
            exact ⟨⟨k + 1, by omega, by go_num, j2, r2, G.power, J2, hid (M6.out.stored HD8.out HS8.out hw0 HN.out.1 HN.out.2 invG.power rfl HCG.out)⟩, by simp [intOf]; omega⟩
          · have hc1 : F'.count < 1152921504606846976 := by omega
            obtain ⟨z, hz⟩ : ∃ z, Hid ((actV F' g J' q.k q.lW q.vW).1 = z) := ⟨_, rfl⟩
            obtain ⟨G, hG⟩ : ∃ z, Hid ((actV F' g J' q.k q.lW q.vW).2.1 = z) := ⟨_, rfl⟩
            obtain ⟨K, hK⟩ : ∃ z, Hid ((actV F' g J' q.k q.lW q.vW).2.2 = z) := ⟨_, rfl⟩
            have hbd : Below w2.heap.size w2 w2.drew := below_drewN (Below.refl _ _) 1
            have m8 := m2.later hbd
            have cdo := duo_do m8.duo inv.fits hc1 inv.sound inv.seq (q.k) q.n q.l q.v q.lLen q.lCap q.vLen q.vCap q.lW q.vW (hqg.rl.below m8.duo.below) hqg.ml (hqg.rv.below m8.duo.below) hqg.mv (by have := hql.1; omega) (by have := hql.2; omega)
            rw [hz.out, hG.out, hK.out] at cdo
            have ctold : ∀ w', Duo2 w0 (AndTwo (AndTwo Q w.heap.size (w.heap.size + 1)) wr.heap.size wr.heap.size) j' d b r' e c g G K F' J' w' → Calls Tryz.prog 12 #[.pointer (some ⟨r', 0, none⟩), .agg #[.int .i64 (q.k), .int .i64 q.n, .slice q.l q.lLen q.lCap, .slice q.v q.vLen q.vCap]] w' fun o w2 => o = .returned (.int .i64 z) ∧ Duo2 w0 (AndTwo (AndTwo Q w.heap.size (w.heap.size + 1)) wr.heap.size wr.heap.size) j' d b r' e c g G K G K w2 ∧ Stays (AndTwo (AndTwo Q w.heap.size (w.heap.size + 1)) wr.heap.size wr.heap.size) w' w2 := fun w' D => by
              have := duo_told D inv.fits hc1 inv.sound inv.seq (q.k) q.n q.l q.v q.lLen q.lCap q.vLen q.vCap q.lW q.vW (hqg.rl.below D.below) hqg.ml (hqg.rv.below D.below) hqg.mv
              rwa [hz.out, hG.out, hK.out] at this
            have k8 := m8.pair
            have a8 := m8.act
            have nz : (actV F' g J' q.k q.lW q.vW).1 ≠ 10 := z10
            have fz : (z == 10) = false := by rw [← hz.out]; simpa using z10
            have lvA : Inv G g K ∧ G.dark = false := by
              rcases lv.1 with ⟨h1, h2, h3, h4⟩ | ⟨h1, _⟩
              · rw [hG.out] at h2 h4
                rw [hK.out] at h3
                rw [← h3] at h4
                exact ⟨h4, h2⟩
              · exact absurd h1 nz
            obtain ⟨invG, litG⟩ := lvA
            have HCG : Hid (G.count ≤ F.count + 60 * (k + 1)) := hid (by have h1 := st.c2; rw [hG.out] at h1; have := HCK.out; omega)
            clear lv st z10 nz hqg hql hq2 m2
            go_wp2
            rw [hw2.out]
            go_region_held3 (fun w' => w'.cell? ⟨w.heap.size, 2, none⟩ = some (.pointer (some ⟨j', 0, none⟩)) ∧ w'.cell? ⟨w.heap.size, 3, none⟩ = some (.pointer (some ⟨r', 0, none⟩)) ∧ w'.cell? ⟨wr.heap.size, 0, none⟩ = some (.int .i64 q.k) ∧ w'.cell? ⟨wr.heap.size, 1, none⟩ = some (.int .i64 q.n) ∧ w'.cell? ⟨wr.heap.size, 2, none⟩ = some (.slice q.l q.lLen q.lCap) ∧ w'.cell? ⟨wr.heap.size, 3, none⟩ = some (.slice q.v q.vLen q.vCap)) (first | assumption | go_keep) (first
              | (go_at_call 14; (with_reducible refine cdo.mono ?_); rintro o w3 ⟨rfl, D3, s3⟩; have m3 := m8.next D3 s3; have k3 := m3.pair; have a3 := m3.act)
              | (go_at_call 12; (with_reducible refine (ctold _ D3).mono ?_); rintro o w4 ⟨rfl, D4, s4⟩; have m4 := m3.next D4 s4; have k4 := m4.pair; have a4 := m4.act))
            have hM4 := hid m4
            clear cdo ctold m8 k8 a8 m3 k3 a3 D3 s3 D4 s4
            have hq : (z != z) = false := ne_self z
            go_wp2
            have hb9 : Below w4.heap.size w4 w4.drew := below_drewN (Below.refl _ _) 1
            have m9 := hM4.out.later hb9
            obtain ⟨gW, cW, hseen, cwords, csame⟩ := duo_seen m9.duo invG.fits.ok
            have k9 := m9.pair
            have n9 := hseen _ (Below.refl _ _)
            have HSE := hid hseen
            have HM9 := hid m9
            have cw9 := cwords _ (Below.refl _ _)
            clear hseen cwords m9 k4 a4 m4
            go_region_held3 (fun w' => w'.cell? ⟨w.heap.size, 0, none⟩ = some (.pointer (some ⟨b, 0, none⟩)) ∧ w'.cell? ⟨w.heap.size, 3, none⟩ = some (.pointer (some ⟨r', 0, none⟩)) ∧ w'.cell? ⟨r', 0, none⟩ = some (.pointer (some ⟨e, 0, none⟩)) ∧ w'.cell? ⟨e, 0, none⟩ = some (.pointer (some ⟨c, 0, none⟩)) ∧ w'.cell? ⟨c, 0, none⟩ = some (.slice (some ⟨gW, 0, none⟩) G.ws.length cW)) (first | assumption | go_keep) (first
              | (go_at_call 36; (with_reducible refine cw9.mono ?_); rintro o w5 ⟨qw, cq, rfl, hrd, hb5⟩; have n5 := HSE.out _ hb5; have k5 := (HM9.out.later hb5).pair; have cs5 := csame _ cq _ hrd hb5)
              | (go_at_call 18; (with_reducible refine cs5.mono ?_); rintro o w6 ⟨rfl, m6, rfl⟩; have n6 := HSE.out _ (below_drewN hb5 m6); have k6 := (HM9.out.later (below_drewN hb5 m6)).pair; have a6 := (HM9.out.later (below_drewN hb5 m6)).act))
            have M6 := hid (HM9.out.later (below_drewN hb5 m6))
            clear cw9 cs5 csame n9 k9 n5 k5 n6 hrd
            go_wp2_with (first
              | (go_at_call 37; ((with_reducible refine (duo_same M6.out.duo invG.fits invG.sound).mono ?_); rintro o w7 ⟨rfl, hb7⟩; have M7 := hid (M6.out.later hb7); have k7 := M7.out.pair; have a7 := M7.out.act)))
            exact ⟨⟨k + 1, by omega, by go_num, j', r', G, K, hid (M7.out.head invG litG HCG.out)⟩, by simp [intOf]; omega⟩
    · obtain rfl : k = l.length := by omega
      have p0 : wr.cell? ⟨w.heap.size, 0, none⟩ = some (.pointer (some ⟨b, 0, none⟩)) := hrun.out.pv.cell 0
      have p1 : wr.cell? ⟨w.heap.size, 1, none⟩ = some (.pointer (some ⟨d, 0, none⟩)) := hrun.out.pv.cell 1
      have p2 : wr.cell? ⟨w.heap.size, 2, none⟩ = some (.pointer (some ⟨j', 0, none⟩)) := hrun.out.pv.cell 2
      have p3 : wr.cell? ⟨w.heap.size, 3, none⟩ = some (.pointer (some ⟨r', 0, none⟩)) := hrun.out.pv.cell 3
      have z0 : wr.cell? ⟨w.heap.size + 1, 0, none⟩ = some (.pointer none) := hrun.out.rv.cell 0
      have z1 : wr.cell? ⟨w.heap.size + 1, 1, none⟩ = some (.pointer none) := hrun.out.rv.cell 1
      have z2 : wr.cell? ⟨w.heap.size + 1, 2, none⟩ = some (.pointer none) := hrun.out.rv.cell 2
      have z3 : wr.cell? ⟨w.heap.size + 1, 3, none⟩ = some (.pointer none) := hrun.out.rv.cell 3
      have f0 := hrun.out.rv.frozen 0
      have f1 := hrun.out.rv.frozen 1
      have f2 := hrun.out.rv.frozen 2
      have f3 := hrun.out.rv.frozen 3
      go_wp2
      obtain ⟨w8, hw8⟩ : ∃ z, Hid ((((wr.setCell ⟨w.heap.size + 1, 0, none⟩ (.pointer (some ⟨b, 0, none⟩))).setCell ⟨w.heap.size + 1, 1, none⟩ (.pointer (some ⟨d, 0, none⟩))).setCell ⟨w.heap.size + 1, 2, none⟩ (.pointer (some ⟨j', 0, none⟩))).setCell ⟨w.heap.size + 1, 3, none⟩ (.pointer (some ⟨r', 0, none⟩)) = z) := ⟨_, rfl⟩
      rw [hw8.out]
      have R9 : Block w8 (w.heap.size + 1) 34 [.pointer (some ⟨b, 0, none⟩), .pointer (some ⟨d, 0, none⟩), .pointer (some ⟨j', 0, none⟩), .pointer (some ⟨r', 0, none⟩)] := by
        rw [← hw8.out]
        exact (((hrun.out.rv.setCell 0 _).setCell 1 _).setCell 2 _).setCell 3 _
      have hO8 : Only (fun x => x = w.heap.size + 1) wr w8 := by
        rw [← hw8.out]
        exact ((((Only.refl (fun x => x = w.heap.size + 1) wr).setCell (g := w.heap.size + 1) (.inl rfl) 0 _).setCell (g := w.heap.size + 1) (.inl rfl) 1 _).setCell (g := w.heap.size + 1) (.inl rfl) 2 _).setCell (g := w.heap.size + 1) (.inl rfl) 3 _
      refine bodyPost_ret (results_pair (b := w.heap.size + 1) (o := 0) rfl rfl rfl R9.whole Tryz.underlying34 rfl pair_size) rfl ?_
      refine ⟨j', r', F', J', rfl, (hrun.out.duo.set hO8 fun x hx => by subst hx; exact ⟨.inr (.inr rfl), by omega⟩).less fun x hx => .inl hx, hrun.out.inv, hrun.out.lit, hrun.out.cnt, hrun.out.st.trans (.only hO8 fun x hx e => by have := HQLT.out x hx; omega)⟩
end
end Go.Proofs.YtphifanacehppaaGreat.journal
