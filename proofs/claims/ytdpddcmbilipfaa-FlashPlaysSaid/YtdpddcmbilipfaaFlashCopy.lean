/- Contract of Copy of layer 7 (flash). No condition. -/
import Derived.Test.YtdpddcmbilipfaaFlashArm
namespace Go.Proofs.Ytdpddcmbilipfaa.flash
open Go.RowKit Go.Proofs.Ytdpddcmbilipfaa.word
set_option linter.unusedVariables false

theorem copy_nil (w : World) : Calls Try.prog 10 #[.pointer none] w (Quiet (.pointer none) w) := by
  go_enter Try.func10, Try.ntmps10
  go_wp2
  go_ret
  exact ⟨rfl, 0, rfl⟩
theorem FuseAt.form {S no : Nat → Prop} {L : Nat} {fuse : Option (Nat × List Nat)} {ca cb cm : Value} {w : World} (h : FuseAt S no L fuse ca cb cm w) (hL : L ≤ 1024) :
    ∃ (a : Option Addr) (n c : Nat) (ms : List Nat), cm = .slice a n c ∧ Reads .u32 w a n ms ∧ n ≤ 1024 ∧ ca.oneCell' = true ∧ cb.oneCell' = true ∧
      ∀ (v : Value) (base : Nat) (w' : World) (T no' : Nat → Prop), w'.ownsRow base 32 1 v ms.length (nums .u32 ms) → (a = none → v = .slice none 0 0) → (∀ x, v.ownBlock = some x → T x ∧ ¬ no' x) → FuseAt T no' L fuse ca cb v w' := by
  match fuse, h with
  | none, ⟨h1, h2, h3⟩ =>
    refine ⟨none, 0, 0, [], h3, Reads.nil, by omega, by rw [h1]; rfl, by rw [h2]; rfl, fun v base w' T no' _ hv _ => ⟨h1, h2, hv rfl⟩⟩
  | some (n, M), ⟨h1, h2, a, c, h3, h0, h4, h5⟩ =>
    refine ⟨a, min M.length L, c, M.take L, h3, h4, by omega, by rw [h1]; rfl, by rw [h2]; rfl, fun v base w' T no' ho _ hx => ⟨h1, h2, ?_⟩⟩
    rw [h4.1] at ho
    obtain ⟨av, cv, rfl, hcv⟩ := ownsRow_slice ho
    refine ⟨av, cv, rfl, hcv, Reads.own ho, ?_⟩
    by_cases hz : min M.length L = 0
    · exact .inl hz
    · right
      obtain ⟨g, c', hv, hg, _⟩ := ownsRow_form ho (by omega)
      cases hv
      exact ⟨_, rfl, (hx g rfl).1, (hx g rfl).2⟩
theorem ownsRow_only {S : Nat → Prop} {w w' : World} {base e size n : Nat} {v : Value} {xs : List Value} (h : w.ownsRow base e size v n xs) (k : Only S w w') (hS : ∀ x, v.ownBlock = some x → ¬ S x) : w'.ownsRow base e size v n xs :=
  ownsRow_same h fun g hg => k.block g (World.ownsRow.lt h g hg).2 (hS g hg)
set_option maxHeartbeats 16000000 in
theorem copy_any {S : Nat → Prop} {b : Nat} {F : Fl} {ca cb cm : Value} {bw cw bv cv : Nat} {w : World} (h : At S b F ca cb cm bw cw bv cv w) (ok : F.Ok) :
    Calls Try.prog 10 #[.pointer (some ⟨b, 0, none⟩)] w fun e w' => ∃ b', e = .returned (.pointer (some ⟨b', 0, none⟩)) ∧ FlashAt (fun k => w.heap.size ≤ k) b' F w' ∧ Below w.heap.size w w' := by
  obtain ⟨a1, n1, c1', ms, rfl, hms, hn1, ho1, ho2, hfuse⟩ := h.fuse.form ok.l2
  obtain ⟨c0, c1, c2, c3, c4, c5, c6, c7⟩ := h.cell
  have HA := hid h
  have HK := hid ok
  have hbl := h.lt
  have hB0 := Block.new w 63 [.bool false, .int .i64 0, .slice none 0 0, .slice none 0 0, .int .i64 0, .slice none 0 0, .int .i64 0, .bool false]
  have HTH : Hid ((w.alloc (.cells #[.bool false, .int .i64 0, .slice none 0 0, .slice none 0 0, .int .i64 0, .slice none 0 0, .int .i64 0, .bool false] 63)).there w.heap.size 0 (#[ca, cb, .slice a1 n1 c1', .slice (some ⟨bw, 0, none⟩) F.ws.length cw, .int .i64 (F.long : Int), .slice (some ⟨bv, 0, none⟩) F.worn.length cv, .int .i64 (F.count : Int), .bool F.dark] : Array Value).size) := hid (hB0.there 0 8 (by simp))
  have HZ : Hid ((Try.prog.info? 63).map (·.size) = some (#[ca, cb, .slice a1 n1 c1', .slice (some ⟨bw, 0, none⟩) F.ws.length cw, .int .i64 (F.long : Int), .slice (some ⟨bv, 0, none⟩) F.worn.length cv, .int .i64 (F.count : Int), .bool F.dark] : Array Value).size) := hid (by kernel_rfl)
  have HON : Hid ((#[ca, cb, .slice a1 n1 c1', .slice (some ⟨bw, 0, none⟩) F.ws.length cw, .int .i64 (F.long : Int), .slice (some ⟨bv, 0, none⟩) F.worn.length cv, .int .i64 (F.count : Int), .bool F.dark] : Array Value).all (·.oneCell') = true) := hid (by simp [ho1, ho2]; exact ⟨rfl, rfl, rfl, rfl, rfl, rfl⟩)
  have HMS := hid hms
  have HFU := hid hfuse
  have HB0 := hid hB0
  clear h ok hms ho1 ho2 hfuse hB0
  go_enter Try.func10, Try.ntmps10
  go_wp2_with (with_reducible refine wpList_store_named rfl 63 (.tmp 3) (.tmp 8) rfl w.heap.size 0 #[ca, cb, .slice a1 n1 c1', .slice (some ⟨bw, 0, none⟩) F.ws.length cw, .int .i64 (F.long : Int), .slice (some ⟨bv, 0, none⟩) F.worn.length cv, .int .i64 (F.count : Int), .bool F.dark] rfl rfl HTH.out HZ.out HON.out ?_)
  intro w1 hw1
  have B1 : Block w1 w.heap.size 63 [ca, cb, .slice a1 n1 c1', .slice (some ⟨bw, 0, none⟩) F.ws.length cw, .int .i64 (F.long : Int), .slice (some ⟨bv, 0, none⟩) F.worn.length cv, .int .i64 (F.count : Int), .bool F.dark] := by
    have := HB0.out.setCells (vs := [ca, cb, .slice a1 n1 c1', .slice (some ⟨bw, 0, none⟩) F.ws.length cw, .int .i64 (F.long : Int), .slice (some ⟨bv, 0, none⟩) F.worn.length cv, .int .i64 (F.count : Int), .bool F.dark]) (o := 0)
    rw [put_all _ _ (by simp)] at this
    rw [← hw1.out]
    exact this
  have b1 : Below w.heap.size w w1 := by
    rw [← hw1.out]
    exact below_setCells ((Below.refl _ w).alloc (Nat.le_refl _) _) (Nat.le_refl _) _ _
  have hA1 := HA.out.later b1
  have d2 : w1.cell? ⟨b, 2, none⟩ = some (.slice a1 n1 c1') := hA1.cell.2.2.1
  have hcl1 := u32_clone a1 n1 c1' ms w1 (HMS.out.below b1) (by omega)
  have hne : ¬ (b = w.heap.size) := by omega
  have hne2 : ¬ (w.heap.size = b) := by omega
  have HB1 := hid B1
  have Hb1 := hid b1
  have hs1 : w.heap.size < w1.heap.size := B1.lt
  have HP := hid HK.out.ws_pos
  have HP2 := hid HK.out.s1
  have HWL := hid HK.out.ws_le
  have HS2 := hid HK.out.s2
  clear B1 b1 hA1 hw1 HB0 HTH HZ HON c0 c1 c2 c3 c4 c5 c6 c7
  go_wp2_with (first
    | (go_at_call 27; (with_reducible refine hcl1.mono ?_); rintro e w2 ⟨v2, rfl, o2, b2, hv2⟩; obtain ⟨a2, k2, rfl, _⟩ := ownsRow_slice o2; have hs2 := b2.size; have B2 := HB1.out.later b2; have e2 := B2.cell 2; have f2 := B2.frozen 2; have Bl2 := Hb1.out.trans (b2.mono (Nat.le_of_lt hs1)); have d3 := (HA.out.later Bl2).cell.2.2.2.1; have Bl3 := below_setCells Bl2 (Nat.le_refl _) 2 [.slice a2 ms.length k2]; have hcl2 := u32_clone (some ⟨bw, 0, none⟩) F.ws.length cw F.ws (w2.setCell ⟨w.heap.size, 2, none⟩ (.slice a2 ms.length k2)) (HA.out.later Bl3).ws.reads (by have := HWL.out; omega); have HO2 := hid o2; have HV2 := hid hv2; have HB3 := hid (B2.setCell 2 (.slice a2 ms.length k2)); have HBl3 := hid Bl3; clear hcl1 o2 b2 hv2 B2 Bl2 Bl3 d2)
    | (go_at_call 27; (with_reducible refine hcl2.mono ?_); rintro e w4 ⟨v4, rfl, o4, b4, _⟩; obtain ⟨g4, k4, rfl, hg4, hr4⟩ := Row.own o4 HP.out; have hs4 := b4.size; have B4 := HB3.out.later b4; have e4 := B4.cell 3; have f4 := B4.frozen 3; have Bl4 := HBl3.out.trans (b4.mono HBl3.out.size); have d5 := (HA.out.later Bl4).cell.2.2.2.2.2.1; have Bl5 := below_setCells Bl4 (Nat.le_refl _) 3 [.slice (some ⟨g4, 0, none⟩) F.ws.length k4]; have hcl3 := int_clone (some ⟨bv, 0, none⟩) F.worn.length cv F.worn (w4.setCell ⟨w.heap.size, 3, none⟩ (.slice (some ⟨g4, 0, none⟩) F.ws.length k4)) (HA.out.later Bl5).wn.reads (by have := HS2.out; omega); have HR4 := hid hr4; have HG4 := hid hg4; have Hb4 := hid b4; have HB5 := hid (B4.setCell 3 (.slice (some ⟨g4, 0, none⟩) F.ws.length k4)); have HBl5 := hid Bl5; clear hcl2 o4 b4 hr4 hg4 B4 Bl4 Bl5 d3 e2 f2)
    | (go_at_call 28; (with_reducible refine hcl3.mono ?_); rintro e w6 ⟨v6, rfl, o6, b6, _⟩; obtain ⟨g6, k6, rfl, hg6, hr6⟩ := Row.own o6 HP2.out; have B6 := HB5.out.later b6; have e6 := B6.cell 5; have f6 := B6.frozen 5; have HB7 := hid (B6.setCell 5 (.slice (some ⟨g6, 0, none⟩) F.worn.length k6)); have HR6 := hid hr6; have HG6 := hid hg6; have Hb6 := hid b6; clear hcl3 o6 b6 hr6 hg6 B6 d5 e4 f4))
  go_ret
  have hB7 := HB7.out
  have o6 : Only (fun x => x = w.heap.size) w6 (w6.setCell ⟨w.heap.size, 5, none⟩ (.slice (some ⟨g6, 0, none⟩) F.worn.length k6)) := (Only.refl (fun x => x = w.heap.size) w6).setCell (.inl rfl) _ _
  have o4 : Only (fun x => x = w.heap.size) w4 (w6.setCell ⟨w.heap.size, 5, none⟩ (.slice (some ⟨g6, 0, none⟩) F.worn.length k6)) := (((Only.refl (fun x => x = w.heap.size) w4).setCell (.inl rfl) _ _).later Hb6.out).trans o6
  have o2 : Only (fun x => x = w.heap.size) w2 (w6.setCell ⟨w.heap.size, 5, none⟩ (.slice (some ⟨g6, 0, none⟩) F.worn.length k6)) := (((Only.refl (fun x => x = w.heap.size) w2).setCell (.inl rfl) _ _).later Hb4.out).trans o4
  have g4l := HR4.out.lt
  have g4h : w2.heap.size ≤ g4 := by have := HG4.out; simpa using this
  have g6h : w4.heap.size ≤ g6 := by have := HG6.out; simpa using this
  refine ⟨w.heap.size, rfl, ⟨ca, cb, .slice a2 ms.length k2, g4, k4, g6, k6, hB7, ?_, HR4.out.only o4 (by omega), HR6.out.only o6 (by omega), by omega, by omega, by omega, Nat.le_refl _, by omega, by omega⟩, ?_⟩
  · refine HFU.out _ w1.heap.size _ _ _ (ownsRow_only HO2.out o2 ?_) HV2.out ?_
    · intro x hx e
      have := (World.ownsRow.lt HO2.out x hx).1
      omega
    · intro x hx
      have := World.ownsRow.lt HO2.out x hx
      refine ⟨by omega, ?_⟩
      rintro (e | e | e) <;> omega
  · exact below_setCells (HBl5.out.trans (Hb6.out.mono HBl5.out.size)) (Nat.le_refl _) 5 [.slice (some ⟨g6, 0, none⟩) F.worn.length k6]
end Go.Proofs.Ytdpddcmbilipfaa.flash
