/- Contracts of layer 18: filter by instar/item.Cut$1. No condition but a list of at most 4294967296 items. -/
import Derived.Test.YtccaibdklgkgeaaItemPush
namespace Go.Proofs.Ytccaibdklgkgeaa.item
open Go.RowKit
set_option linter.unusedVariables false


theorem is_ne (k : Nat) (w : World) (g x : Nat) (hc : w.cell? ⟨g, 0, none⟩ = some (.int .u32 (x : Int))) : Calls Try.prog 29 #[.int .u32 (k : Int), .pointer (some ⟨g, 0, none⟩)] w (Gives (.bool (!(k == x))) w) := by
  have he : ((k : Int) != (x : Int)) = !(k == x) := by rw [Bool.eq_iff_iff]; simp; omega
  unfold Gives
  go_enter Try.func29, Try.ntmps29
  go_wp2
  go_ret
  exact ⟨by simp <;> omega, Below.refl _ _⟩
theorem filter_ne (a : Option Addr) (c : Nat) (L : List It) (w : World) (h : Its w a L) (hL : L.length ≤ 4294967296) (g x : Nat) (hg : g < w.heap.size) (hc : w.cell? ⟨g, 0, none⟩ = some (.int .u32 (x : Int))) :
    Calls Try.prog 28 #[.slice a L.length c, .func (.func 29) #[] #[.pointer (some ⟨g, 0, none⟩)]] w (Lists (L.filter (fun p => !(p.key == x))) w) := by
  have hml : (L.length : Int) ≤ 9223372036854775807 := by omega
  have HF := hid h
  have HL := hid hL
  have HC := hid hc
  have HG := hid hg
  obtain ⟨R, hR⟩ : ∃ R, Hid (L.filter (fun p => !(p.key == x)) = R) := ⟨_, rfl⟩
  rw [hR.out]
  unfold Lists
  clear h hL hc hg
  go_enter Try.func28, Try.ntmps28
  go_wp2
  go_loopw [5, 10] (fun v n wr => ∃ k : Nat, k ≤ L.length ∧ n = .int .i64 (k : Int) ∧ Hid (Row w ((L.take k).filter (fun p => !(p.key == x))) v wr)) (fun _ n _ => L.length - (intOf n).toNat)
  case atStart => exact ⟨0, Nat.zero_le _, rfl, hid (Row.nil w)⟩
  case round =>
    obtain ⟨k, hk, rfl, HR⟩ := hrel
    by_cases hlt : k < L.length
    · obtain ⟨b, off, p, rfl, hbl, hp, c0, c1⟩ := it_at HF.out HR.out.2 hlt
      have i1 : (k : Int) < L.length := by omega
      have HN := hid (newB wr (.cells #[.int .u32 (p.key : Nat), .string p.data] 37))
      have HB1 := hid (HR.out.2.trans (HN.out.mono HR.out.2.size))
      have HX := hid (fun (w' : World) hb => (Block.new wr 37 [.int .u32 (p.key : Nat), .string p.data]).later (w' := w') hb)
      have cK := is_ne p.key (wr.alloc (.cells #[.int .u32 (p.key : Nat), .string p.data] 37)) g x (by rw [HB1.out.cell (p := ⟨g, 0, none⟩) HG.out]; exact HC.out)
      have HYES := hid (fun (hf : (fun p => !(p.key == x)) p = true) => filter_yes (f := fun p => !(p.key == x)) hp hf)
      have HNO := hid (fun (hf : (fun p => !(p.key == x)) p = false) => filter_no (f := fun p => !(p.key == x)) hp hf)
      have HSM : Hid (((L.take k).filter (fun p => !(p.key == x))).length ≤ 8589934592) := by
        show _ ≤ _
        have := List.length_filter_le (fun p => !(p.key == x)) (L.take k)
        rw [List.length_take] at this
        have := HL.out
        omega
      unfold Gives at cK
      obtain ⟨t, ht⟩ : ∃ t : Bool, (!(p.key == x)) = t := ⟨_, rfl⟩
      simp only [ht] at cK HYES HNO
      clear hp ht
      cases t
      · go_wp2_with (go_at_call 29; ((with_reducible refine cK.mono ?_); rintro e w2 ⟨rfl, hb2⟩))
        exact ⟨⟨k + 1, by omega, by go_num, hid (by rw [HNO.out (by simp)]; exact HR.out.later (HN.out.trans (hb2.mono HN.out.size)))⟩, by simp [intOf]; omega⟩
      · go_wp2_with (first
          | (go_at_call 29; ((with_reducible refine cK.mono ?_); rintro e w2 ⟨rfl, hb2⟩; have k0 := HX.out _ hb2; have z0 := k0.cell 0; have z1 := k0.cell 1; have HR2 := hid (HR.out.later (HN.out.trans (hb2.mono HN.out.size))); clear k0 hb2))
          | (at_builtin; refine wpList_append_it rfl _ _ rfl _ p _ rfl rfl HR2 HSM ?_; intro v3 w3 HR3; skip))
        exact ⟨⟨k + 1, by omega, by go_num, hid (by rw [HYES.out (by simp)]; exact HR3.out)⟩, by simp [intOf]; omega⟩
    · obtain rfl : k = L.length := by omega
      have hF := HR.out
      rw [List.take_of_length_le (Nat.le_refl _), hR.out] at hF
      obtain ⟨a9, c9, rfl, _⟩ := hF.form
      have HF9 := hid hF
      clear hF
      go_wp2
      go_ret
      exact ⟨a9, c9, rfl, HF9.out.1, HF9.out.2⟩
end Go.Proofs.Ytccaibdklgkgeaa.item
