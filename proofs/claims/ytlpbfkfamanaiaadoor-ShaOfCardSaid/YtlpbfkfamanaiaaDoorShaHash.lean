/- The hash in memory: what its block holds, before and behind a store. No condition. -/
import Derived.Test.YtlpbfkfamanaiaaDoorShaMixed
import Derived.Test.YtlpbfkfamanaiaaDoorShaPad
namespace Go.Proofs.YtlpbfkfamanaiaaDoor.sha
open Go.RowKit Go.Proofs.YtlpbfkfamanaiaaDoor.word
set_option linter.unusedVariables false

/-- the hash at block b: the state, the last bytes, the count -/
def HB (w : World) (b : Nat) (S B : List Nat) (c : Nat) : Prop :=
  S.length = 8 ∧ B.length = 64 ∧ Block w b 44 (u32s S ++ u8s B ++ [.int .i64 (c : Int)])
theorem u8s_length (xs : List Nat) : (u8s xs).length = xs.length := by simp [u8s]
theorem u8s_one (xs : List Nat) : ∀ v ∈ u8s xs, v.oneCell' = true := by intro v hv; obtain ⟨x, _, rfl⟩ := List.mem_map.1 hv; rfl
theorem u8s_get (xs : List Nat) (i : Nat) (h : i < xs.length) : (u8s xs)[i]? = some (.int .u8 ((xs.getD i 0 : Nat) : Int)) := by
  simp only [u8s, List.getElem?_map, List.getD_eq_getElem?_getD, List.getElem?_eq_getElem h]; rfl
theorem HB.count {w : World} {b : Nat} {S B : List Nat} {c : Nat} (h : HB w b S B c) : w.cell? ⟨b, 72, none⟩ = some (.int .i64 c) := by
  rw [h.2.2.cell, List.getElem?_append_right (by simp [u32s_length, u8s_length, h.1, h.2.1])]
  simp [u32s_length, u8s_length, h.1, h.2.1]
theorem HB.frozen {w : World} {b : Nat} {S B : List Nat} {c : Nat} (h : HB w b S B c) (j : Nat) : w.frozen? ⟨b, j, none⟩ = false := h.2.2.frozen j
theorem HB.state {w : World} {b : Nat} {S B : List Nat} {c : Nat} (h : HB w b S B c) : w.rangeAt b 0 (u32s S) :=
  h.2.2.range 0 _ (fun j v hj => by
    have hl := (List.getElem?_eq_some_iff.1 hj).1
    rw [Nat.zero_add, List.append_assoc, List.getElem?_append_left hl]; exact hj)
theorem HB.len {w : World} {b : Nat} {S B : List Nat} {c : Nat} (h : HB w b S B c) : (u32s S ++ u8s B ++ [Value.int .i64 (c : Int)]).length = 73 := by simp [u32s_length, u8s_length, h.1, h.2.1]
theorem HB.there {w : World} {b : Nat} {S B : List Nat} {c : Nat} (h : HB w b S B c) (o n : Nat) (hn : o + n ≤ 73) : w.there b o n := h.2.2.there o n (by rw [h.len]; exact hn)
theorem HB.bytes {w : World} {b : Nat} {S B : List Nat} {c : Nat} (h : HB w b S B c) : Reads .u8 w (some ⟨b, 8, none⟩) 64 B :=
  h.2.2.reads 8 B (fun i hi => by
    have hl : (u32s S).length = 8 := by rw [u32s_length, h.1]
    rw [List.append_assoc, List.getElem?_append_right (by omega), hl, show 8 + i - 8 = i by omega, List.getElem?_append_left (by rw [u8s_length]; exact hi), u8s_get _ _ hi]) 64 h.2.1
theorem HB.copy {w : World} {b : Nat} {S B : List Nat} {c : Nat} (h : HB w b S B c) (q : Nat) (ys : List Nat) (hq : q + ys.length ≤ 64) :
    HB (w.setCells b (8 + q) (u8s ys)) b S (B.take q ++ ys ++ B.drop (q + ys.length)) c := by
  refine ⟨h.1, by simp [h.2.1]; omega, ?_⟩
  have hk := h.2.2.setCells (vs := u8s ys) (o := 8 + q)
  have hB : u32s S ++ u8s B ++ [Value.int .i64 (c : Int)] = (u32s S ++ u8s (B.take q)) ++ u8s ((B.drop q).take ys.length) ++ (u8s (B.drop (q + ys.length)) ++ [Value.int .i64 (c : Int)]) := by
    have e : B = B.take q ++ ((B.drop q).take ys.length ++ B.drop (q + ys.length)) := by
      rw [← List.drop_drop, List.take_append_drop, List.take_append_drop]
    conv => lhs; rw [e]
    simp [u8s, List.append_assoc]
  have hl : (u32s S ++ u8s (B.take q)).length = 8 + q := by simp [u32s_length, u8s_length, h.1, h.2.1]; omega
  rw [hB, show 8 + q = (u32s S ++ u8s (B.take q)).length from hl.symm, put_mid _ _ _ _ (by simp [u8s_length, h.2.1]; omega)] at hk
  rw [hl] at hk
  simpa [u8s, List.append_assoc] using hk
theorem HB.setCount {w : World} {b : Nat} {S B : List Nat} {c : Nat} (h : HB w b S B c) (c' : Nat) : HB (w.setCell ⟨b, 72, none⟩ (.int .i64 (c' : Int))) b S B c' := by
  refine ⟨h.1, h.2.1, ?_⟩
  have hk := h.2.2.setCell 72 (.int .i64 (c' : Int))
  have hl : (u32s S ++ u8s B).length = 72 := by simp [u32s_length, u8s_length, h.1, h.2.1]
  rw [List.set_append_right _ _ (by omega), hl] at hk
  simpa using hk
theorem HB.setState {w : World} {b : Nat} {S B : List Nat} {c : Nat} (h : HB w b S B c) (S' : List Nat) (hS : S'.length = 8) : HB (w.setCells b 0 (u32s S')) b S' B c := by
  refine ⟨hS, h.2.1, ?_⟩
  have hk := h.2.2.setCells (vs := u32s S') (o := 0)
  have e := put_mid [] (u32s S) (u8s B ++ [Value.int .i64 (c : Int)]) (u32s S') (by rw [u32s_length, u32s_length, h.1, hS])
  rw [List.nil_append, List.nil_append, List.length_nil] at e
  rw [List.append_assoc, e] at hk
  rw [List.append_assoc]
  exact hk
theorem HB.later {w w' : World} {b : Nat} {S B : List Nat} {c : Nat} (h : HB w b S B c) (hb : Below w.heap.size w w') : HB w' b S B c := ⟨h.1, h.2.1, h.2.2.later hb⟩
theorem HB.drewN {w : World} {b : Nat} {S B : List Nat} {c : Nat} (h : HB w b S B c) (n : Nat) : HB (w.drewN n) b S B c := h

/-- the hash at block b has taken the message m -/
def HashIs (w : World) (b : Nat) (m : List Nat) : Prop :=
  ∃ B, HB w b (chain m (m.length / 64)) B m.length ∧ (∀ x ∈ B, x < 256) ∧ B.take (m.length % 64) = m.drop (64 * (m.length / 64))
theorem HashIs.later {w w' : World} {b : Nat} {m : List Nat} (h : HashIs w b m) (hb : Below w.heap.size w w') : HashIs w' b m := by
  obtain ⟨B, h1, h2, h3⟩ := h; exact ⟨B, h1.later hb, h2, h3⟩

/-- some bytes more, the block not yet full -/
theorem take_more (B p y : List Nat) (hB : B.length = 64) (h : B.take (p.length % 64) = p.drop (64 * (p.length / 64))) (hq : p.length % 64 + y.length < 64) :
    (p ++ y).length / 64 = p.length / 64 ∧ (p ++ y).length % 64 = p.length % 64 + y.length ∧
    (B.take (p.length % 64) ++ y ++ B.drop (p.length % 64 + y.length)).take (p.length % 64 + y.length) = (p ++ y).drop (64 * (p.length / 64)) := by
  refine ⟨by simp; omega, by simp; omega, ?_⟩
  rw [List.take_append_of_le_length (by simp [hB]; omega), List.take_of_length_le (by simp [hB]; omega), h, List.drop_append_of_le_length (by omega)]
/-- some bytes more, the block full -/
theorem take_full (B p y : List Nat) (hB : B.length = 64) (h : B.take (p.length % 64) = p.drop (64 * (p.length / 64))) (hq : p.length % 64 + y.length = 64) :
    (p ++ y).length / 64 = p.length / 64 + 1 ∧ (p ++ y).length % 64 = 0 ∧
    chain (p ++ y) ((p ++ y).length / 64) = mix (chain p (p.length / 64)) (B.take (p.length % 64) ++ y ++ B.drop (p.length % 64 + y.length)) := by
  have e1 : (p ++ y).length / 64 = p.length / 64 + 1 := by simp; omega
  refine ⟨e1, by simp; omega, ?_⟩
  rw [e1, chain, chain_append p y _ (by omega), hq, List.drop_of_length_le (l := B) (by omega), List.append_nil, h]
  rw [List.drop_append_of_le_length (by omega), List.take_of_length_le (by simp; omega)]
end Go.Proofs.YtlpbfkfamanaiaaDoor.sha
