/-
  The text of a record: the plain mathematics; spec.l04Byte.
-/
import Derived.Test.YtohjphhocdgpgaaRecOk
import Derived.Test.YtohjphhocdgpgaaVar
namespace Go.Proofs.Ytohjphhocdgpgaa
open Go.RowKit

def byB (n : Int) : UInt8 := UInt8.ofNat n.toNat

def nearL (n : Nr) : List UInt8 := byB n.to :: varL n.c.toNat

def nearsL (ns : List Nr) : List UInt8 := ns.flatMap nearL

def headL (x : RecD) : List UInt8 := [byB x.area, byB x.kind, byB x.owner, byB x.key] ++ varL x.seq.toNat ++ varL x.near.length

def farL (f : Bool) : List UInt8 := if f then [1] else [0]

def recL (x : RecD) : List UInt8 := headL x ++ nearsL x.near ++ varL x.cost.toNat ++ farL x.far

def textV (x : RecD) : Value := if recOkB x = true then .tuple #[.string (bs (recL x)), .bool true] else .tuple #[.string (bs []), .bool false]

theorem textV_two (x : RecD) : ∃ (s : ByteArray) (b : Bool), textV x = .tuple #[.string s, .bool b] := by
  unfold textV; split <;> exact ⟨_, _, rfl⟩

theorem byB_val (n : Int) (h0 : 0 ≤ n) (h1 : n ≤ 255) : n = ((byB n).toNat : Int) := by simp [byB]; omega

theorem bs_add (a b : List UInt8) : bs a ++ bs b = bs (a ++ b) := by
  apply ByteArray.ext
  simp [bs]

theorem bs_size (l : List UInt8) : (bs l).size = l.length := by simp [bs, ByteArray.size]

theorem varL_len (n : Nat) : (varL n).length ≤ n + 1 := by
  induction n using Nat.strongRecOn with
  | _ n ih =>
    by_cases h : 127 < n
    · rw [varL_big h]
      have := ih (n / 128) (by omega)
      simp only [List.length_cons]
      omega
    · rw [varL_small (by omega)]; simp

theorem inB_iff {x a b : Int} : inB x a b = true ↔ a ≤ x ∧ x ≤ b := by simp [inB]

structure RecBounds (x : RecD) : Prop where
  area : 0 ≤ x.area ∧ x.area ≤ 9
  kind : 1 ≤ x.kind ∧ x.kind ≤ 3
  owner : 1 ≤ x.owner ∧ x.owner ≤ 6
  key : 0 ≤ x.key ∧ x.key ≤ 9
  seq : 1 ≤ x.seq ∧ x.seq ≤ 100000
  cost : 0 ≤ x.cost ∧ x.cost ≤ 60000
  near : ∀ n ∈ x.near, (1 ≤ n.to ∧ n.to ≤ 6) ∧ (1 ≤ n.c ∧ n.c ≤ 1000)

theorem near_bounds {o : Int} {ns : List Nr} (h : nearsB o ns = true) : ∀ n ∈ ns, (1 ≤ n.to ∧ n.to ≤ 6) ∧ (1 ≤ n.c ∧ n.c ≤ 1000) := by
  intro n hn
  unfold nearsB at h
  rw [Bool.and_eq_true] at h
  obtain ⟨k, hk, e⟩ := List.getElem_of_mem hn
  have h1 := List.all_eq_true.1 h.1 k (List.mem_range.2 hk)
  rw [okAt_eq (List.getElem?_eq_getElem hk), e] at h1
  unfold nearOkB at h1
  simp only [Bool.and_eq_true] at h1
  exact ⟨inB_iff.1 h1.1.1, inB_iff.1 h1.2⟩

theorem recOk_bounds {x : RecD} (h : recOkB x = true) : RecBounds x := by
  unfold recOkB at h
  simp only [Bool.and_eq_true] at h
  obtain ⟨⟨h1, h2⟩, h3⟩ := h
  have ho := inB_iff.1 h1
  have hs := inB_iff.1 h2
  split at h3
  · rename_i hk
    simp only [Bool.and_eq_true, beq_iff_eq] at h3
    obtain ⟨⟨⟨⟨ha, hy⟩, hn⟩, hc⟩, _⟩ := h3
    have ha := inB_iff.1 ha
    exact ⟨by omega, by omega, ho, by omega, hs, by omega, near_bounds hn⟩
  · split at h3
    · rename_i hk
      simp only [Bool.and_eq_true, beq_iff_eq] at h3
      obtain ⟨⟨⟨⟨ha, hy⟩, hn⟩, hc⟩, _⟩ := h3
      have ha := inB_iff.1 ha
      have hy := inB_iff.1 hy
      have hc := inB_iff.1 hc
      have : x.near = [] := List.length_eq_zero_iff.1 hn
      exact ⟨by omega, by omega, ho, by omega, hs, by omega, by rw [this]; simp⟩
    · split at h3
      · rename_i hk
        simp only [Bool.and_eq_true, Bool.or_eq_true, beq_iff_eq] at h3
        obtain ⟨⟨⟨ha, hy⟩, hn⟩, hc⟩ := h3
        have hy := inB_iff.1 hy
        have : x.near = [] := List.length_eq_zero_iff.1 hn
        have hc2 : 0 ≤ x.cost ∧ x.cost ≤ 60000 := by
          rcases hc with hc | hc
          · have := inB_iff.1 hc; omega
          · omega
        exact ⟨by omega, by omega, ho, by omega, hs, hc2, by rw [this]; simp⟩
      · cases h3

theorem nearsL_succ {ns : List Nr} {k : Nat} {l : Nr} (h : ns[k]? = some l) : nearsL (ns.take (k + 1)) = nearsL (ns.take k) ++ nearL l := by
  obtain ⟨hk, e⟩ := List.getElem?_eq_some_iff.1 h
  unfold nearsL
  rw [List.take_succ_eq_append_getElem hk, List.flatMap_append, e]
  simp

theorem nearL_len {n : Nr} (h : 1 ≤ n.c ∧ n.c ≤ 1000) : (nearL n).length ≤ 1002 := by
  have := varL_len n.c.toNat
  simp only [nearL, List.length_cons]
  omega

theorem nearsL_len {ns : List Nr} (h : ∀ n ∈ ns, (1 ≤ n.to ∧ n.to ≤ 6) ∧ (1 ≤ n.c ∧ n.c ≤ 1000)) : ∀ k, (nearsL (ns.take k)).length ≤ 1002 * k := by
  intro k
  induction k with
  | zero => simp [nearsL]
  | succ k ih =>
    by_cases hk : k < ns.length
    · rw [nearsL_succ (List.getElem?_eq_getElem hk), List.length_append]
      have := nearL_len (h _ (List.getElem_mem hk)).2
      omega
    · have e : ns.take (k + 1) = ns.take k := by rw [List.take_of_length_le (by omega), List.take_of_length_le (by omega)]
      rw [e]; omega

set_option maxRecDepth 100000 in
set_option maxHeartbeats 400000 in
theorem sbyte_any (n : Int) (w : World) (h0 : 0 ≤ n) (h1 : n ≤ 255) : Calls Try.prog 98 #[.int .i64 n] w fun e w' => e = .returned (.string (bs [byB n])) ∧ Below w.heap.size w w' := by
  have hw : IntKind.u8.wrap n = n := by rw [IntKind.wrap_u8]; omega
  have hown : (w.alloc (.cells #[.int .u8 n] 5)).ownsRow w.heap.size 5 1 (.slice (some ⟨w.heap.size, 0, none⟩) 1 1) [byB n].length (cellsOf [byB n]) := by
    have h := World.ownsRow_lit (base := w.heap.size) (e := 5) (size := 1) w #[.int .u8 n] 1 (by simp) (by decide) rfl
    rw [← one_byte n (byB n) (byB_val n h0 h1)]
    exact h
  have hstr := run_str_own (P := Try.prog) 22 9 5 Try.underlying22 Try.underlying5 Try.underlying9 hown
  clear hown
  go_enter Try.func98, Try.ntmps98
  go_wp2
  go_ret
  exact ⟨rfl, (Below.refl _ _).alloc (Nat.le_refl _) _⟩
end Go.Proofs.Ytohjphhocdgpgaa
