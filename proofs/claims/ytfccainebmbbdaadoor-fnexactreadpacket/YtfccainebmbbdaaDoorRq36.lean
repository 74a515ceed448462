/-
  impl.ShortText, spec.l04Short: their contracts.
  The program's writer of packets: its contracts.
  impl.PacketText: its contract.
-/
import Derived.Test.YtfccainebmbbdaaDoorRq24
import Derived.Test.YtfccainebmbbdaaDoorRq27
import Derived.Test.YtfccainebmbbdaaDoorRq26
namespace Go.Proofs.YtfccainebmbbdaaDoor
open Go.RowKit

set_option linter.unusedSimpArgs false

theorem varV_in (n : Nat) (h : n ≤ 1000000000) : varV (n : Int) = .tuple #[.string (bs (varL n)), .bool true] := by
  unfold varV; rw [if_pos (by omega)]; rfl

theorem var_size (n : Nat) : (bs (varL n)).size ≤ n + 1 := by rw [bs_size]; exact varL_len n

set_option maxHeartbeats 400000 in
theorem sshort_any (s : ByteArray) (w : World) (hs : s.size ≤ 20000) :
    Calls Tryd.prog 31 #[.string s] w fun e w' => e = .returned (.string (bs (varL s.size) ++ s)) ∧ Below w.heap.size w w' := by
  have hi : ((s.size : Int)).toNat = s.size := by omega
  have hz := var_size s.size
  go_enter Tryd.func31, Tryd.ntmps31
  go_wp2_with (first | (go_at_call 30; refine (var_any _ _ (by omega) (by omega)).mono ?_; rw [hi]; rintro e w' ⟨rfl, hb⟩))
  go_ret
  exact ⟨rfl, hb⟩
end Go.Proofs.YtfccainebmbbdaaDoor
namespace Go.Proofs.YtfccainebmbbdaaDoor
open Go.RowKit

set_option linter.unusedSimpArgs false

theorem byteCells_append (a b : List UInt8) : Lib.byteCells (a ++ b) = Lib.byteCells a ++ Lib.byteCells b := by simp [Lib.byteCells]

theorem byteCells_one (l : List UInt8) : ∀ v ∈ Lib.byteCells l, v.oneCell' = true := by
  intro v hv
  obtain ⟨b, _, rfl⟩ := List.mem_map.1 hv
  rfl

theorem byteCells_len (l : List UInt8) : (Lib.byteCells l).length = l.length := by simp [Lib.byteCells]

theorem byteCells_by (z : Int) (h0 : 0 ≤ z) (h1 : z ≤ 255) : [Value.int .u8 z] = Lib.byteCells [byB z] := by
  simp only [Lib.byteCells, List.map_cons, List.map_nil]
  rw [← byB_val z h0 h1]

end Go.Proofs.YtfccainebmbbdaaDoor
namespace Go.Proofs.YtfccainebmbbdaaDoor
open Go.RowKit

set_option linter.unusedSimpArgs false

/-- a packet whose rows are whole blocks, below hi -/
structure PkSrc (W : World) (hi : Nat) (v1 v2 : Value) (x : PkD) (ps : List RP) : Prop where
  heard : W.ownsRow 0 3 1 v1 x.heard.length (flat intE x.heard)
  htop : ∀ k, v1.ownBlock = some k → k < hi
  list : RecsIn W hi v2 ps

theorem PkOwn.src {W : World} {lo hi m : Nat} {v1 v2 : Value} {x : PkD} {ps : List RP} (h : PkOwn W lo hi v1 v2 x ps m) : PkSrc W hi v1 v2 x ps :=
  ⟨owns_baseS h.heard.row (Nat.zero_le _), fun k e => Nat.lt_of_lt_of_le (h.heard.top k e) h.o2, h.list.in⟩

theorem PkSrc.below {W W' : World} {hi B : Nat} {v1 v2 : Value} {x : PkD} {ps : List RP} (h : PkSrc W hi v1 v2 x ps) (hb : Below B W W') (hB : hi ≤ B) : PkSrc W' hi v1 v2 x ps :=
  ⟨owns_keepB h.heard (fun k e => hb.block k (by have := h.htop k e; omega)), h.htop, h.list.below hb hB⟩

theorem PkSrc.wide {W : World} {hi hi' : Nat} {v1 v2 : Value} {x : PkD} {ps : List RP} (h : PkSrc W hi v1 v2 x ps) (hh : hi ≤ hi') : PkSrc W hi' v1 v2 x ps :=
  ⟨h.heard, fun k e => Nat.lt_of_lt_of_le (h.htop k e) hh, h.list.wide hh⟩

theorem PkSrc.in {W : World} {hi : Nat} {v1 v2 : Value} {x : PkD} {ps : List RP} (h : PkSrc W hi v1 v2 x ps) : PkIn W v1 v2 x ps hi where
  heard := by
    obtain ⟨a, cap, hv, h2⟩ := owns_rowAt h.heard
    refine ⟨a, cap, hv, ?_⟩
    rcases h2 with h0 | ⟨b, off, ha, hb1, hx⟩
    · exact .inl h0
    · exact .inr ⟨b, off, ha, h.htop b (by rw [hv, ha]; rfl), hx⟩
  list := h.list.at

theorem pt_no {x : PkD} {xs : List RecD} (h : pkB x xs = false) : ptV x xs = .tuple #[.string (bs []), .bool false] := by unfold ptV; rw [h]; rfl

theorem pt_yes {x : PkD} {xs : List RecD} (h : pkB x xs = true) : ptV x xs = .tuple #[.string (bs (pkL x xs) ++ bs (fourL (sumS (bs (pkL x xs))))), .bool true] := by unfold ptV; rw [if_pos h]

theorem se_short {s : ByteArray} (h : s.size ≤ 20000) : seV s = .tuple #[.string (s ++ bs (fourL (sumS s))), .bool true] := by unfold seV; rw [if_pos h]

theorem bdrewT {B n : Nat} {w w1 : World} (h : Below B w w1) : Below B w (w1.drewN n) := h.trans ⟨rfl, rfl, rfl, Nat.le_refl _, fun _ _ => rfl⟩

theorem bs_more (a b : ByteArray) : (a ++ b).size = a.size + b.size := ByteArray.size_append ..

end Go.Proofs.YtfccainebmbbdaaDoor
