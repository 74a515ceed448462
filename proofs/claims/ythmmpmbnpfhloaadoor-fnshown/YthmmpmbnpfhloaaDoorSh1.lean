/-
  The plain mathematics of numbers in bytes and figures; small laws on rows of bytes that a call makes.
  Contracts of the library, laid at this program: strconv_Itoa, strings_Join, strings_Join_none.
  What every walk of this seat imports; the element type's row of the table.
  The search for shortest ways, as values: what holds while nodes are gone on from one by one, the cheapest first; that its end tells costs and hops which are determined by the links alone.
  A heap in a row, as values: what sifting up and down makes of it.
  The plain mathematics of decimal figures.
  Rows that a call made, and what stays of them.
  spec.l01In: its contract.
  Regions that draw their order, by hand: one operation at a time, in the text's order.
  Lists that ascend, lists all of whose elements are right.
  spec.l01Figure: its contract.
-/
import Derived.Shelf.Strings.OnBuilder
import Derived.Shelf.Strconv.Itoa3
import Derived.Test.YthmmpmbnpfhloaaDoorRows
import Derived.WalkSpells
import Derived.WalkLawsBesides
import Derived.Deep.RegionHeld3
namespace Go.Proofs.YthmmpmbnpfhloaaDoor
open Go.RowKit

theorem hide {p : Prop} (h : p) : Hid p := h

def bs (l : List UInt8) : ByteArray := ⟨l.toArray⟩

theorem add_zero' (b o : Nat) : (⟨b, o, none⟩ : Addr).add 0 = ⟨b, o, none⟩ := rfl

/-- the one new cell of 'append(out, x)' -/
theorem news_one {w : World} (y : Int) (b : UInt8) (t : TypeId) (h : y = (b.toNat : Int)) : ∀ j (_ : j < [b].length), (w.alloc (.cells #[.int .u8 y] t)).cell? ((⟨w.heap.size, 0, none⟩ : Addr).add j) = some (.int .u8 ([b][j].toNat : Int)) := by
  intro j hj
  have : j = 0 := by simpa using hj
  subst this
  rw [add_zero', World.cell?_alloc_at _ _ _ _ rfl, h]
  rfl

theorem wrap_fit (x : Int) (h0 : -1000000000000000000 ≤ x) (h1 : x ≤ 1000000000000000000) : IntKind.i64.wrap x = x := by
  simp only [IntKind.wrap, IntKind.signed, IntKind.bits]
  simp
  omega

def fig (x : Int) : UInt8 := if x < 10 then UInt8.ofNat (48 + x.toNat) else UInt8.ofNat (87 + x.toNat)

theorem fig_lo (x : Int) (h0 : 0 ≤ x) (h : x < 10) : (48 : Int) + x = ((fig x).toNat : Int) := by simp [fig, h]; omega

theorem fig_hi (x : Int) (h0 : 10 ≤ x) (h : x < 16) : (97 : Int) + x - 10 = ((fig x).toNat : Int) := by
  have : ¬ x < 10 := by omega
  simp [fig, this]; omega

theorem ret_int {k : IntKind} {a b : Int} (h : a = b) : Ending.returned (.int k a) = .returned (.int k b) := by rw [h]
end Go.Proofs.YthmmpmbnpfhloaaDoor
namespace Go.Proofs
open Go.Shelf
def Tryd.laysM171_ren : Go.Shelf.Ren := ⟨fun | 171 => 21 | 243 => 33 | 246 => 48 | 283 => 64 | 284 => 65 | 285 => 66 | 286 => 67 | 129 => 75 | 317 => 74 | 318 => 76 | 319 => 77 | 320 => 78 | 337 => 81 | 338 => 82 | n => n, fun | 3 => 3 | 9 => 9 | 2 => 2 | 4 => 4 | 171 => 116 | 0 => 0 | 53 => 117 | 37 => 22 | 5 => 5 | 173 => 120 | 212 => 131 | 51 => 132 | 20 => 20 | 213 => 133 | 46 => 74 | 232 => 139 | 233 => 140 | n => n, fun | 17 => 1 | 18 => 2 | 19 => 3 | n => n⟩
theorem Tryd.laysM171 : Go.Proofs.LaysM.n171 Tryd.prog Tryd.laysM171_ren := {
  mixed := by kernel_rfl
  f129 := Tryd.func75.trans (congrArg some (by kernel_rfl))
  f171 := Tryd.func21.trans (congrArg some (by kernel_rfl))
  f243 := Tryd.func33.trans (congrArg some (by kernel_rfl))
  f246 := Tryd.func48.trans (congrArg some (by kernel_rfl))
  f283 := Tryd.func64.trans (congrArg some (by kernel_rfl))
  f284 := Tryd.func65.trans (congrArg some (by kernel_rfl))
  f285 := Tryd.func66.trans (congrArg some (by kernel_rfl))
  f286 := Tryd.func67.trans (congrArg some (by kernel_rfl))
  f317 := Tryd.func74.trans (congrArg some (by kernel_rfl))
  f318 := Tryd.func76.trans (congrArg some (by kernel_rfl))
  f319 := Tryd.func77.trans (congrArg some (by kernel_rfl))
  f320 := Tryd.func78.trans (congrArg some (by kernel_rfl))
  f337 := Tryd.func81.trans (congrArg some (by kernel_rfl))
  f338 := Tryd.func82.trans (congrArg some (by kernel_rfl))
  t0 := Tryd.underlying0
  a0 := Tryd.isAgg0
  z0 := Tryd.sizeOf0
  v0 := Tryd.zeroValue0
  t2 := Tryd.underlying2
  a2 := Tryd.isAgg2
  z2 := Tryd.sizeOf2
  v2 := Tryd.zeroValue2
  t3 := Tryd.underlying3
  a3 := Tryd.isAgg3
  z3 := Tryd.sizeOf3
  v3 := Tryd.zeroValue3
  t4 := Tryd.underlying4
  a4 := Tryd.isAgg4
  z4 := Tryd.sizeOf4
  v4 := Tryd.zeroValue4
  t5 := Tryd.underlying5
  a5 := Tryd.isAgg5
  z5 := Tryd.sizeOf5
  v5 := Tryd.zeroValue5
  t9 := Tryd.underlying9
  a9 := Tryd.isAgg9
  z9 := Tryd.sizeOf9
  v9 := Tryd.zeroValue9
  t20 := Tryd.underlying20
  a20 := Tryd.isAgg20
  z20 := Tryd.sizeOf20
  v20 := Tryd.zeroValue20
  t37 := Tryd.underlying22
  a37 := Tryd.isAgg22
  z37 := Tryd.sizeOf22
  v37 := Tryd.zeroValue22
  t46 := Tryd.underlying74
  a46 := Tryd.isAgg74
  z46 := Tryd.sizeOf74
  v46 := Tryd.zeroValue74
  t51 := Tryd.underlying132
  a51 := Tryd.isAgg132
  z51 := Tryd.sizeOf132
  v51 := Tryd.zeroValue132
  t53 := Tryd.underlying117
  a53 := Tryd.isAgg117
  z53 := Tryd.sizeOf117
  v53 := Tryd.zeroValue117
  t171 := Tryd.underlying116
  a171 := Tryd.isAgg116
  z171 := Tryd.sizeOf116
  v171 := Tryd.zeroValue116
  t173 := Tryd.underlying120
  a173 := Tryd.isAgg120
  z173 := Tryd.sizeOf120
  v173 := Tryd.zeroValue120
  t212 := Tryd.underlying131
  a212 := Tryd.isAgg131
  z212 := Tryd.sizeOf131
  v212 := Tryd.zeroValue131
  t213 := Tryd.underlying133
  a213 := Tryd.isAgg133
  z213 := Tryd.sizeOf133
  t232 := Tryd.underlying139
  a232 := Tryd.isAgg139
  z232 := Tryd.sizeOf139
  v232 := Tryd.zeroValue139
  t233 := Tryd.underlying140
  a233 := Tryd.isAgg140
  z233 := Tryd.sizeOf140
  v233 := Tryd.zeroValue140
  g17 := by kernel_rfl
  g18 := by kernel_rfl
  g19 := by kernel_rfl
  i0 := by kernel_rfl
  i2 := by kernel_rfl
  i3 := by kernel_rfl
  i4 := by kernel_rfl
  i5 := by kernel_rfl
  i9 := by kernel_rfl
  i20 := by kernel_rfl
  i37 := by kernel_rfl
  i46 := by kernel_rfl
  i51 := by kernel_rfl
  i53 := by kernel_rfl
  i171 := by kernel_rfl
  i173 := by kernel_rfl
  i212 := by kernel_rfl
  i232 := by kernel_rfl
  i233 := by kernel_rfl
  m17 := by kernel_rfl
  m18 := by kernel_rfl
  m19 := by kernel_rfl }
open Go.RowKit Go.Sort Go.Lib in
theorem Tryd.strconv_Itoa (n : Int) (h0 : -9223372036854775808 ≤ n) (h1 : n ≤ 9223372036854775807) (w : World) (htab : Lib.TabIs Tryd.prog w "internal/strconv.uint64pow10" .u64 Lib.pow10Tab) :
    Calls Tryd.prog 21 #[.int .i64 n] w fun e w' => e = .returned (.string ⟨(Lib.itoa n).toArray⟩) ∧ ∃ k os, w' = grow (w.drewN k) os := Any.strconv_Itoa Tryd.laysM171 n h0 h1 w htab
def Tryd.lays156_ren : Go.Shelf.Ren := ⟨fun | 156 => 15 | 165 => 22 | 166 => 23 | 169 => 24 | 240 => 34 | 241 => 35 | 276 => 49 | 277 => 50 | n => n, fun | 31 => 36 | 9 => 9 | 3 => 3 | 4 => 4 | 0 => 0 | 20 => 20 | 72 => 53 | 76 => 57 | 70 => 51 | 37 => 22 | 75 => 56 | 127 => 75 | 164 => 98 | 5 => 5 | 80 => 59 | n => n, fun | n => n⟩
theorem Tryd.lays156 : Go.Proofs.Lays.n156 Tryd.prog Tryd.lays156_ren := {
  mixed := by kernel_rfl
  f156 := Tryd.func15.trans (congrArg some (by kernel_rfl))
  f165 := Tryd.func22.trans (congrArg some (by kernel_rfl))
  f166 := Tryd.func23.trans (congrArg some (by kernel_rfl))
  f169 := Tryd.func24.trans (congrArg some (by kernel_rfl))
  f240 := Tryd.func34.trans (congrArg some (by kernel_rfl))
  f241 := Tryd.func35.trans (congrArg some (by kernel_rfl))
  f276 := Tryd.func49.trans (congrArg some (by kernel_rfl))
  f277 := Tryd.func50.trans (congrArg some (by kernel_rfl))
  t0 := Tryd.underlying0
  a0 := Tryd.isAgg0
  z0 := Tryd.sizeOf0
  v0 := Tryd.zeroValue0
  t3 := Tryd.underlying3
  a3 := Tryd.isAgg3
  z3 := Tryd.sizeOf3
  v3 := Tryd.zeroValue3
  t4 := Tryd.underlying4
  a4 := Tryd.isAgg4
  z4 := Tryd.sizeOf4
  v4 := Tryd.zeroValue4
  t9 := Tryd.underlying9
  a9 := Tryd.isAgg9
  z9 := Tryd.sizeOf9
  v9 := Tryd.zeroValue9
  t20 := Tryd.underlying20
  a20 := Tryd.isAgg20
  z20 := Tryd.sizeOf20
  v20 := Tryd.zeroValue20
  t31 := Tryd.underlying36
  a31 := Tryd.isAgg36
  z31 := Tryd.sizeOf36
  v31 := Tryd.zeroValue36
  t37 := Tryd.underlying22
  a37 := Tryd.isAgg22
  z37 := Tryd.sizeOf22
  v37 := Tryd.zeroValue22
  t70 := Tryd.underlying51
  a70 := Tryd.isAgg51
  z70 := Tryd.sizeOf51
  v70 := Tryd.zeroValue51
  t72 := Tryd.underlying53
  a72 := Tryd.isAgg53
  z72 := Tryd.sizeOf53
  v72 := Tryd.zeroValue53
  t75 := Tryd.underlying56
  a75 := Tryd.isAgg56
  z75 := Tryd.sizeOf56
  v75 := Tryd.zeroValue56
  t76 := Tryd.underlying57
  a76 := Tryd.isAgg57
  z76 := Tryd.sizeOf57
  v76 := Tryd.zeroValue57
  t127 := Tryd.underlying75
  a127 := Tryd.isAgg75
  z127 := Tryd.sizeOf75
  v127 := Tryd.zeroValue75
  t164 := Tryd.underlying98
  a164 := Tryd.isAgg98
  z164 := Tryd.sizeOf98
  v164 := Tryd.zeroValue98 }
theorem Tryd.Builder_Extra_156 : Builder.Extra Tryd.prog Tryd.lays156_ren := {
  sizeBuilder := by kernel_rfl
  liesBuilder := by kernel_rfl
  t5 := Tryd.underlying5
  a5 := Tryd.isAgg5
  z5 := Tryd.sizeOf5
  v5 := Tryd.zeroValue5
  infoByte := by kernel_rfl
  cellsByte := by kernel_rfl
  sizeByte := by kernel_rfl
  neB5 := by decide }
open Go.RowKit in
theorem Tryd.strings_Join (bk o c : Nat) (xs : List ByteArray) (sep : ByteArray) (w : World) (hcells : ∀ (j : Nat) x, xs[j]? = some x → w.cell? ⟨bk, o + j, none⟩ = some (.string x)) (hbk : bk < w.heap.size) (hN : xs.length ≤ 140737488355328) (hcap : xs.length ≤ c) (hlen : (Lib.join (xs.map (·.data.toList)) sep.data.toList).length ≤ 140737488355328) :
    Calls Tryd.prog 15 #[.slice (some ⟨bk, o, none⟩) xs.length c, .string sep] w fun e w' => e = .returned (.string ⟨(Lib.join (xs.map (·.data.toList)) sep.data.toList).toArray⟩) ∧ Below w.heap.size w w' := Any.strings_Join Tryd.lays156 Tryd.Builder_Extra_156 bk o c xs sep w hcells hbk hN hcap hlen
end Go.Proofs
namespace Go.Proofs.YthmmpmbnpfhloaaDoor
open Go.RowKit

end Go.Proofs.YthmmpmbnpfhloaaDoor
namespace Go.Proofs.YthmmpmbnpfhloaaDoor

/-- the nodes are 1 .. 6 -/
def IsNode (v : Nat) : Prop := 1 ≤ v ∧ v ≤ 6

/-- costs of links: not below 0, at most K, of nodes alone -/
structure Links (L : Nat → Nat → Int) (K : Int) : Prop where
  pos : ∀ u v, 0 ≤ L u v
  le : ∀ u v, L u v ≤ K
  node : ∀ u v, 0 < L u v → IsNode u ∧ IsNode v

/-- the hop by which a way goes on over the link from u to v -/
def OverHop (src : Nat) (h : Nat → List Int) (u v : Nat) (x : Int) : Prop := (u = src ∧ x = (v : Int)) ∨ (u ≠ src ∧ x ∈ h u)

/-- the state of a search from src: F are the nodes that are done, c the costs (below 0: none yet), h the hops -/
structure Inv (L : Nat → Nat → Int) (src : Nat) (F : Nat → Bool) (c : Nat → Int) (h : Nat → List Int) : Prop where
  fnode : ∀ v, F v = true → IsNode v ∧ 0 ≤ c v
  cnode : ∀ v, 0 ≤ c v → IsNode v
  start : c src = 0
  start0 : h src = []
  closed : ∀ u v, F u = true → 0 < L u v → 0 ≤ c v ∧ c v ≤ c u + L u v
  pred : ∀ v, v ≠ src → 0 ≤ c v → ∃ u, F u = true ∧ 0 < L u v ∧ c v = c u + L u v
  mono : ∀ u v, F u = true → F v = false → 0 ≤ c v → c u ≤ c v
  hop : ∀ v, v ≠ src → ∀ x, x ∈ h v ↔ 0 ≤ c v ∧ ∃ u, F u = true ∧ 0 < L u v ∧ c v = c u + L u v ∧ OverHop src h u v x
  asc : ∀ v, (h v).Pairwise (· < ·)
  rng : ∀ v x, x ∈ h v → 1 ≤ x ∧ x ≤ 6

/-- what going on from u makes of the cost of v -/
def relaxC (L : Nat → Nat → Int) (c : Nat → Int) (u v : Nat) : Int :=
  if 0 < L u v ∧ (c v < 0 ∨ c u + L u v < c v) then c u + L u v else c v

theorem relaxC_le {L : Nat → Nat → Int} {c : Nat → Int} {u v : Nat} (h : 0 ≤ c v) : relaxC L c u v ≤ c v := by
  unfold relaxC; split <;> omega

theorem relaxC_nn {L : Nat → Nat → Int} {c : Nat → Int} {u v : Nat} (hu : 0 ≤ c u) (h : 0 ≤ c v) : 0 ≤ relaxC L c u v := by
  unfold relaxC; split <;> omega

theorem relaxC_same {L : Nat → Nat → Int} {c : Nat → Int} {u v : Nat} (h0 : 0 ≤ c v) (h : c v ≤ c u) : relaxC L c u v = c v := by
  unfold relaxC; split <;> omega

/-- the hops behind going on from u, as a set -/
structure RelaxH (L : Nat → Nat → Int) (src : Nat) (c : Nat → Int) (h : Nat → List Int) (u v : Nat) (h' : List Int) : Prop where
  asc : h'.Pairwise (· < ·)
  mem : ∀ x, x ∈ h' ↔ ((x ∈ h v ∧ relaxC L c u v = c v) ∨ (0 < L u v ∧ relaxC L c u v = c u + L u v ∧ OverHop src h u v x))

theorem Inv.step {L : Nat → Nat → Int} {K : Int} {src : Nat} {F : Nat → Bool} {c : Nat → Int} {h : Nat → List Int} (I : Inv L src F c h) (hL : Links L K)
    {u : Nat} (hu : F u = false) (hcu : 0 ≤ c u) (hmin : ∀ v, F v = false → 0 ≤ c v → c u ≤ c v) {h' : Nat → List Int} (hh : ∀ v, RelaxH L src c h u v (h' v)) :
    Inv L src (fun v => F v || v == u) (fun v => relaxC L c u v) h' := by
  have hup : ∀ v, F v = true → c v ≤ c u := fun v hv => I.mono v u hv hu hcu
  have keep : ∀ v, F v = true → relaxC L c u v = c v := fun v hv => relaxC_same (I.fnode v hv).2 (hup v hv)
  have keepu : relaxC L c u u = c u := relaxC_same hcu (Int.le_refl _)
  have hsrc : relaxC L c u src = 0 := by
    have := I.start
    unfold relaxC; split <;> omega
  have hFn : ∀ v, F v = true → v ≠ u := fun v hv e => by rw [e, hu] at hv; cases hv
  -- hops of done nodes and of u stay
  have hsame : ∀ v, 0 ≤ c v → c v ≤ c u → ∀ x, x ∈ h' v ↔ x ∈ h v := by
    intro v h0 hv x
    rw [(hh v).mem x]
    have e := relaxC_same (L := L) h0 hv
    constructor
    · rintro (⟨h1, _⟩ | ⟨h1, h2, _⟩)
      · exact h1
      · omega
    · intro h1; exact .inl ⟨h1, e⟩
  have hover : ∀ w, (F w = true ∨ w = u) → ∀ v x, OverHop src h' w v x ↔ OverHop src h w v x := by
    intro w hw v x
    have : ∀ x, x ∈ h' w ↔ x ∈ h w := by
      rcases hw with hw | rfl
      · exact hsame w (I.fnode w hw).2 (hup w hw)
      · exact hsame _ hcu (Int.le_refl _)
    unfold OverHop; rw [this x]
  have hFu : ∀ v, (F v || v == u) = true ↔ (F v = true ∨ v = u) := by
    intro v; simp
  refine ⟨?_, ?_, hsrc, ?_, ?_, ?_, ?_, ?_, fun v => (hh v).asc, ?_⟩
  · intro v hv
    rcases (hFu v).1 hv with h1 | rfl
    · refine ⟨(I.fnode v h1).1, ?_⟩
      show 0 ≤ relaxC L c u v
      rw [keep v h1]; exact (I.fnode v h1).2
    · refine ⟨I.cnode _ hcu, ?_⟩
      show 0 ≤ relaxC L c _ _
      rw [keepu]; exact hcu
  · intro v hv
    have hv' : 0 ≤ relaxC L c u v := hv
    unfold relaxC at hv'
    split at hv'
    · rename_i h1; exact (hL.node u v h1.1).2
    · exact I.cnode v hv'
  · have : ∀ x, x ∉ h' src := by
      intro x hx
      rw [(hh src).mem x, I.start0] at hx
      rcases hx with ⟨h1, _⟩ | ⟨h1, h2, _⟩
      · cases h1
      · rw [hsrc] at h2; omega
    exact List.eq_nil_iff_forall_not_mem.2 this
  · intro w v hw hl
    show 0 ≤ relaxC L c u v ∧ relaxC L c u v ≤ relaxC L c u w + L w v
    rcases (hFu w).1 hw with h1 | rfl
    · rw [keep w h1]
      have := I.closed w v h1 hl
      have h2 := relaxC_le (L := L) (u := u) this.1
      have h3 := relaxC_nn (L := L) hcu this.1
      omega
    · rw [keepu]
      unfold relaxC
      split <;> omega
  · intro v hv h0
    have h0' : 0 ≤ relaxC L c u v := h0
    show ∃ w, (F w || w == u) = true ∧ 0 < L w v ∧ relaxC L c u v = relaxC L c u w + L w v
    by_cases h1 : 0 < L u v ∧ (c v < 0 ∨ c u + L u v < c v)
    · refine ⟨u, by simp, h1.1, ?_⟩
      rw [keepu]; unfold relaxC; rw [if_pos h1]
    · have e : relaxC L c u v = c v := by unfold relaxC; rw [if_neg h1]
      rw [e] at h0' ⊢
      obtain ⟨w, hw, hl, hc⟩ := I.pred v hv h0'
      exact ⟨w, by simp [hw], hl, by rw [keep w hw]; exact hc⟩
  · intro w v hw hv h0
    have h0' : 0 ≤ relaxC L c u v := h0
    have hv1 : F v = false := by cases hfv : F v <;> simp [hfv] at hv ⊢
    show relaxC L c u w ≤ relaxC L c u v
    have hwc : relaxC L c u w ≤ c u := by
      rcases (hFu w).1 hw with h1 | rfl
      · rw [keep w h1]; exact hup w h1
      · rw [keepu]; omega
    have huv : c u ≤ relaxC L c u v := by
      by_cases h1 : 0 < L u v ∧ (c v < 0 ∨ c u + L u v < c v)
      · unfold relaxC; rw [if_pos h1]; omega
      · have e : relaxC L c u v = c v := by unfold relaxC; rw [if_neg h1]
        rw [e] at h0' ⊢
        exact hmin v hv1 h0'
    omega
  · intro v hv x
    show x ∈ h' v ↔ 0 ≤ relaxC L c u v ∧ ∃ w, (F w || w == u) = true ∧ 0 < L w v ∧ relaxC L c u v = relaxC L c u w + L w v ∧ OverHop src h' w v x
    rw [(hh v).mem x]
    constructor
    · rintro (⟨h1, h2⟩ | ⟨h1, h2, h3⟩)
      · obtain ⟨h0, w, hw, hl, hc, ho⟩ := (I.hop v hv x).1 h1
        rw [h2]
        exact ⟨h0, w, by simp [hw], hl, by rw [keep w hw]; exact hc, (hover w (.inl hw) v x).2 ho⟩
      · refine ⟨by omega, u, by simp, h1, by rw [keepu]; exact h2, (hover u (.inr rfl) v x).2 h3⟩
    · rintro ⟨h0, w, hw, hl, hc, ho⟩
      rcases (hFu w).1 hw with h1 | rfl
      · rw [keep w h1] at hc
        have hcl := I.closed w v h1 hl
        have h3 := relaxC_le (L := L) (u := u) hcl.1
        have e : relaxC L c u v = c v := by omega
        refine .inl ⟨(I.hop v hv x).2 ⟨hcl.1, w, h1, hl, by omega, (hover w (.inl h1) v x).1 ho⟩, e⟩
      · rw [keepu] at hc
        exact .inr ⟨hl, hc, (hover _ (.inr rfl) v x).1 ho⟩
  · intro v x hx
    rw [(hh v).mem x] at hx
    rcases hx with ⟨h1, _⟩ | ⟨h1, _, h3⟩
    · exact I.rng v x h1
    · rcases h3 with ⟨_, rfl⟩ | ⟨_, h4⟩
      · have := (hL.node u v h1).2; unfold IsNode at this; omega
      · exact I.rng u x h4

/-- ascending lists with the same members are the same -/
theorem asc_ext : ∀ {a b : List Int}, a.Pairwise (· < ·) → b.Pairwise (· < ·) → (∀ x, x ∈ a ↔ x ∈ b) → a = b
  | [], [], _, _, _ => rfl
  | [], y :: ys, _, _, h => by have := (h y).2 (by simp); cases this
  | x :: xs, [], _, _, h => by have := (h x).1 (by simp); cases this
  | x :: xs, y :: ys, ha, hb, h => by
    have ha' := List.pairwise_cons.1 ha
    have hb' := List.pairwise_cons.1 hb
    have hxy : x = y := by
      have h1 := (h x).1 (by simp)
      have h2 := (h y).2 (by simp)
      rcases List.mem_cons.1 h1 with e | e
      · exact e
      · rcases List.mem_cons.1 h2 with e2 | e2
        · exact e2.symm
        · have := ha'.1 y e2; have := hb'.1 x e; omega
    subst hxy
    have : xs = ys := by
      refine asc_ext ha'.2 hb'.2 (fun z => ?_)
      have hz := h z
      constructor
      · intro hm
        have h1 := hz.1 (List.mem_cons_of_mem _ hm)
        rcases List.mem_cons.1 h1 with e | e
        · have := ha'.1 z hm; omega
        · exact e
      · intro hm
        have h1 := hz.2 (List.mem_cons_of_mem _ hm)
        rcases List.mem_cons.1 h1 with e | e
        · have := hb'.1 z hm; omega
        · exact e
    rw [this]

/-- the end of a search: every node that has a cost is done -/
def Fix (L : Nat → Nat → Int) (src : Nat) (c : Nat → Int) (h : Nat → List Int) : Prop := ∃ F, Inv L src F c h ∧ ∀ v, 0 ≤ c v → F v = true

theorem Fix.cost_le {L : Nat → Nat → Int} {src : Nat} {c d : Nat → Int} {h g : Nat → List Int} (A : Fix L src c h) (B : Fix L src d g) :
    ∀ (n : Nat) (v : Nat), 0 ≤ c v → (c v).toNat ≤ n → 0 ≤ d v ∧ d v ≤ c v := by
  obtain ⟨F, I, hF⟩ := A
  obtain ⟨G, J, hG⟩ := B
  intro n
  induction n with
  | zero =>
    intro v h0 hn
    by_cases hv : v = src
    · subst hv; rw [J.start]; omega
    · obtain ⟨u, hu, hl, hc⟩ := I.pred v hv h0
      have := (I.fnode u hu).2
      omega
  | succ n ih =>
    intro v h0 hn
    by_cases hv : v = src
    · subst hv; rw [J.start, I.start]; omega
    · obtain ⟨u, hu, hl, hc⟩ := I.pred v hv h0
      have h1 := (I.fnode u hu).2
      have h2 := ih u h1 (by omega)
      have h3 := J.closed u v (hG u h2.1) hl
      omega

theorem Fix.cost {L : Nat → Nat → Int} {src : Nat} {c d : Nat → Int} {h g : Nat → List Int} (A : Fix L src c h) (B : Fix L src d g) (v : Nat) (h0 : 0 ≤ c v) : d v = c v := by
  have h1 := A.cost_le B _ v h0 (Nat.le_refl _)
  have h2 := B.cost_le A _ v h1.1 (Nat.le_refl _)
  omega

theorem Fix.hops_sub {L : Nat → Nat → Int} {src : Nat} {c d : Nat → Int} {h g : Nat → List Int} (A : Fix L src c h) (B : Fix L src d g) :
    ∀ (n : Nat) (v : Nat), 0 ≤ c v → (c v).toNat ≤ n → ∀ x, x ∈ h v → x ∈ g v := by
  have hcost := A.cost B
  obtain ⟨F, I, hF⟩ := A
  obtain ⟨G, J, hG⟩ := B
  intro n
  induction n with
  | zero =>
    intro v h0 hn x hx
    by_cases hv : v = src
    · subst hv; rw [I.start0] at hx; cases hx
    · obtain ⟨u, hu, hl, hc⟩ := I.pred v hv h0
      have := (I.fnode u hu).2
      omega
  | succ n ih =>
    intro v h0 hn x hx
    by_cases hv : v = src
    · subst hv; rw [I.start0] at hx; cases hx
    · obtain ⟨_, u, hu, hl, hc, ho⟩ := (I.hop v hv x).1 hx
      have h1 := (I.fnode u hu).2
      have eu := hcost u h1
      have ev := hcost v h0
      refine (J.hop v hv x).2 ⟨by omega, u, hG u (by omega), hl, by omega, ?_⟩
      rcases ho with h3 | ⟨h3, h4⟩
      · exact .inl h3
      · exact .inr ⟨h3, ih u h1 (by omega) x h4⟩

theorem Fix.hops {L : Nat → Nat → Int} {src : Nat} {c d : Nat → Int} {h g : Nat → List Int} (A : Fix L src c h) (B : Fix L src d g) (v : Nat) (h0 : 0 ≤ c v) : g v = h v := by
  have e := A.cost B v h0
  have sub1 := A.hops_sub B _ v h0 (Nat.le_refl _)
  have sub2 := B.hops_sub A _ v (by omega : 0 ≤ d v) (Nat.le_refl _)
  obtain ⟨F, I, _⟩ := A
  obtain ⟨G, J, _⟩ := B
  exact asc_ext (J.asc v) (I.asc v) (fun x => ⟨sub2 x, sub1 x⟩)

/-- the search's start -/
theorem Inv.init {L : Nat → Nat → Int} {src : Nat} (hs : IsNode src) : Inv L src (fun _ => false) (fun v => if v = src then 0 else -1) (fun _ => []) := by
  refine ⟨by simp, ?_, by simp, rfl, by simp, ?_, by simp, ?_, by simp, by simp⟩
  · intro v hv
    have hv' : (0 : Int) ≤ if v = src then 0 else -1 := hv
    split at hv'
    · rename_i e; rw [e]; exact hs
    · omega
  · intro v hv h0
    have h0' : (0 : Int) ≤ if v = src then 0 else -1 := h0
    rw [if_neg hv] at h0'; omega
  · intro v hv x
    simp [hv]
end Go.Proofs.YthmmpmbnpfhloaaDoor
namespace Go.Proofs.YthmmpmbnpfhloaaDoor

/-- the same things in the first n places, in another order; behind them nothing is turned -/
structure Shuf (q q' : Nat → Nat) (n : Nat) : Prop where
  into : ∀ i, i < n → ∃ j, j < n ∧ q' i = q j
  onto : ∀ j, j < n → ∃ i, i < n ∧ q' i = q j
  inj : (∀ i j, i < n → j < n → q i = q j → i = j) → (∀ i j, i < n → j < n → q' i = q' j → i = j)
  rest : ∀ x, n ≤ x → q' x = q x

theorem Shuf.refl (q : Nat → Nat) (n : Nat) : Shuf q q n := ⟨fun i h => ⟨i, h, rfl⟩, fun j h => ⟨j, h, rfl⟩, fun h => h, fun _ _ => rfl⟩

theorem Shuf.trans {q q' q'' : Nat → Nat} {n : Nat} (a : Shuf q q' n) (b : Shuf q' q'' n) : Shuf q q'' n := by
  refine ⟨fun i h => ?_, fun j h => ?_, fun h => b.inj (a.inj h), fun x hx => (b.rest x hx).trans (a.rest x hx)⟩
  · obtain ⟨j, hj, e⟩ := b.into i h
    obtain ⟨k, hk, e2⟩ := a.into j hj
    exact ⟨k, hk, e.trans e2⟩
  · obtain ⟨i, hi, e⟩ := a.onto j h
    obtain ⟨k, hk, e2⟩ := b.onto i hi
    exact ⟨k, hk, e2.trans e⟩

theorem Shuf.more {q q' : Nat → Nat} {n m : Nat} (a : Shuf q q' n) (h : n ≤ m) : Shuf q q' m := by
  refine ⟨fun i hi => ?_, fun j hj => ?_, fun hinj x y hx hy e => ?_, fun x hx => a.rest x (by omega)⟩
  · by_cases e : i < n
    · obtain ⟨j, hj, e2⟩ := a.into i e; exact ⟨j, by omega, e2⟩
    · exact ⟨i, hi, a.rest i (by omega)⟩
  · by_cases e : j < n
    · obtain ⟨i, hi, e2⟩ := a.onto j e; exact ⟨i, by omega, e2⟩
    · exact ⟨j, hj, a.rest j (by omega)⟩
  · by_cases e1 : x < n <;> by_cases e2 : y < n
    · exact a.inj (fun i j hi hj => hinj i j (by omega) (by omega)) x y e1 e2 e
    · obtain ⟨j, hj, e3⟩ := a.into x e1
      rw [e3, a.rest y (by omega)] at e
      have := hinj j y (by omega) hy e; omega
    · obtain ⟨j, hj, e3⟩ := a.into y e2
      rw [e3, a.rest x (by omega)] at e
      have := hinj x j hx (by omega) e; omega
    · rw [a.rest x (by omega), a.rest y (by omega)] at e
      exact hinj x y hx hy e

end Go.Proofs.YthmmpmbnpfhloaaDoor
namespace Go.Proofs.YthmmpmbnpfhloaaDoor
open Go.RowKit

def digB (n : Nat) : UInt8 := UInt8.ofNat (48 + n % 10)
def decN (n : Nat) : List UInt8 := if _h : 0 < n then decN (n / 10) ++ [digB n] else []
def decS (n : Nat) : List UInt8 := if n = 0 then [48] else decN n

theorem decN_pos {n : Nat} (h : 0 < n) : decN n = decN (n / 10) ++ [digB n] := by rw [decN]; simp [h]
theorem decN_zero : decN 0 = [] := by rw [decN]; simp

theorem bs_append (a b : List UInt8) : bs a ++ bs b = bs (a ++ b) := by
  apply ByteArray.ext
  simp [bs]
end Go.Proofs.YthmmpmbnpfhloaaDoor
namespace Go.Proofs.YthmmpmbnpfhloaaDoor
open Go.RowKit

theorem owns_below {w w' : World} {base B : Nat} {e : TypeId} {size : Nat} {v : Value} {n : Nat} {xs : List Value} (h : w.ownsRow base e size v n xs) (hb : Below B w w') (hB : w.heap.size ≤ B) : w'.ownsRow base e size v n xs := by
  refine ⟨h.1, ?_⟩
  rcases h.2 with h2 | ⟨g, cap, cur, hv, hg, hh, r⟩
  · exact .inl h2
  · have hlt : g < w.heap.size := by
      rcases Nat.lt_or_ge g w.heap.size with hl | hl
      · exact hl
      · rw [Array.getElem?_eq_none hl] at hh; cases hh
    exact .inr ⟨g, cap, cur, hv, hg, by rw [hb.block g (by omega)]; exact hh, r⟩

theorem owns_shape {w : World} {base : Nat} {e : TypeId} {v : Value} {n : Nat} {xs : List Value} (h : w.ownsRow base e 1 v n xs) (hn : 0 < n) :
    ∃ g cap, v = .slice (some ⟨g, 0, none⟩) n cap ∧ base ≤ g ∧ g < w.heap.size := by
  rcases h.2 with ⟨_, h0⟩ | ⟨g, cap, cur, hv, hb, hg, _⟩
  · omega
  · refine ⟨g, cap, hv, hb, ?_⟩
    rcases Nat.lt_or_ge g w.heap.size with hlt | hge
    · exact hlt
    · rw [Array.getElem?_eq_none hge] at hg; cases hg

theorem owns_len {w : World} {base : Nat} {e : TypeId} {v : Value} {n : Nat} {xs : List Value} (h : w.ownsRow base e 1 v n xs) : ∃ a cap, v = .slice a n cap := by
  rcases h.2 with ⟨h1, h0⟩ | ⟨g, cap, cur, hv, _⟩
  · exact ⟨none, 0, by rw [h1, h0]⟩
  · exact ⟨_, cap, hv⟩

theorem owns_lenS {w : World} {base size : Nat} {e : TypeId} {v : Value} {n : Nat} {xs : List Value} (h : w.ownsRow base e size v n xs) : ∃ a cap, v = .slice a n cap := by
  rcases h.2 with ⟨h1, h0⟩ | ⟨g, cap, cur, hv, _⟩
  · exact ⟨none, 0, by rw [h1, h0]⟩
  · exact ⟨_, cap, hv⟩

theorem owns_baseS {w : World} {b0 b1 size : Nat} {e : TypeId} {v : Value} {n : Nat} {xs : List Value} (h : w.ownsRow b1 e size v n xs) (hb : b0 ≤ b1) : w.ownsRow b0 e size v n xs := by
  refine ⟨h.1, ?_⟩
  rcases h.2 with h2 | ⟨g, cap, cur, hv, hg, r⟩
  · exact .inl h2
  · exact .inr ⟨g, cap, cur, hv, Nat.le_trans hb hg, r⟩

/-- a row stays where another block is written -/
theorem owns_set {w : World} {base size p j : Nat} {e : TypeId} {v u : Value} {n : Nat} {xs : List Value} (h : w.ownsRow base e size v n xs) (hp : p < base) : (w.setCell ⟨p, j, none⟩ u).ownsRow base e size v n xs := by
  refine ⟨h.1, ?_⟩
  rcases h.2 with h2 | ⟨g, cap, cur, hv, hg, hh, r⟩
  · exact .inl h2
  · exact .inr ⟨g, cap, cur, hv, hg, by rw [heap_setCell_other w ⟨p, j, none⟩ g _ (by show g ≠ p; omega)]; exact hh, r⟩

theorem owns_base {w : World} {b0 b1 : Nat} {e : TypeId} {v : Value} {n : Nat} {xs : List Value} (h : w.ownsRow b1 e 1 v n xs) (hb : b0 ≤ b1) : w.ownsRow b0 e 1 v n xs := by
  refine ⟨h.1, ?_⟩
  rcases h.2 with h2 | ⟨g, cap, cur, hv, hg, r⟩
  · exact .inl h2
  · exact .inr ⟨g, cap, cur, hv, Nat.le_trans hb hg, r⟩

theorem cells_at {w : World} {p : Nat} {C : Array Value} {t : TypeId} (h : w.heap[p]? = some (.cells C t (0, 0))) (j : Nat) : w.cell? ⟨p, j, none⟩ = C[j]? := by
  simp [World.cell?, h]

theorem frozen_at {w : World} {p : Nat} {C : Array Value} {t : TypeId} (h : w.heap[p]? = some (.cells C t (0, 0))) (j : Nat) : w.frozen? ⟨p, j, none⟩ = false := by
  simp [World.frozen?, h]

theorem grown_set (w : World) (p j : Nat) (v : Value) : w.grownBy (w.setCell ⟨p, j, none⟩ v) (some p) := ⟨rfl, rfl, rfl, by simp, fun k _ hk => heap_setCell_other w ⟨p, j, none⟩ k _ (fun e => hk (by simp [e]))⟩

theorem grown_drewN (w : World) (n : Nat) (row : Option Nat) : w.grownBy (w.drewN n) row := ⟨rfl, rfl, rfl, Nat.le_refl _, fun _ _ _ => rfl⟩

theorem grown_trans {a b c : World} {row : Option Nat} (h : a.grownBy b row) (k : b.grownBy c row) : a.grownBy c row :=
  ⟨k.os.trans h.os, k.tape.trans h.tape, k.output.trans h.output, Nat.le_trans h.size k.size, fun i hi hr => (k.block i (Nat.lt_of_lt_of_le hi h.size) hr).trans (h.block i hi hr)⟩

theorem lt_of_heap {w : World} {p : Nat} {o : Obj} (h : w.heap[p]? = some o) : p < w.heap.size := by
  rcases Nat.lt_or_ge p w.heap.size with hl | hl
  · exact hl
  · rw [Array.getElem?_eq_none hl] at h; cases h
end Go.Proofs.YthmmpmbnpfhloaaDoor
namespace Go.Proofs.YthmmpmbnpfhloaaDoor
open Go.RowKit

def inB (x a b : Int) : Bool := decide (a ≤ x) && decide (x ≤ b)

set_option maxHeartbeats 400000 in
theorem in_any (x a b : Int) (w : World) : Calls Tryd.prog 29 #[.int .i64 x, .int .i64 a, .int .i64 b] w fun e w' => e = .returned (.bool (inB x a b)) ∧ w = w' := by
  by_cases h1 : a ≤ x <;> by_cases h2 : x ≤ b
  all_goals
    go_enter Tryd.func29, Tryd.ntmps29
    go_wp2
    go_ret
    exact ⟨by simp [inB, h1, h2], rfl⟩

end Go.Proofs.YthmmpmbnpfhloaaDoor
namespace Go.Proofs.YthmmpmbnpfhloaaDoor
open Go.RowKit

def mayTake (ops : Array Oper) (listed : Array Bool) (i : Nat) : Bool := Region.noSelect ops && Region.free .any ops listed i && (Region.ready .any ops listed).contains i

theorem mayTake_parts {ops : Array Oper} {listed : Array Bool} {i : Nat} (h : mayTake ops listed i = true) : Region.noSelect ops = true ∧ Region.free .any ops listed i = true ∧ (Region.ready .any ops listed).contains i = true := by
  unfold mayTake at h
  simp only [Bool.and_eq_true] at h
  exact ⟨h.1.1, h.1.2, h.2⟩

section
variable {P : Program} {ops : Array Oper} {Q : Exit → Act → World → Prop} {S : World → Prop} {fuel : Nat} {listed : Array Bool} {a : Act} {w : World}

/-- the beginning: the region's operations behind a letter -/
theorem wp_region_start {id : Nat} (hm : P.follows .mixedOrders = true) (n : Nat) (hn : ops.size = n) (hS : S w.drew) (h : ∀ ops', Hid (ops' = ops) → S w.drew → wpAnyH P .any ops' Q S n (Array.replicate n false) a w.drew) : (Code.region id ops true).wp P Q a w := by
  refine wp_region_held_drew hm hS (fun hs => ?_)
  rw [hn]
  exact h ops rfl hs

/-- an operation that isn't wanted -/
theorem take_skip (i : Nat) (d : Tmp) (hi : (ops[i]?).map Oper.dst = some (some d)) (ht : mayTake ops listed i = true) (hw : (ops[i]?).map (fun o => Region.wanted o (yielded ops a.tmps)) = some false)
    (hQ : ∀ c a w, Q (.panic c) (a.put (some d) undef) w → Q (.panic c) a w) (hS : S w) (h : wpAnyH P .any ops Q S fuel (listed.setIfInBounds i true) (a.put (some d) undef) w) : wpAnyH P .any ops Q S (fuel + 1) listed a w := by
  obtain ⟨h1, h2, h3⟩ := mayTake_parts ht
  cases ho : ops[i]? with
  | none => rw [ho] at hi; cases hi
  | some oi =>
    rw [ho] at hi hw
    simp only [Option.map_some, Option.some.injEq] at hi hw
    refine wpAnyH_take ho h1 h2 h3 (v := undef) ?_ (Or.inr ⟨hw, rfl⟩) hS ?_
    · rw [hi]; exact hQ
    · rw [hi]; exact h

/-- an operation that yields v in every world that meets S -/
theorem take_do (i : Nat) {oi : Oper} {v : Value} (hi : ops[i]? = some oi) (ht : mayTake ops listed i = true) (hw : Region.wanted oi (yielded ops a.tmps) = true) (hy : ∀ w, S w → (execOp a.eval oi).run P w = .ok (.value v) w)
    (hQ : ∀ c a w, Q (.panic c) (a.put oi.dst v) w → Q (.panic c) a w) (hS : S w) (h : wpAnyH P .any ops Q S fuel (listed.setIfInBounds i true) (a.put oi.dst v) w) : wpAnyH P .any ops Q S (fuel + 1) listed a w := by
  obtain ⟨h1, h2, h3⟩ := mayTake_parts ht
  exact wpAnyH_take hi h1 h2 h3 hQ (Or.inl ⟨hw, hy⟩) hS h

/-- a call that alone may come up -/
theorem take_call (i : Nat) {oi : Oper} (hi : ops[i]? = some oi) (hr : Region.ready .any ops listed = [i]) (hw : Region.wanted oi (yielded ops a.tmps) = true)
    (h : ∀ K' : Act → World → Prop, Shut (∀ a w, S w → (S w → wpAnyH P .any ops Q S fuel (listed.setIfInBounds i true) a w) → K' a w) → Oper.wp P oi a w K' Q) : wpAnyH P .any ops Q S (fuel + 1) listed a w := by
  refine wpAnyH_ready (rs := [i]) hr (by simp) ?_
  refine AllReadyH.cons hi (fun K hK => ?_) AllReadyH.nil
  rw [if_pos hw]
  exact h K hK
end
end Go.Proofs.YthmmpmbnpfhloaaDoor
namespace Go.Proofs.YthmmpmbnpfhloaaDoor
open Go.RowKit

def ascAt {α : Type} (ord : α → α → Int) (ls : List α) : Nat → Bool
  | 0 => true
  | k + 1 => match ls[k]?, ls[k + 1]? with
    | some p, some l => decide (ord p l < 0)
    | _, _ => true

theorem ascAt_eq {α : Type} {ord : α → α → Int} {ls : List α} {j : Nat} {p l : α} (hp : ls[j]? = some p) (hl : ls[j + 1]? = some l) : ascAt ord ls (j + 1) = decide (ord p l < 0) := by
  simp only [ascAt, hp, hl]

def ascB {α : Type} (ord : α → α → Int) (ls : List α) : Bool := (List.range ls.length).all (ascAt ord ls)

theorem all_false {n k : Nat} {p : Nat → Bool} (hk : k < n) (h : p k = false) : (List.range n).all p = false := by
  cases e : (List.range n).all p with
  | false => rfl
  | true => rw [List.all_eq_true.1 e k (List.mem_range.2 hk)] at h; cases h

theorem all_true {n : Nat} {p : Nat → Bool} (h : ∀ j, j < n → p j = true) : (List.range n).all p = true := List.all_eq_true.2 fun j hj => h j (List.mem_range.1 hj)

theorem next_true {k : Nat} {p : Nat → Bool} (h : ∀ j, j < k → p j = true) (hk : p k = true) : ∀ j, j < k + 1 → p j = true := fun j hj => by
  by_cases e : j = k
  · subst e; exact hk
  · exact h j (by omega)

def okAt {α : Type} (ok : α → Bool) (ls : List α) (k : Nat) : Bool := match ls[k]? with
  | some l => ok l
  | none => true

theorem okAt_eq {α : Type} {ok : α → Bool} {ls : List α} {k : Nat} {l : α} (h : ls[k]? = some l) : okAt ok ls k = ok l := by simp only [okAt, h]

def allOk {α : Type} (ok : α → Bool) (ls : List α) : Bool := (List.range ls.length).all (okAt ok ls)

end Go.Proofs.YthmmpmbnpfhloaaDoor
namespace Go.Proofs.YthmmpmbnpfhloaaDoor
open Go.RowKit

set_option maxHeartbeats 400000 in
theorem fig_any (x : Int) (w : World) (h0 : 0 ≤ x) (h1 : x < 16) : Calls Tryd.prog 16 #[.int .i64 x] w fun e w' => e = .returned (.int .u8 ((fig x).toNat : Int)) ∧ w = w' := by
  by_cases h : x < 10
  · have e := fig_lo x h0 h
    have E := hide e
    clear e
    go_enter Tryd.func16, Tryd.ntmps16
    go_wp2
    go_ret
    exact ⟨ret_int (by have := E.out; omega), rfl⟩
  · have e := fig_hi x (by omega) h1
    have E := hide e
    clear e
    go_enter Tryd.func16, Tryd.ntmps16
    go_wp2
    go_ret
    exact ⟨ret_int (by have := E.out; omega), rfl⟩
end Go.Proofs.YthmmpmbnpfhloaaDoor
