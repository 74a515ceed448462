/-
  spec.l07Owner, impl.wayToOwner: the way to who owns a thing.
-/
import Derived.Test.YtbknmgobmnjphaaWk24
import Derived.Test.YtbknmgobmnjphaaWk8
namespace Go.Proofs.Ytbknmgobmnjphaa
open Go.RowKit

set_option linter.unusedSimpArgs false

def ownD (ds es : List WayD) (src o : Int) : WayD := (ownerW ds es src o).getD zeroWD
def ownB (ds es : List WayD) (src o : Int) : Bool := (ownerW ds es src o).isSome

theorem own_find (ds es : List WayD) (src o : Int) : (ownB ds es src o = true ∧ ownerW ds es src o = some (ownD ds es src o)) ∨ (ownB ds es src o = false ∧ ownerW ds es src o = none ∧ ownD ds es src o = zeroWD) := by
  unfold ownB ownD
  cases e : ownerW ds es src o with
  | none => exact .inr ⟨rfl, rfl, rfl⟩
  | some w => exact .inl ⟨rfl, rfl⟩

theorem own_self (ds es : List WayD) (src : Int) : ownD ds es src src = ⟨src, 0, []⟩ ∧ ownB ds es src src = true := by
  unfold ownD ownB ownerW
  rw [if_pos rfl]
  exact ⟨rfl, rfl⟩

theorem own_within {ds es : List WayD} {src o : Int} (h : o ≠ src) (hb : wayToB ds o = true) : ownD ds es src o = wayToD ds o ∧ ownB ds es src o = true := by
  unfold ownD ownB ownerW
  rw [if_neg h, findW_append]
  unfold wayToB at hb
  unfold wayToD findW
  cases e : ds.find? (fun x => x.to == o) with
  | none => rw [e] at hb; cases hb
  | some w => exact ⟨rfl, rfl⟩

theorem own_beyond {ds es : List WayD} {src o : Int} (h : o ≠ src) (hb : wayToB ds o = false) : ownD ds es src o = wayToD es o ∧ ownB ds es src o = wayToB es o := by
  unfold ownD ownB ownerW
  rw [if_neg h, findW_append]
  unfold wayToB at hb
  unfold wayToD wayToB findW
  cases e : ds.find? (fun x => x.to == o) with
  | none => exact ⟨by simp, by simp⟩
  | some w => rw [e] at hb; cases hb

/-- the end: a way in the result's cell -/
theorem own_end {W : World} {z : Nat} {c0 c1 c2 : Value} (B : Nat) (x : WayD) (v : Value) (hz : W.heap[z]? = some (.cells #[c0, c1, c2] 79)) (ho : W.ownsRow B 3 1 v x.hops.length (flat intE x.hops)) :
    (putW3 W z x v).heap[z]? = some (.cells (wayC x v) 79) ∧ (putW3 W z x v).ownsRow B 3 1 v x.hops.length (flat intE x.hops) ∧ Below z W (putW3 W z x v) := by
  have G := grownW3 W z x v
  refine ⟨finW3 x v hz, owns_keepB ho (fun k hk => G.block k (ho.lt k hk).2 (fun e => own_type_ne2 ho hz (by decide) (by rw [hk]; exact e.symm))), (Below.refl z W).grown G ?_ (fun k hk => by simp at hk; omega)⟩
  have := lt_of_heap hz
  omega

set_option maxRecDepth 100000 in
set_option maxHeartbeats 4000000 in
theorem sowner_any (v u : Value) (ws bs : List WP) (lo hi lo2 hi2 : Nat) (o src : Int) (w : World) (hv : WaysOwn w lo hi v ws) (hhi : hi ≤ w.heap.size) (hn : totW ws ≤ 1048576) (hu : WaysOwn w lo2 hi2 u bs) (hhi2 : hi2 ≤ w.heap.size) (hn2 : totW bs ≤ 1048576) :
    Calls Try.prog 55 #[v, u, .int .i64 o, .int .i64 src] w fun e w' => ∃ x, e = .returned (.tuple #[.agg (wayC (ownD (fstsW ws) (fstsW bs) src o) x), .bool (ownB (fstsW ws) (fstsW bs) src o)]) ∧ w'.ownsRow w.heap.size 3 1 x (ownD (fstsW ws) (fstsW bs) src o).hops.length (flat intE (ownD (fstsW ws) (fstsW bs) src o).hops) ∧ Below w.heap.size w w' := by
  obtain ⟨a1, c1, rfl⟩ := owns_lenS hv.row
  obtain ⟨a2, c2, rfl⟩ := owns_lenS hu.row
  have H1 := hide (fun W (hb : Below w.heap.size w W) => swayTo_any (.slice a1 ws.length c1) ws lo hi o W (hv.below hb hhi) (Nat.le_trans hhi hb.size) hn)
  have H2 := hide (fun W (hb : Below w.heap.size w W) => swayTo_any (.slice a2 bs.length c2) bs lo2 hi2 o W (hu.below hb hhi2) (Nat.le_trans hhi2 hb.size) hn2)
  clear hv hu
  have HS := hide (own_self (fstsW ws) (fstsW bs) src)
  have HW := hide (own_within (ds := fstsW ws) (es := fstsW bs) (src := src) (o := o))
  have HB := hide (own_beyond (ds := fstsW ws) (es := fstsW bs) (src := src) (o := o))
  obtain ⟨D, hD⟩ : ∃ D, D = ownD (fstsW ws) (fstsW bs) src o := ⟨_, rfl⟩
  obtain ⟨F, hF⟩ : ∃ F, F = ownB (fstsW ws) (fstsW bs) src o := ⟨_, rfl⟩
  rw [← hD, ← hF]
  have HD := hide hD
  have HF := hide hF
  clear hD hF
  have BX : Below w.heap.size w (w.alloc (.cells #[.int .i64 0, .int .i64 0, .slice none 0 0] 79)) := (Below.refl _ _).alloc (Nat.le_refl _) _
  have hq := heap_alloc_new w (.cells #[.int .i64 0, .int .i64 0, .slice none 0 0] 79)
  have hs0 := lt_of_heap hq
  unfold wayC at H1 H2
  by_cases ho : o = src
  · subst ho
    have hDe : D = ⟨o, 0, []⟩ := HD.out.trans HS.out.1
    have hFe : F = true := HF.out.trans HS.out.2
    subst hDe hFe
    have hd : (o == o) = true := by simp
    have FF := hide (heap_alloc_new w (.cells (wayC ⟨o, 0, []⟩ (.slice none 0 0)) 79))
    clear H1 H2 HS HW HB HD HF hq BX hs0
    unfold wayC
    go_enter Try.func55, Try.ntmps55
    go_wp2_with fail
    (try simp only [Exit.inBlock, Exit.then])
    refine bodyPost_ret (results_cell_row_tmpW rfl _ _ w.heap.size 79 (wayC ⟨o, 0, []⟩ (.slice none 0 0)) (0, 0) _ rfl FF.out Try.underlying79 rfl (by kernel_rfl)) rfl ?_
    exact ⟨.slice none 0 0, rfl, World.ownsRow_nil _ _ _ _, (Below.refl _ _).alloc (Nat.le_refl _) _⟩
  have hd : (o == src) = false := by simpa using ho
  have HO := hide ho
  clear ho
  obtain ⟨w0, hw0⟩ : ∃ W, W = w.alloc (.cells #[.int .i64 0, .int .i64 0, .slice none 0 0] 79) := ⟨_, rfl⟩
  rw [← hw0] at BX hq hs0
  have C1 := H1.out w0 BX
  obtain ⟨D1, hD1⟩ : ∃ D, D = wayToD (fstsW ws) o := ⟨_, rfl⟩
  obtain ⟨F1, hF1⟩ : ∃ F, F = wayToB (fstsW ws) o := ⟨_, rfl⟩
  rw [← hD1, ← hF1] at C1
  have HC1 := hide C1
  have HQ := hide hq
  have HD1 := hide hD1
  have HF1 := hide hF1
  have HBX := hide BX
  clear C1 hq hD1 hF1 H1 HS
  unfold wayC
  go_enter Try.func55, Try.ntmps55
  go_wp2_with fail
  rw [← hw0]
  refine HC1.out.mono ?_
  rintro e w2 ⟨x1, rfl, ho1, b1⟩
  obtain ⟨xa, xc, rfl⟩ := owns_lenS ho1
  have hb1 := b1.size
  have BA := (Below.refl w2.heap.size w2).alloc (Nat.le_refl _) (.cells #[.int .i64 D1.to, .int .i64 D1.cost, .slice xa D1.hops.length xc] 79)
  have hz2 := (b1.block _ hs0).trans HQ.out
  have hz3 := (BA.block _ (lt_of_heap hz2)).trans hz2
  have hbx := HBX.out.size
  have B2 : Below w.heap.size w w2 := HBX.out.trans (b1.mono hbx)
  have hl2 := lt_of_heap hz2
  cases F1
  · have hh := HB.out HO.out HF1.out.symm
    have hDe := HD.out.trans hh.1
    have hFe := HF.out.trans hh.2
    have C2 := H2.out (w2.alloc (.cells #[.int .i64 D1.to, .int .i64 D1.cost, .slice xa D1.hops.length xc] 79)) (B2.trans (BA.mono (by omega)))
    rw [← hDe, ← hFe] at C2
    have HC2 := hide C2
    have HZ3 := hide hz3
    have HBA := hide BA
    have HB2 := hide B2
    clear C2 hh hDe hFe H2 HB HW ho1 hz2 hz3 BA B2 HC1
    go_wp2_with fail
    refine HC2.out.mono ?_
    rintro e w4 ⟨x2, rfl, ho2, b2⟩
    obtain ⟨ya, yc, rfl⟩ := owns_lenS ho2
    have hb2 := b2.size
    have hba := HBA.out.size
    have hz4 := (b2.block _ (lt_of_heap HZ3.out)).trans HZ3.out
    have u0 := cells_at hz4 0
    have u1 := cells_at hz4 1
    have u2 := cells_at hz4 2
    simp at u0 u1 u2
    have fu := frozen_at hz4
    have EE := own_end w.heap.size D (.slice ya D.hops.length yc) hz4 (owns_baseS ho2 (by omega))
    have FF := hide EE.1
    have OO := hide EE.2.1
    have BB := hide ((HB2.out.trans ((HBA.out.mono (by omega)).trans (b2.mono (by omega)))).trans EE.2.2)
    clear EE hz4 ho2 b2 HZ3 HBA HB2 HC2
    go_wp2_with fail
    (try simp only [Exit.inBlock, Exit.then])
    refine bodyPost_ret (results_cell_row_tmpW rfl _ _ w.heap.size 79 (wayC D (.slice ya D.hops.length yc)) (0, 0) _ rfl FF.out Try.underlying79 rfl (by kernel_rfl)) rfl ?_
    exact ⟨_, rfl, OO.out, BB.out⟩
  · have hh := HW.out HO.out HF1.out.symm
    have hDe : D1 = D := HD1.out.trans (HD.out.trans hh.1).symm
    have hFe : F = true := HF.out.trans hh.2
    subst hDe hFe
    have hx := heap_alloc_new w2 (.cells #[.int .i64 D1.to, .int .i64 D1.cost, .slice xa D1.hops.length xc] 79)
    have e0 := cells_at hx 0
    have e1 := cells_at hx 1
    have e2 := cells_at hx 2
    simp at e0 e1 e2
    have u0 := cells_at hz2 0
    have u1 := cells_at hz2 1
    have u2 := cells_at hz2 2
    simp at u0 u1 u2
    have fu := frozen_at hz2
    have hzn : w.heap.size ≠ w2.heap.size := by omega
    have EE := own_end w.heap.size D1 (.slice xa D1.hops.length xc) hz2 (owns_baseS ho1 (by omega))
    have FF := hide (show ((putW3 w2 w.heap.size D1 (.slice xa D1.hops.length xc)).alloc (.cells #[.int .i64 D1.to, .int .i64 D1.cost, .slice xa D1.hops.length xc] 79)).heap[w.heap.size]? = some (.cells (wayC D1 (.slice xa D1.hops.length xc)) 79) by rw [Below.heap_alloc _ _ _ (lt_of_heap EE.1)]; exact EE.1)
    have OO := hide (EE.2.1.alloc (.cells #[.int .i64 D1.to, .int .i64 D1.cost, .slice xa D1.hops.length xc] 79))
    have BB := hide ((B2.trans EE.2.2).alloc (Nat.le_of_lt (lt_of_heap EE.1)) (.cells #[.int .i64 D1.to, .int .i64 D1.cost, .slice xa D1.hops.length xc] 79))
    clear EE hz2 hz3 ho1 b1 H2 HB HW HC1 BA B2 hx
    go_wp2_with fail
    (try simp only [Exit.inBlock, Exit.then])
    refine bodyPost_ret (results_cell_row_tmpW rfl _ _ w.heap.size 79 (wayC D1 (.slice xa D1.hops.length xc)) (0, 0) _ rfl FF.out Try.underlying79 rfl (by kernel_rfl)) rfl ?_
    exact ⟨_, rfl, OO.out, BB.out⟩

end Go.Proofs.Ytbknmgobmnjphaa
