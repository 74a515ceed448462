/-
  spec.l08With: its contract.
  spec.WaysIn: the region that puts a way to the answer.
-/
import Derived.Test.YthmmpmbnpfhloaaDoorSh22
namespace Go.Proofs.YthmmpmbnpfhloaaDoor
open Go.RowKit

set_option linter.unusedSimpArgs false

/-- a Seq of 0 is 1 -/
def seq1 (r : RecD) : RecD := if r.seq = 0 then { r with seq := 1 } else r

/-- a store with records in the place of those with their keys -/
def withD (xs ts : List RecD) : List RecD := ts.foldl (fun a r => putD a (seq1 r)) xs

theorem withD_step {xs ts : List RecD} {k : Nat} {r : RecD} (h : ts[k]? = some r) : withD xs (ts.take (k + 1)) = putD (withD xs (ts.take k)) (seq1 r) := by
  obtain ⟨hk, e⟩ := List.getElem?_eq_some_iff.1 h
  unfold withD
  rw [List.take_succ_eq_append_getElem hk, e, List.foldl_append]
  rfl

theorem tot_takeK {ts : List RP} {k : Nat} {p : RP} (h : ts[k]? = some p) : tot (ts.take (k + 1)) = tot (ts.take k) + (1 + p.1.near.length) := by
  obtain ⟨hk, e⟩ := List.getElem?_eq_some_iff.1 h
  rw [List.take_succ_eq_append_getElem hk, tot_append, e]
  simp [tot]

theorem tot_takeL (ts : List RP) (k : Nat) : tot (ts.take k) ≤ tot ts := by
  have h := tot_append (ts.take k) (ts.drop k)
  rw [List.take_append_drop] at h
  omega

set_option maxRecDepth 100000 in
set_option maxHeartbeats 4000000 in
theorem with_any (v v2 : Value) (ps ts : List RP) (hi : Nat) (w : World) (hv : RecsIn w hi v ps) (ht : RecsIn w hi v2 ts) (hhi : hi ≤ w.heap.size) (hn : tot ps + tot ts ≤ 1048576) :
    Calls Tryd.prog 54 #[v, v2] w fun e w' => ∃ x qs, e = .returned x ∧ fsts qs = withD (fsts ps) (fsts ts) ∧ RecsIn w' w'.heap.size x qs ∧ tot qs ≤ tot ps + tot ts ∧ Below w.heap.size w w' := by
  have htl := tot_len ts
  obtain ⟨a1, c1, rfl⟩ := owns_lenS hv.row
  obtain ⟨a2, c2, rfl⟩ := owns_lenS ht.row
  have HT := hide ht
  have HV0 := hide (hv.wide hhi)
  clear hv ht
  go_enter Tryd.func54, Tryd.ntmps54
  go_wp2
  go_loopw [6, 5] (fun i o wr => ∃ (k : Nat) (x : Value) (qs : List RP), k ≤ ts.length ∧ i = .int .i64 (k : Int) ∧ o = x ∧ RecsIn wr wr.heap.size x qs ∧ Hid (fsts qs = withD (fsts ps) ((fsts ts).take k)) ∧ tot qs ≤ tot ps + tot (ts.take k) ∧ Below w.heap.size w wr) (fun i _ _ => ts.length - (intOf i).toNat)
  case atStart => exact ⟨0, _, ps, by omega, rfl, rfl, HV0.out, hide (by simp [withD]), by omega, Below.refl _ _⟩
  case round =>
    obtain ⟨k, x, qs, hk, rfl, rfl, hin, HF, htq, hnx⟩ := hrel
    clear HV0
    obtain ⟨xa, xc, rfl⟩ := owns_lenS hin.row
    have hsz := hnx.size
    by_cases hlt : k < ts.length
    · obtain ⟨p, hp⟩ : ∃ p, ts[k]? = some p := ⟨ts[k], List.getElem?_eq_getElem hlt⟩
      obtain ⟨bb, off, cap', hve, hbb, c0, c1, c2, c3, c4, c5, c6, c7, hnr⟩ := HT.out.at.cells k p hp
      cases hve
      obtain ⟨pa, pc, hpn⟩ := NearsAt.shape hnr
      rw [hpn] at c5
      rw [← hnx.cell (p := ⟨bb, off + k * 8, none⟩) (Nat.lt_of_lt_of_le hbb hhi)] at c0
      rw [← hnx.cell (p := ⟨bb, off + k * 8 + 1, none⟩) (Nat.lt_of_lt_of_le hbb hhi)] at c1
      rw [← hnx.cell (p := ⟨bb, off + k * 8 + 2, none⟩) (Nat.lt_of_lt_of_le hbb hhi)] at c2
      rw [← hnx.cell (p := ⟨bb, off + k * 8 + 3, none⟩) (Nat.lt_of_lt_of_le hbb hhi)] at c3
      rw [← hnx.cell (p := ⟨bb, off + k * 8 + 4, none⟩) (Nat.lt_of_lt_of_le hbb hhi)] at c4
      rw [← hnx.cell (p := ⟨bb, off + k * 8 + 5, none⟩) (Nat.lt_of_lt_of_le hbb hhi)] at c5
      rw [← hnx.cell (p := ⟨bb, off + k * 8 + 6, none⟩) (Nat.lt_of_lt_of_le hbb hhi)] at c6
      rw [← hnx.cell (p := ⟨bb, off + k * 8 + 7, none⟩) (Nat.lt_of_lt_of_le hbb hhi)] at c7
      have htk := tot_takeK hp
      have htl2 := tot_takeL ts (k + 1)
      have hno0 := HT.out.nears p (List.mem_of_getElem? hp)
      have hno1 : NearOwn wr 0 wr.heap.size p := (hno0.keep (W' := wr) (fun j _ h2 _ => hnx.block j (by omega))).wide (Nat.le_refl _) (by omega)
      have hpe : p = (p.1, .slice pa p.1.near.length pc) := by rw [← hpn]
      have hki : (0 : Int) ≤ (k : Int) := by omega
      have hkj : (k : Int) < (ts.length : Int) := by omega
      by_cases hs0 : p.1.seq = 0
      · have hd : (p.1.seq == 0) = true := by simpa using hs0
        have hse : seq1 p.1 = { p.1 with seq := 1 } := by unfold seq1; rw [if_pos hs0]
        have hno : NearOwn wr 0 wr.heap.size ({ p.1 with seq := 1 }, .slice pa p.1.near.length pc) := by rw [hpe] at hno1; exact hno1
        clear hs0 hpe hno0 hno1 hnr hpn
        have BA : Below wr.heap.size wr (wr.alloc (.cells #[.int .i64 p.1.area, .int .i64 p.1.kind, .int .i64 p.1.owner, .int .i64 p.1.key, .int .i64 1, .slice pa p.1.near.length pc, .int .i64 p.1.cost, .bool p.1.far] 81)) := (Below.refl _ _).alloc (Nat.le_refl _) _
        have hno2 : NearOwn (wr.alloc (.cells #[.int .i64 p.1.area, .int .i64 p.1.kind, .int .i64 p.1.owner, .int .i64 p.1.key, .int .i64 1, .slice pa p.1.near.length pc, .int .i64 p.1.cost, .bool p.1.far] 81)) 0 (wr.alloc (.cells #[.int .i64 p.1.area, .int .i64 p.1.kind, .int .i64 p.1.owner, .int .i64 p.1.key, .int .i64 1, .slice pa p.1.near.length pc, .int .i64 p.1.cost, .bool p.1.far] 81)).heap.size ({ p.1 with seq := 1 }, .slice pa p.1.near.length pc) := (hno.keep (W' := (wr.alloc (.cells #[.int .i64 p.1.area, .int .i64 p.1.kind, .int .i64 p.1.owner, .int .i64 p.1.key, .int .i64 1, .slice pa p.1.near.length pc, .int .i64 p.1.cost, .bool p.1.far] 81))) (fun j _ _ h3 => BA.block j h3)).wide (Nat.le_refl _) BA.size
        have HP := hide (put_any (.slice xa qs.length xc) qs (wr.alloc (.cells #[.int .i64 p.1.area, .int .i64 p.1.kind, .int .i64 p.1.owner, .int .i64 p.1.key, .int .i64 1, .slice pa p.1.near.length pc, .int .i64 p.1.cost, .bool p.1.far] 81)).heap.size ({ p.1 with seq := 1 }, .slice pa p.1.near.length pc) (wr.alloc (.cells #[.int .i64 p.1.area, .int .i64 p.1.kind, .int .i64 p.1.owner, .int .i64 p.1.key, .int .i64 1, .slice pa p.1.near.length pc, .int .i64 p.1.cost, .bool p.1.far] 81)) ((hin.below BA (Nat.le_refl _)).wide BA.size) (Nat.le_refl _) (by omega) hno2)
        have HF2 := hide (show fsts (putL qs ({ p.1 with seq := 1 }, .slice pa p.1.near.length pc)) = withD (fsts ps) ((fsts ts).take (k + 1)) by
          rw [putL_fsts, withD_step (fsts_at hp), ← HF.out, hse])
        have htp := tot_put qs ({ p.1 with seq := 1 }, .slice pa p.1.near.length pc)
        have HB := hide (hnx.trans (BA.mono hnx.size))
        have HTK := hide htk
        have htp2 : tot (putL qs ({ p.1 with seq := 1 }, .slice pa p.1.near.length pc)) ≤ tot qs + (1 + p.1.near.length) := htp
        obtain ⟨Q, hQ⟩ : ∃ Q, Q = putL qs ({ p.1 with seq := 1 }, .slice pa p.1.near.length pc) := ⟨_, rfl⟩
        rw [← hQ] at HP HF2 htp2
        unfold recC at HP
        simp only [] at HP
        clear hno hno2 hin hse htp hp HF htk hQ
        go_wp2_with fail
        refine HP.out.mono ?_
        rintro e w2 ⟨y, rfl, hy, b2⟩
        obtain ⟨ya, yc, rfl⟩ := owns_lenS hy.row
        have HY := hide hy
        have HB2 := hide (HB.out.trans (b2.mono HB.out.size))
        clear hy b2 HP HB BA
        go_wp2
        go_roundw
        case rel => exact ⟨k + 1, _, Q, by omega, by go_num, rfl, HY.out, HF2, by have := HTK.out; omega, HB2.out⟩
        case measure => simp [intOf]; omega
      · have hd : (p.1.seq == 0) = false := by simpa using hs0
        have hse : seq1 p.1 = p.1 := by unfold seq1; rw [if_neg hs0]
        have hno : NearOwn wr 0 wr.heap.size (p.1, .slice pa p.1.near.length pc) := by rw [hpe] at hno1; exact hno1
        clear hs0 hpe hno0 hno1 hnr hpn
        have BA : Below wr.heap.size wr (wr.alloc (.cells #[.int .i64 p.1.area, .int .i64 p.1.kind, .int .i64 p.1.owner, .int .i64 p.1.key, .int .i64 p.1.seq, .slice pa p.1.near.length pc, .int .i64 p.1.cost, .bool p.1.far] 81)) := (Below.refl _ _).alloc (Nat.le_refl _) _
        have hno2 : NearOwn (wr.alloc (.cells #[.int .i64 p.1.area, .int .i64 p.1.kind, .int .i64 p.1.owner, .int .i64 p.1.key, .int .i64 p.1.seq, .slice pa p.1.near.length pc, .int .i64 p.1.cost, .bool p.1.far] 81)) 0 (wr.alloc (.cells #[.int .i64 p.1.area, .int .i64 p.1.kind, .int .i64 p.1.owner, .int .i64 p.1.key, .int .i64 p.1.seq, .slice pa p.1.near.length pc, .int .i64 p.1.cost, .bool p.1.far] 81)).heap.size (p.1, .slice pa p.1.near.length pc) := (hno.keep (W' := (wr.alloc (.cells #[.int .i64 p.1.area, .int .i64 p.1.kind, .int .i64 p.1.owner, .int .i64 p.1.key, .int .i64 p.1.seq, .slice pa p.1.near.length pc, .int .i64 p.1.cost, .bool p.1.far] 81))) (fun j _ _ h3 => BA.block j h3)).wide (Nat.le_refl _) BA.size
        have HP := hide (put_any (.slice xa qs.length xc) qs (wr.alloc (.cells #[.int .i64 p.1.area, .int .i64 p.1.kind, .int .i64 p.1.owner, .int .i64 p.1.key, .int .i64 p.1.seq, .slice pa p.1.near.length pc, .int .i64 p.1.cost, .bool p.1.far] 81)).heap.size (p.1, .slice pa p.1.near.length pc) (wr.alloc (.cells #[.int .i64 p.1.area, .int .i64 p.1.kind, .int .i64 p.1.owner, .int .i64 p.1.key, .int .i64 p.1.seq, .slice pa p.1.near.length pc, .int .i64 p.1.cost, .bool p.1.far] 81)) ((hin.below BA (Nat.le_refl _)).wide BA.size) (Nat.le_refl _) (by omega) hno2)
        have HF2 := hide (show fsts (putL qs (p.1, .slice pa p.1.near.length pc)) = withD (fsts ps) ((fsts ts).take (k + 1)) by
          rw [putL_fsts, withD_step (fsts_at hp), ← HF.out, hse])
        have htp := tot_put qs (p.1, .slice pa p.1.near.length pc)
        have HB := hide (hnx.trans (BA.mono hnx.size))
        have HTK := hide htk
        have htp2 : tot (putL qs (p.1, .slice pa p.1.near.length pc)) ≤ tot qs + (1 + p.1.near.length) := htp
        obtain ⟨Q, hQ⟩ : ∃ Q, Q = putL qs (p.1, .slice pa p.1.near.length pc) := ⟨_, rfl⟩
        rw [← hQ] at HP HF2 htp2
        unfold recC at HP
        simp only [] at HP
        clear hno hno2 hin hse htp hp HF htk hQ
        go_wp2_with fail
        refine HP.out.mono ?_
        rintro e w2 ⟨y, rfl, hy, b2⟩
        obtain ⟨ya, yc, rfl⟩ := owns_lenS hy.row
        have HY := hide hy
        have HB2 := hide (HB.out.trans (b2.mono HB.out.size))
        clear hy b2 HP HB BA
        go_wp2
        go_roundw
        case rel => exact ⟨k + 1, _, Q, by omega, by go_num, rfl, HY.out, HF2, by have := HTK.out; omega, HB2.out⟩
        case measure => simp [intOf]; omega
    · have hkn : ¬ (k : Int) < (ts.length : Int) := by omega
      have HE := hide (show fsts qs = withD (fsts ps) (fsts ts) by have h := HF.out; rw [List.take_of_length_le (by simp [fsts]; omega)] at h; exact h)
      have HI := hide hin
      have hq : tot qs ≤ tot ps + tot ts := by have := tot_takeL ts k; omega
      clear hin HF
      go_wp2
      go_ret
      first
        | exact ⟨_, qs, rfl, HE.out, HI.out, hq, hnx⟩
        | exact ⟨_, rfl, qs, HE.out, HI.out, hq, hnx⟩
end Go.Proofs.YthmmpmbnpfhloaaDoor
namespace Go.Proofs.YthmmpmbnpfhloaaDoor
open Go.RowKit

set_option linter.unusedSimpArgs false

theorem alloc_keeps (W : World) (o : Obj) (k : Nat) (hk : k < W.heap.size) : (W.alloc o).heap[k]? = W.heap[k]? := Below.heap_alloc _ _ _ hk

theorem wp_append_own_none {P : Program} {w : World} {o : Oper} {a : Act} {K : Act → World → Prop} {Q : Exit → Act → World → Prop} (s x : Operand) (t : TypeId)
    (ho : o.op = .call { callee := .builtin .append, args := #[s, x], argTypes := #[t, t] })
    (base : Nat) (e : TypeId) (i : TypeInfo) (size : Nat) (ht : P.underlying t = some (.slice e)) (hi : P.info? e = some i)
    (v : Value) (n : Nat) (xs : List Value) (hs : a.eval s = v) (hown : w.ownsRow base e size v n xs) (hx : a.eval x = .slice none 0 0)
    (h : K (a.put o.dst v) w) : o.wp P a w K Q := by
  have hrun := run_append_owned_none (P := P) (w := w) base t o.type e i size ht hi v n xs hown
  unfold Oper.wp
  simp [execOp, ho, resolve, invoke, builtin, hs, hx, hrun, Result.andThen]
  exact h

/-- 'append(row, more...)' of rows of the call's own, as an operation that may come up in a region -/
theorem wp_append_rowW {α : Type} {enc : α → List Value} {sz bytes : Nat} (hlen : ∀ l : List α, (flat enc l).length = l.length * sz) (hpos : 0 < sz) (hone : ∀ a, ∀ u ∈ enc a, u.oneCell' = true) (hbb : bytes ≤ 100) {P : Program} (w : World) {o : Oper} {a : Act} {K : Act → World → Prop} {Q : Exit → Act → World → Prop} (s x : Operand) (t : TypeId)
    (ho : o.op = .call { callee := .builtin .append, args := #[s, x], argTypes := #[t, t] }) (base : Nat) (e : TypeId) (ht : P.underlying t = some (.slice e)) (zv : Value) (hzv : zv.cells.size = sz)
    (hinfo : (P.info? e).map (fun i => (i.zero, i.size, i.bytes)) = some (some zv, sz, bytes))
    (v : Value) (l : List α) (hs : a.eval s = v) (hown : w.ownsRow base e sz v l.length (flat enc l))
    (base2 : Nat) (v2 : Value) (l2 : List α) (hx : a.eval x = v2) (hown2 : w.ownsRow base2 e sz v2 l2.length (flat enc l2))
    (hl : l.length + l2.length ≤ 1000000000) (hbase : base ≤ w.heap.size)
    (h : ∀ v' w', w'.ownsRow base e sz v' (l ++ l2).length (flat enc (l ++ l2)) → w.grownBy w' v.ownBlock → K (a.put o.dst v') w') : o.wp P a w K Q := by
  obtain ⟨i0, hi, hz0, hz1, hz2⟩ := info_parts hinfo
  rcases hown2.2 with ⟨e1, e2⟩ | ⟨g, cap, cur, e1, _⟩
  · have e3 : l2 = [] := List.eq_nil_of_length_eq_zero e2
    subst e3
    refine wp_append_own_none s x t ho base e i0 sz ht hi v l.length (flat enc l) hs hown (hx.trans e1) ?_
    exact h v w (by simpa using hown) (grown_refl w _)
  · refine wp_append_own w s x t ho base e i0 zv sz bytes ht hi hz0 hz1 hz2 hzv hpos v l.length (flat enc l) hs hown ⟨g, 0, none⟩ l2.length cap (flat enc l2) (hx.trans e1) (hlen l2) (hown2.cells (by rw [e1]; rfl)) ?_ (by unfold maxLen; omega) ?_ hbase ?_
    · intro u hu
      simp only [flat, List.mem_flatMap] at hu
      obtain ⟨b, _, hb⟩ := hu
      exact hone b u hb
    · have : (l.length + l2.length) * bytes ≤ 1000000000 * 100 := Nat.mul_le_mul hl hbb
      omega
    · intro v' w' h1 h2 _
      have e1 : flat enc l ++ flat enc l2 = flat enc (l ++ l2) := by rw [flat_append]
      rw [e1] at h1
      exact h v' w' (by simpa using h1) h2

/-- 'append(out, x)' of a struct, as an operation that may come up in a region -/
theorem wp_append_structW {α : Type} {enc : α → List Value} {sz bytes : Nat} (hlen : ∀ a, (enc a).length = sz) (hpos : 0 < sz) (y0 : α) (hone : ∀ u ∈ enc y0, u.oneCell' = true) (hbb : bytes ≤ 100) {P : Program} (w : World) {o : Oper} {a : Act} {K : Act → World → Prop} {Q : Exit → Act → World → Prop} (s x : Operand) (t : TypeId)
    (ho : o.op = .call { callee := .builtin .append, args := #[s, x], argTypes := #[t, t] }) (base : Nat) (e : TypeId) (ht : P.underlying t = some (.slice e)) (zv : Value) (hzv : zv.cells.size = sz)
    (hinfo : (P.info? e).map (fun i => (i.zero, i.size, i.bytes)) = some (some zv, sz, bytes))
    (v : Value) (l : List α) (hs : a.eval s = v) (hown : w.ownsRow base e sz v l.length (flat enc l))
    (ad : Addr) (c : Nat) (hx : a.eval x = .slice (some ad) 1 c) (hnews : ∀ j u, (enc y0)[j]? = some u → w.cell? (ad.add j) = some u)
    (hl : l.length + 1 ≤ 1000000000) (hbase : base ≤ w.heap.size)
    (h : ∀ v' w' l', Hid (l' = l ++ [y0]) → w'.ownsRow base e sz v' l'.length (flat enc l') → w.grownBy w' v.ownBlock → K (a.put o.dst v') w') : Oper.wp P o a w K Q := by
  obtain ⟨i0, hi, hz0, hz1, hz2⟩ := info_parts hinfo
  refine wp_append_own w s x t ho base e i0 zv sz bytes ht hi hz0 hz1 hz2 hzv hpos v l.length (flat enc l) hs hown ad 1 c (enc y0) hx (by rw [hlen]; omega) hnews (hone) (by unfold maxLen; omega) ?_ hbase ?_
  · have : (l.length + 1) * bytes ≤ 1000000000 * 100 := Nat.mul_le_mul hl hbb
    omega
  · intro v' w' h1 h2 _
    have e1 : flat enc l ++ enc y0 = flat enc (l ++ [y0]) := by rw [flat_append]; simp [flat]
    rw [e1] at h1
    exact h v' w' (l ++ [y0]) rfl (by simpa using h1) h2

def wOps : Array Oper := #[{ dst := some 181, op := Go.Op.move (Go.Operand.tmp 7), type := 88, pos := "l06_way.go:102", after := #[], guard := none }, { dst := some 182, op := Go.Op.move (Go.Operand.tmp 22), type := 3, pos := "l06_way.go:102", after := #[], guard := none }, { dst := some 183, op := Go.Op.move (Go.Operand.tmp 11), type := 24, pos := "l06_way.go:102", after := #[], guard := none }, { dst := some 184, op := Go.Op.move (Go.Operand.tmp 22), type := 3, pos := "l06_way.go:102", after := #[], guard := none }, { dst := some 185, op := Go.Op.indexAddr 24 (Go.Operand.tmp 183) (Go.Operand.tmp 184), type := 0, pos := "l06_way.go:102", after := #[{ on := 2, ground := Go.Ground.data }, { on := 3, ground := Go.Ground.data }], guard := none }, { dst := some 186, op := Go.Op.load 3 (Go.Operand.tmp 185), type := 3, pos := "l06_way.go:102", after := #[{ on := 4, ground := Go.Ground.data }], guard := none }, { dst := some 187, op := Go.Op.buildSlice 24 0 #[], type := 24, pos := "l06_way.go:102", after := #[], guard := none }, { dst := some 188, op := Go.Op.move (Go.Operand.tmp 12), type := 125, pos := "l06_way.go:102", after := #[], guard := none }, { dst := some 189, op := Go.Op.move (Go.Operand.tmp 22), type := 3, pos := "l06_way.go:102", after := #[], guard := none }, { dst := some 190, op := Go.Op.indexAddr 125 (Go.Operand.tmp 188) (Go.Operand.tmp 189), type := 0, pos := "l06_way.go:102", after := #[{ on := 7, ground := Go.Ground.data }, { on := 8, ground := Go.Ground.data }], guard := none }, { dst := some 191, op := Go.Op.load 24 (Go.Operand.tmp 190), type := 24, pos := "l06_way.go:102", after := #[{ on := 9, ground := Go.Ground.data }], guard := none }, { dst := some 192, op := Go.Op.call { callee := Go.Callee.builtin Go.Builtin.append, args := #[Go.Operand.tmp 187, Go.Operand.tmp 191], argTypes := #[24, 24] }, type := 24, pos := "l06_way.go:102", after := #[{ on := 6, ground := Go.Ground.data }, { on := 10, ground := Go.Ground.data }], guard := none }, { dst := some 193, op := Go.Op.build 93 #[(0, Go.Operand.tmp 182), (1, Go.Operand.tmp 186), (2, Go.Operand.tmp 192)], type := 93, pos := "l06_way.go:102", after := #[{ on := 1, ground := Go.Ground.data }, { on := 5, ground := Go.Ground.data }, { on := 11, ground := Go.Ground.data }], guard := none }, { dst := some 194, op := Go.Op.buildSlice 88 1 #[(0, Go.Operand.tmp 193)], type := 88, pos := "l06_way.go:102", after := #[{ on := 12, ground := Go.Ground.data }], guard := none }, { dst := some 195, op := Go.Op.call { callee := Go.Callee.builtin Go.Builtin.append, args := #[Go.Operand.tmp 181, Go.Operand.tmp 194], argTypes := #[88, 88] }, type := 88, pos := "l06_way.go:102", after := #[{ on := 0, ground := Go.Ground.data }, { on := 13, ground := Go.Ground.data }, { on := 11, ground := Go.Ground.chain }], guard := none }, { dst := some 7, op := Go.Op.assign (Go.Operand.tmp 195), type := 88, pos := "l06_way.go:102", after := #[{ on := 14, ground := Go.Ground.data }, { on := 14, ground := Go.Ground.chain }, { on := 0, ground := Go.Ground.phase }, { on := 1, ground := Go.Ground.phase }, { on := 2, ground := Go.Ground.phase }, { on := 3, ground := Go.Ground.phase }, { on := 4, ground := Go.Ground.phase }, { on := 5, ground := Go.Ground.phase }, { on := 6, ground := Go.Ground.phase }, { on := 7, ground := Go.Ground.phase }, { on := 8, ground := Go.Ground.phase }, { on := 9, ground := Go.Ground.phase }, { on := 10, ground := Go.Ground.phase }, { on := 11, ground := Go.Ground.phase }, { on := 12, ground := Go.Ground.phase }, { on := 13, ground := Go.Ground.phase }, { on := 14, ground := Go.Ground.phase }], guard := none }]

set_option maxRecDepth 100000 in
set_option maxHeartbeats 4000000 in
theorem way_reg (t0 t1 t2 t3 t4 t5 t6 t8 t9 t10 t13 t14 t15 t16 t17 t18 t19 t20 t21 t23 t24 t25 t26 t27 t28 t29 t30 t31 t32 t33 t34 t35 t36 t37 t38 t39 t40 t41 t42 t43 t44 t45 t46 t47 t48 t49 t50 t51 t52 t53 t54 t55 t56 t57 t58 t59 t60 t61 t62 t63 t64 t65 t66 t67 t68 t69 t70 t71 t72 t73 t74 t75 t76 t77 t78 t79 t80 t81 t82 t83 t84 t85 t86 t87 t88 t89 t90 t91 t92 t93 t94 t95 t96 t97 t98 t99 t100 t101 t102 t103 t104 t105 t106 t107 t108 t109 t110 t111 t112 t113 t114 t115 t116 t117 t118 t119 t120 t121 t122 t123 t124 t125 t126 t127 t128 t129 t130 t131 t132 t133 t134 t135 t136 t137 t138 t139 t140 t141 t142 t143 t144 t145 t146 t147 t148 t149 t150 t151 t152 t153 t154 t155 t156 t157 t158 t159 t160 t161 t162 t163 t164 t165 t166 t167 t168 t169 t170 t171 t172 t173 t174 t175 t176 t177 t178 t179 t180 t181 t182 t183 t184 t185 t186 t187 t188 t189 t190 t191 t192 t193 t194 t195 t196 : Value) (W0 : World) (lo b v : Nat) (cv : Int) (hl : List Int) (pv : Option Addr) (qv : Nat) (ua : Option Addr) (uc : Nat) (qs : List WP) (cb ch : Array Value) (Q : Exit → Act → World → Prop) (ops : Array Oper) (hops : Hid (ops = wOps)) (hpan : ∀ c a1 a2 w, Q (.panic c) a1 w → Q (.panic c) a2 w)
    (hv : v ≤ 6) (hll : hl.length ≤ 6) (hql : qs.length ≤ 6) (hlo : lo ≤ W0.heap.size)
    (hb : W0.heap[b]? = some (.cells cb 3)) (hh : W0.heap[b + 1]? = some (.cells ch 24)) (h1 : W0.cell? ⟨b, v, none⟩ = some (.int .i64 cv)) (h2 : W0.cell? ⟨b + 1, v, none⟩ = some (.slice pv hl.length qv))
    (hRV : W0.ownsRow 0 3 1 (.slice pv hl.length qv) hl.length (flat intE hl)) (hWO : WaysOwn W0 lo W0.heap.size (.slice ua qs.length uc) qs)
    (hend : ∀ (W4 : World) (xa : Option Addr) (xc : Nat) (na : Option Addr) (nc N : Nat), WaysOwn W4 lo W4.heap.size (.slice xa (qs.length + 1) xc) (qs ++ [(⟨(v : Int), cv, hl⟩, .slice na hl.length nc)]) → (∀ k, k < W0.heap.size → some k ≠ (Value.slice ua qs.length uc).ownBlock → W4.heap[k]? = W0.heap[k]?) → Below lo W0 W4 → Q .normal { tmps := #[t0, t1, t2, t3, t4, t5, t6, .slice xa (qs.length + 1) xc, t8, t9, t10, .slice (some ⟨b, 0, none⟩) 7 7, .slice (some ⟨b + 1, 0, none⟩) 7 7, t13, t14, t15, t16, t17, t18, t19, t20, t21, .int .i64 (v : Int), t23, t24, t25, t26, t27, t28, t29, t30, t31, t32, t33, t34, t35, t36, t37, t38, t39, t40, t41, t42, t43, t44, t45, t46, t47, t48, t49, t50, t51, t52, t53, t54, t55, t56, t57, t58, t59, t60, t61, t62, t63, t64, t65, t66, t67, t68, t69, t70, t71, t72, t73, t74, t75, t76, t77, t78, t79, t80, t81, t82, t83, t84, t85, t86, t87, t88, t89, t90, t91, t92, t93, t94, t95, t96, t97, t98, t99, t100, t101, t102, t103, t104, t105, t106, t107, t108, t109, t110, t111, t112, t113, t114, t115, t116, t117, t118, t119, t120, t121, t122, t123, t124, t125, t126, t127, t128, t129, t130, t131, t132, t133, t134, t135, t136, t137, t138, t139, t140, t141, t142, t143, t144, t145, t146, t147, t148, t149, t150, t151, t152, t153, t154, t155, t156, t157, t158, t159, t160, t161, t162, t163, t164, t165, t166, t167, t168, t169, t170, t171, t172, t173, t174, t175, t176, t177, t178, t179, t180, .slice ua qs.length uc, .int .i64 (v : Int), .slice (some ⟨b, 0, none⟩) 7 7, .int .i64 (v : Int), .pointer (some ⟨b, v, none⟩), .int .i64 cv, .slice (some ⟨W0.heap.size, 0, none⟩) 0 0, .slice (some ⟨b + 1, 0, none⟩) 7 7, .int .i64 (v : Int), .pointer (some ⟨b + 1, v, none⟩), .slice pv hl.length qv, .slice na hl.length nc, .agg #[.int .i64 (v : Int), .int .i64 cv, .slice na hl.length nc], .slice (some ⟨N, 0, none⟩) 1 1, .slice xa (qs.length + 1) xc, t196], defers := [] } W4) :
    wpAnyH Tryd.prog .any ops Q (fun W => W.cell? ⟨b, v, none⟩ = some (.int .i64 cv) ∧ W.cell? ⟨b + 1, v, none⟩ = some (.slice pv hl.length qv)) 16 (Array.replicate 16 false) { tmps := #[t0, t1, t2, t3, t4, t5, t6, .slice ua qs.length uc, t8, t9, t10, .slice (some ⟨b, 0, none⟩) 7 7, .slice (some ⟨b + 1, 0, none⟩) 7 7, t13, t14, t15, t16, t17, t18, t19, t20, t21, .int .i64 (v : Int), t23, t24, t25, t26, t27, t28, t29, t30, t31, t32, t33, t34, t35, t36, t37, t38, t39, t40, t41, t42, t43, t44, t45, t46, t47, t48, t49, t50, t51, t52, t53, t54, t55, t56, t57, t58, t59, t60, t61, t62, t63, t64, t65, t66, t67, t68, t69, t70, t71, t72, t73, t74, t75, t76, t77, t78, t79, t80, t81, t82, t83, t84, t85, t86, t87, t88, t89, t90, t91, t92, t93, t94, t95, t96, t97, t98, t99, t100, t101, t102, t103, t104, t105, t106, t107, t108, t109, t110, t111, t112, t113, t114, t115, t116, t117, t118, t119, t120, t121, t122, t123, t124, t125, t126, t127, t128, t129, t130, t131, t132, t133, t134, t135, t136, t137, t138, t139, t140, t141, t142, t143, t144, t145, t146, t147, t148, t149, t150, t151, t152, t153, t154, t155, t156, t157, t158, t159, t160, t161, t162, t163, t164, t165, t166, t167, t168, t169, t170, t171, t172, t173, t174, t175, t176, t177, t178, t179, t180, t181, t182, t183, t184, t185, t186, t187, t188, t189, t190, t191, t192, t193, t194, t195, t196], defers := [] } W0 := by
  have hS0 : W0.cell? ⟨b, v, none⟩ = some (.int .i64 cv) ∧ W0.cell? ⟨b + 1, v, none⟩ = some (.slice pv hl.length qv) := ⟨h1, h2⟩
  have hS1 : ∀ W : World, (∀ k, k < W0.heap.size → W.heap[k]? = W0.heap[k]?) → W.cell? ⟨b, v, none⟩ = some (.int .i64 cv) ∧ W.cell? ⟨b + 1, v, none⟩ = some (.slice pv hl.length qv) := fun W hk => ⟨(World.cell?_of_block (hk b (lt_of_heap hb))).trans h1, (World.cell?_of_block (hk (b + 1) (lt_of_heap hh))).trans h2⟩
  have hvi : (0 : Int) ≤ (v : Int) := by omega
  have hvj : (v : Int) < 7 := by omega
  show wpAnyH Tryd.prog .any ops Q _ 16 #[false, false, false, false, false, false, false, false, false, false, false, false, false, false, false, false] _ W0
  refine take_do 0 (oi := ?_) (v := ?_) ?_ (by rw [hops.out]; kernel_rfl) ?_ ?_ ?_ (by assumption) ?_
  rotate_left 2
  · rw [hops.out]; unfold wOps; simp only [List.getElem?_toArray, List.getElem?_cons_succ, List.getElem?_cons_zero]; rfl
  · rw [hops.out]; kernel_rfl
  · intro W hW; obtain ⟨k1, k2⟩ := hW; go_simp <;> with_reducible rfl
  · exact fun c _ w h => hpan c _ _ w h
  try simp only [Act.put, List.setIfInBounds_toArray, List.set_cons_zero, List.set_cons_succ]
  refine take_do 1 (oi := ?_) (v := ?_) ?_ (by rw [hops.out]; kernel_rfl) ?_ ?_ ?_ (by assumption) ?_
  rotate_left 2
  · rw [hops.out]; unfold wOps; simp only [List.getElem?_toArray, List.getElem?_cons_succ, List.getElem?_cons_zero]; rfl
  · rw [hops.out]; kernel_rfl
  · intro W hW; obtain ⟨k1, k2⟩ := hW; go_simp <;> with_reducible rfl
  · exact fun c _ w h => hpan c _ _ w h
  try simp only [Act.put, List.setIfInBounds_toArray, List.set_cons_zero, List.set_cons_succ]
  refine take_do 2 (oi := ?_) (v := ?_) ?_ (by rw [hops.out]; kernel_rfl) ?_ ?_ ?_ (by assumption) ?_
  rotate_left 2
  · rw [hops.out]; unfold wOps; simp only [List.getElem?_toArray, List.getElem?_cons_succ, List.getElem?_cons_zero]; rfl
  · rw [hops.out]; kernel_rfl
  · intro W hW; obtain ⟨k1, k2⟩ := hW; go_simp <;> with_reducible rfl
  · exact fun c _ w h => hpan c _ _ w h
  try simp only [Act.put, List.setIfInBounds_toArray, List.set_cons_zero, List.set_cons_succ]
  refine take_do 3 (oi := ?_) (v := ?_) ?_ (by rw [hops.out]; kernel_rfl) ?_ ?_ ?_ (by assumption) ?_
  rotate_left 2
  · rw [hops.out]; unfold wOps; simp only [List.getElem?_toArray, List.getElem?_cons_succ, List.getElem?_cons_zero]; rfl
  · rw [hops.out]; kernel_rfl
  · intro W hW; obtain ⟨k1, k2⟩ := hW; go_simp <;> with_reducible rfl
  · exact fun c _ w h => hpan c _ _ w h
  try simp only [Act.put, List.setIfInBounds_toArray, List.set_cons_zero, List.set_cons_succ]
  refine take_do 4 (oi := ?_) (v := ?_) ?_ (by rw [hops.out]; kernel_rfl) ?_ ?_ ?_ (by assumption) ?_
  rotate_left 2
  · rw [hops.out]; unfold wOps; simp only [List.getElem?_toArray, List.getElem?_cons_succ, List.getElem?_cons_zero]; rfl
  · rw [hops.out]; kernel_rfl
  · intro W hW; obtain ⟨k1, k2⟩ := hW; go_simp <;> with_reducible rfl
  · exact fun c _ w h => hpan c _ _ w h
  try simp only [Act.put, List.setIfInBounds_toArray, List.set_cons_zero, List.set_cons_succ]
  refine take_do 5 (oi := ?_) (v := ?_) ?_ (by rw [hops.out]; kernel_rfl) ?_ ?_ ?_ (by assumption) ?_
  rotate_left 2
  · rw [hops.out]; unfold wOps; simp only [List.getElem?_toArray, List.getElem?_cons_succ, List.getElem?_cons_zero]; rfl
  · rw [hops.out]; kernel_rfl
  · intro W hW; obtain ⟨k1, k2⟩ := hW; go_simp <;> with_reducible rfl
  · exact fun c _ w h => hpan c _ _ w h
  try simp only [Act.put, List.setIfInBounds_toArray, List.set_cons_zero, List.set_cons_succ]
  refine take_do 7 (oi := ?_) (v := ?_) ?_ (by rw [hops.out]; kernel_rfl) ?_ ?_ ?_ (by assumption) ?_
  rotate_left 2
  · rw [hops.out]; unfold wOps; simp only [List.getElem?_toArray, List.getElem?_cons_succ, List.getElem?_cons_zero]; rfl
  · rw [hops.out]; kernel_rfl
  · intro W hW; obtain ⟨k1, k2⟩ := hW; go_simp <;> with_reducible rfl
  · exact fun c _ w h => hpan c _ _ w h
  try simp only [Act.put, List.setIfInBounds_toArray, List.set_cons_zero, List.set_cons_succ]
  refine take_do 8 (oi := ?_) (v := ?_) ?_ (by rw [hops.out]; kernel_rfl) ?_ ?_ ?_ (by assumption) ?_
  rotate_left 2
  · rw [hops.out]; unfold wOps; simp only [List.getElem?_toArray, List.getElem?_cons_succ, List.getElem?_cons_zero]; rfl
  · rw [hops.out]; kernel_rfl
  · intro W hW; obtain ⟨k1, k2⟩ := hW; go_simp <;> with_reducible rfl
  · exact fun c _ w h => hpan c _ _ w h
  try simp only [Act.put, List.setIfInBounds_toArray, List.set_cons_zero, List.set_cons_succ]
  refine take_do 9 (oi := ?_) (v := ?_) ?_ (by rw [hops.out]; kernel_rfl) ?_ ?_ ?_ (by assumption) ?_
  rotate_left 2
  · rw [hops.out]; unfold wOps; simp only [List.getElem?_toArray, List.getElem?_cons_succ, List.getElem?_cons_zero]; rfl
  · rw [hops.out]; kernel_rfl
  · intro W hW; obtain ⟨k1, k2⟩ := hW; go_simp <;> with_reducible rfl
  · exact fun c _ w h => hpan c _ _ w h
  try simp only [Act.put, List.setIfInBounds_toArray, List.set_cons_zero, List.set_cons_succ]
  refine take_do 10 (oi := ?_) (v := ?_) ?_ (by rw [hops.out]; kernel_rfl) ?_ ?_ ?_ (by assumption) ?_
  rotate_left 2
  · rw [hops.out]; unfold wOps; simp only [List.getElem?_toArray, List.getElem?_cons_succ, List.getElem?_cons_zero]; rfl
  · rw [hops.out]; kernel_rfl
  · intro W hW; obtain ⟨k1, k2⟩ := hW; go_simp <;> with_reducible rfl
  · exact fun c _ w h => hpan c _ _ w h
  try simp only [Act.put, List.setIfInBounds_toArray, List.set_cons_zero, List.set_cons_succ]
  refine take_call 6 (oi := ?_) ?_ (by rw [hops.out]; kernel_rfl) ?_ ?_
  rotate_left 1
  · rw [hops.out]; unfold wOps; simp only [List.getElem?_toArray, List.getElem?_cons_succ, List.getElem?_cons_zero]; rfl
  · rw [hops.out]; kernel_rfl
  intro K hK
  go_simp
  refine hK.out _ _ (hS1 _ (alloc_keeps W0 _)) (fun hS => ?_)
  clear hK K
  try simp only [Act.put, List.setIfInBounds_toArray, List.set_cons_zero, List.set_cons_succ]
  refine take_call 11 (oi := ?_) ?_ (by rw [hops.out]; kernel_rfl) ?_ ?_
  rotate_left 1
  · rw [hops.out]; unfold wOps; simp only [List.getElem?_toArray, List.getElem?_cons_succ, List.getElem?_cons_zero]; rfl
  · rw [hops.out]; kernel_rfl
  intro K hK
  refine wp_append_rowW int_flat1 (by omega) intE_one (by omega) _ _ _ 24 rfl W0.heap.size 3 Tryd.underlying24 (.int .i64 0) rfl Tryd.info3 (.slice (some ⟨W0.heap.size, 0, none⟩) 0 0) [] rfl (own_litI _ _ _ rfl (Nat.le_refl _)) 0 (.slice pv hl.length qv) hl rfl (hRV.alloc _) (by simp; omega) (by simp) ?_
  intro x W2 hox hgrow
  rw [List.nil_append] at hox
  obtain ⟨na, nc, rfl⟩ := owns_lenS hox
  simp only [Value.ownBlock] at hgrow
  have k12 : ∀ k, k < W0.heap.size → W2.heap[k]? = W0.heap[k]? := fun k hk => (hgrow.block k (by simp; omega) (by simp; omega)).trans (alloc_keeps W0 _ k hk)
  have s12 : W0.heap.size < W2.heap.size := by have := hgrow.size; simp at this; omega
  have B2 : Below W0.heap.size W0 W2 := ((Below.refl _ _).alloc (Nat.le_refl _) _).grown hgrow (by simp) (fun k hk => by simp at hk; omega)
  refine hK.out _ _ (hS1 _ k12) (fun hS => ?_)
  clear hK K
  try simp only [Act.put, List.setIfInBounds_toArray, List.set_cons_zero, List.set_cons_succ]
  refine take_do 12 (oi := ?_) (v := ?_) ?_ (by rw [hops.out]; kernel_rfl) ?_ ?_ ?_ (by assumption) ?_
  rotate_left 2
  · rw [hops.out]; unfold wOps; simp only [List.getElem?_toArray, List.getElem?_cons_succ, List.getElem?_cons_zero]; rfl
  · rw [hops.out]; kernel_rfl
  · intro W hW; obtain ⟨k1, k2⟩ := hW; go_simp <;> with_reducible rfl
  · exact fun c _ w h => hpan c _ _ w h
  try simp only [Act.put, List.setIfInBounds_toArray, List.set_cons_zero, List.set_cons_succ]
  refine take_call 13 (oi := ?_) ?_ (by rw [hops.out]; kernel_rfl) ?_ ?_
  rotate_left 1
  · rw [hops.out]; unfold wOps; simp only [List.getElem?_toArray, List.getElem?_cons_succ, List.getElem?_cons_zero]; rfl
  · rw [hops.out]; kernel_rfl
  intro K hK
  go_simp
  refine hK.out _ _ (hS1 _ (fun k hk => (alloc_keeps W2 _ k (by omega)).trans (k12 k hk))) (fun hS => ?_)
  clear hK K
  try simp only [Act.put, List.setIfInBounds_toArray, List.set_cons_zero, List.set_cons_succ]
  refine take_call 14 (oi := ?_) ?_ (by rw [hops.out]; kernel_rfl) ?_ ?_
  rotate_left 1
  · rw [hops.out]; unfold wOps; simp only [List.getElem?_toArray, List.getElem?_cons_succ, List.getElem?_cons_zero]; rfl
  · rw [hops.out]; kernel_rfl
  intro K hK
  have rw3 := owns_below hWO.row (B2.alloc B2.size (.cells #[.int .i64 (v : Int), .int .i64 cv, .slice na hl.length nc] 93)) (Nat.le_refl _)
  refine wp_append_structW encW_len (by omega) (⟨(v : Int), cv, hl⟩, .slice na hl.length nc) (encW_one _ _ _ _) (by omega) _ _ _ 88 rfl lo 93 Tryd.underlying88 (.agg (wayC zeroWD (.slice none 0 0))) rfl Tryd.infoWay (.slice ua qs.length uc) qs rfl rw3 ⟨W2.heap.size, 0, none⟩ 1 rfl (news_struct (cs := encW (⟨(v : Int), cv, hl⟩, .slice na hl.length nc))) (by omega) (by simp; omega) ?_
  intro x W4 l' hl' hox2 hgrow2
  rw [hl'.out] at hox2
  have ow := hWO.push (p := (⟨(v : Int), cv, hl⟩, .slice na hl.length nc)) (B2.alloc B2.size _) hlo ⟨hox.alloc (.cells #[.int .i64 (v : Int), .int .i64 cv, .slice na hl.length nc] 93), fun k hk => by have := (hox.lt k hk).2; simp; omega⟩ (by simpa using hox2) hgrow2
  have k4 : ∀ k, k < W0.heap.size → some k ≠ (Value.slice ua qs.length uc).ownBlock → W4.heap[k]? = W0.heap[k]? := fun k hk hne => (hgrow2.block k (by simp; omega) hne).trans ((alloc_keeps W2 _ k (by omega)).trans (k12 k hk))
  have B4 : Below lo W0 W4 := ((B2.alloc B2.size _).mono hlo).grown hgrow2 (by simp; omega) (fun k hk => (hWO.row.lt k hk).1)
  rw [List.length_append, List.length_singleton] at hox2
  obtain ⟨xa, xc, rfl⟩ := owns_lenS hox2
  refine hK.out _ _ ⟨?_, ?_⟩ (fun hS => ?_)
  · rw [World.cell?_of_block (k4 b (lt_of_heap hb) (own_type_ne2 hWO.row hb (by decide)))]; exact h1
  · rw [World.cell?_of_block (k4 (b + 1) (lt_of_heap hh) (own_type_ne2 hWO.row hh (by decide)))]; exact h2
  clear hK K
  try simp only [Act.put, List.setIfInBounds_toArray, List.set_cons_zero, List.set_cons_succ]
  refine take_do 15 (oi := ?_) (v := ?_) ?_ (by rw [hops.out]; kernel_rfl) ?_ ?_ ?_ (by assumption) ?_
  rotate_left 2
  · rw [hops.out]; unfold wOps; simp only [List.getElem?_toArray, List.getElem?_cons_succ, List.getElem?_cons_zero]; rfl
  · rw [hops.out]; kernel_rfl
  · intro W hW; obtain ⟨k1, k2⟩ := hW; go_simp <;> with_reducible rfl
  · exact fun c _ w h => hpan c _ _ w h
  try simp only [Act.put, List.setIfInBounds_toArray, List.set_cons_zero, List.set_cons_succ]
  refine wpAnyH_done (by rw [hops.out]; kernel_rfl) ?_ _
  exact hend _ xa xc na nc W2.heap.size ow k4 B4
end Go.Proofs.YthmmpmbnpfhloaaDoor
