/-
  impl.packetIn: what a body tells, or that it tells nothing.
  What is printed of a record is read back: the plain mathematics.
-/
import Derived.Test.YtchmmekhfcojgaaGreatDoorPq33
import Derived.Test.YtchmmekhfcojgaaGreatDoorPq10
import Derived.Test.YtchmmekhfcojgaaGreatDoorPq29
namespace Go.Proofs.YtchmmekhfcojgaaGreatDoor
open Go.RowKit

set_option linter.unusedSimpArgs false

def oneO (s : ByteArray) (p : Nat) : Option (Int × Nat) := if (oneR s p false).b then none else some ((oneR s p false).v, (oneR s p false).p)

theorem oneO_le {s : ByteArray} {p q : Nat} {v : Int} (h : oneO s p = some (v, q)) : q ≤ s.size := by
  unfold oneO oneR at h
  by_cases hl : p < s.size
  · simp [hl] at h
    omega
  · simp [hl] at h

theorem heardR_le {s : ByteArray} {p q : Nat} {l : List Int} (hp : p ≤ s.size) (h : heardR s p = some (l, q)) : q ≤ s.size ∧ l.length ≤ s.size := by
  unfold heardR heardB at h
  split at h
  · cases h
  · have := hearA_len (varR_le (b := false) hp) h
    omega

def pinEnd (s : ByteArray) (x : PkD) (l : List RecD × Nat) : Option (PkD × List RecD) := if l.2 = s.size then some (x, l.1) else none

/-- what a body tells -/
def pinR (s : ByteArray) : Option (PkD × List RecD) :=
  (oneO s 0).bind fun a => (oneO s a.2).bind fun b => (oneO s b.2).bind fun c => (oneO s c.2).bind fun d => (heardR s d.2).bind fun h => (recsR s h.2).bind fun l => pinEnd s ⟨a.1, b.1, c.1, d.1, h.1⟩ l

def OneOut (o : Option (Int × Nat)) (s : ByteArray) (z : Nat) (w : World) (e : Ending) (w' : World) : Prop :=
  w.grownBy w' (some z) ∧ ((o = none ∧ e = .panicked fault) ∨ ∃ v q, o = some (v, q) ∧ e = .returned (.int .i64 v) ∧ RdAt w' z 91 s q false)

theorem oneQ_any (z p : Nat) (s : ByteArray) (w : World) (hs : s.size ≤ 1048576) (hp : p ≤ s.size) (h : RdAt w z 91 s p false) :
    Calls Tryz.prog 50 #[.pointer (some ⟨z, 0, none⟩)] w fun e w' => OneOut (oneO s p) s z w e w' := by
  refine (oneP_any z p s w hs hp h).mono ?_
  rintro e w' ⟨hg, hr, hgr⟩
  refine ⟨hgr, ?_⟩
  rcases hg with ⟨h1, rfl⟩ | ⟨h1, rfl⟩
  · refine .inr ⟨_, _, by unfold oneO; rw [h1]; rfl, rfl, ?_⟩
    rwa [h1] at hr
  · exact .inl ⟨by unfold oneO; rw [h1]; rfl, rfl⟩

def zeroPk : PkD := ⟨0, 0, 0, 0, []⟩

def PinOut (o : Option (PkD × List RecD)) (w : World) (e : Ending) (w' : World) : Prop :=
  Below w.heap.size w w' ∧ ((o = none ∧ e = .returned (.tuple #[pkV zeroPk (.slice none 0 0) (.slice none 0 0), .bool false])) ∨ ∃ x v1 v2 ps m, o = some (x, fsts ps) ∧ e = .returned (.tuple #[pkV x v1 v2, .bool true]) ∧ PkOwn w' w.heap.size w'.heap.size v1 v2 x ps m)

theorem results_pin (tmps : Array Value) (W : World) (r r2 : Nat) (c0 c1 c2 c3 c4 c5 : Value) (b : Bool) (h2 : tmps.getD 2 undef = .pointer (some ⟨r, 0, none⟩)) (h3 : tmps.getD 3 undef = .pointer (some ⟨r2, 0, none⟩)) (hr : W.heap[r]? = some (.cells #[c0, c1, c2, c3, c4, c5] 27)) (hr2 : W.heap[r2]? = some (.cells #[.bool b] 4)) :
    (results Tryz.f22 tmps).run Tryz.prog W = .ok (.tuple #[.agg #[c0, c1, c2, c3, c4, c5], .bool b]) W := by
  have h2' : tmps[2]?.getD undef = .pointer (some ⟨r, 0, none⟩) := by simpa using h2
  have h3' : tmps[3]?.getD undef = .pointer (some ⟨r2, 0, none⟩) := by simpa using h3
  have hc := cells_at hr2 0
  simp at hc
  have u0 := cells_at hr 0
  have u1 := cells_at hr 1
  have u2 := cells_at hr 2
  have u3 := cells_at hr 3
  have u4 := cells_at hr 4
  have u5 := cells_at hr 5
  simp at u0 u1 u2 u3 u4 u5
  simp [results, Tryz.results22, h2', h3', go_sem, asAddr, u0, u1, u2, u3, u4, u5, hc]

theorem pin_below {w W : World} {r : Nat} (h : Below w.heap.size w W) (hr : w.heap.size ≤ r) (hrw : w.heap.size + 1 < W.heap.size) (o : Obj) : Below w.heap.size w ((putZ (W.alloc o) r).setCell ⟨w.heap.size + 1, 0, none⟩ (.bool false)) :=
  (((((((h.alloc (by omega) o).setCell (p := ⟨r, 0, none⟩) hr _).setCell (p := ⟨r, 1, none⟩) hr _).setCell (p := ⟨r, 2, none⟩) hr _).setCell (p := ⟨r, 3, none⟩) hr _).setCell (p := ⟨r, 4, none⟩) hr _).setCell (p := ⟨r, 5, none⟩) hr _).setCell (p := ⟨w.heap.size + 1, 0, none⟩) (by show w.heap.size ≤ w.heap.size + 1; omega) _

theorem putZ_heap {W : World} {r : Nat} {c0 c1 c2 c3 c4 c5 : Value} (hr : W.heap[r]? = some (.cells #[c0, c1, c2, c3, c4, c5] 27)) :
    (putZ W r).heap[r]? = some (.cells #[.int .i64 0, .int .i64 0, .int .i64 0, .int .i64 0, .slice none 0 0, .slice none 0 0] 27) := by
  have k1 := heap_setCell_same _ _ 0 _ _ (.int .i64 0) hr
  have k2 := heap_setCell_same _ _ 1 _ _ (.int .i64 0) k1
  have k3 := heap_setCell_same _ _ 2 _ _ (.int .i64 0) k2
  have k4 := heap_setCell_same _ _ 3 _ _ (.int .i64 0) k3
  have k5 := heap_setCell_same _ _ 4 _ _ (.slice none 0 0) k4
  have k6 := heap_setCell_same _ _ 5 _ _ (.slice none 0 0) k5
  simp only [List.setIfInBounds_toArray, List.set_cons_zero, List.set_cons_succ] at k6
  exact k6

theorem putZ_other {W : World} {r k : Nat} (h : k ≠ r) : (putZ W r).heap[k]? = W.heap[k]? := by
  unfold putZ
  rw [heap_setCell_other _ ⟨r, 5, none⟩ _ _ h, heap_setCell_other _ ⟨r, 4, none⟩ _ _ h, heap_setCell_other _ ⟨r, 3, none⟩ _ _ h, heap_setCell_other _ ⟨r, 2, none⟩ _ _ h, heap_setCell_other _ ⟨r, 1, none⟩ _ _ h, heap_setCell_other _ ⟨r, 0, none⟩ _ _ h]

/-- the fault, at the door -/
theorem pin_fault {w W : World} {o : Option (PkD × List RecD)} {c0 c1 c2 c3 c4 c5 c6 : Value} {tmps : Array Value} (hB : Below w.heap.size w W) (hr : W.heap[w.heap.size]? = some (.cells #[c0, c1, c2, c3, c4, c5] 27)) (hr2 : W.heap[w.heap.size + 1]? = some (.cells #[c6] 4))
    (h2 : tmps.getD 2 undef = .pointer (some ⟨w.heap.size, 0, none⟩)) (h3 : tmps.getD 3 undef = .pointer (some ⟨w.heap.size + 1, 0, none⟩)) (ho : o = none) :
    bodyPostD Tryz.prog Tryz.f22 (fun e w' => PinOut o w e w') (Exit.panic fault) { tmps := tmps, defers := [{ target := Target.fn (Fn.func 49) #[.pointer (some ⟨w.heap.size, 0, none⟩), .pointer (some ⟨w.heap.size + 1, 0, none⟩)], args := #[] }] } W := by
  refine leaves_cons (f := 49) (args := #[.pointer (some ⟨w.heap.size, 0, none⟩), .pointer (some ⟨w.heap.size + 1, 0, none⟩)]) (by simp) (by simp [go_sem]) ?_
  refine (catch_fault w.heap.size (w.heap.size + 1) c0 c1 c2 c3 c4 c5 c6 W hr hr2 (by omega)).mono ?_
  rintro e u' w'' ⟨rfl, rfl, rfl⟩
  have hl := lt_of_heap hr2
  have q1 := (Below.heap_alloc W (.cells #[] 86) w.heap.size (lt_of_heap hr)).trans hr
  have q2 := (Below.heap_alloc W (.cells #[] 86) (w.heap.size + 1) hl).trans hr2
  have z1 := putZ_heap q1
  have z2 := (putZ_other (W := W.alloc (.cells #[] 86)) (r := w.heap.size) (k := w.heap.size + 1) (by omega)).trans q2
  have y1 := (heap_setCell_other _ ⟨w.heap.size + 1, 0, none⟩ w.heap.size (.bool false) (by show w.heap.size ≠ w.heap.size + 1; omega)).trans z1
  have y2 := heap_setCell_same _ (w.heap.size + 1) 0 _ _ (.bool false) z2
  simp only [List.setIfInBounds_toArray, List.set_cons_zero] at y2
  exact ⟨_, results_pin tmps _ w.heap.size (w.heap.size + 1) _ _ _ _ _ _ false h2 h3 y1 y2, pin_below hB (Nat.le_refl _) hl _, .inl ⟨ho, rfl⟩⟩

/-- a packet is told, at the door -/
theorem pin_told {w W : World} {R : Ending → World → Prop} {c0 c1 c2 c3 c4 c5 : Value} {b : Bool} {tmps : Array Value} (hr : W.heap[w.heap.size]? = some (.cells #[c0, c1, c2, c3, c4, c5] 27)) (hr2 : W.heap[w.heap.size + 1]? = some (.cells #[.bool b] 4))
    (h2 : tmps.getD 2 undef = .pointer (some ⟨w.heap.size, 0, none⟩)) (h3 : tmps.getD 3 undef = .pointer (some ⟨w.heap.size + 1, 0, none⟩)) (hR : R (.returned (.tuple #[.agg #[c0, c1, c2, c3, c4, c5], .bool b])) (W.alloc (.cells #[] 86))) :
    bodyPostD Tryz.prog Tryz.f22 R Exit.ret { tmps := tmps, defers := [{ target := Target.fn (Fn.func 49) #[.pointer (some ⟨w.heap.size, 0, none⟩), .pointer (some ⟨w.heap.size + 1, 0, none⟩)], args := #[] }] } W := by
  refine leaves_cons (f := 49) (args := #[.pointer (some ⟨w.heap.size, 0, none⟩), .pointer (some ⟨w.heap.size + 1, 0, none⟩)]) (by simp) (by simp [go_sem]) ?_
  refine (catch_idle ⟨w.heap.size, 0, none⟩ ⟨w.heap.size + 1, 0, none⟩ W).mono ?_
  rintro e u' w'' ⟨rfl, rfl, rfl⟩
  exact ⟨_, results_pin tmps _ w.heap.size (w.heap.size + 1) _ _ _ _ _ _ b h2 h3 ((Below.heap_alloc W (.cells #[] 86) w.heap.size (lt_of_heap hr)).trans hr) ((Below.heap_alloc W (.cells #[] 86) (w.heap.size + 1) (lt_of_heap hr2)).trans hr2), hR⟩

/-- packetIn under way -/
structure Pst (w W : World) (s : ByteArray) (q : Nat) (cs : Array Value) : Prop where
  b : Below w.heap.size w W
  pk : W.heap[w.heap.size]? = some (.cells cs 27)
  ok : W.heap[w.heap.size + 1]? = some (.cells #[.bool false] 4)
  rd : RdAt W (w.heap.size + 1 + 1) 91 s q false

theorem Pst.below {w W W' : World} {s : ByteArray} {q : Nat} {cs : Array Value} (h : Pst w W s q cs) (g : W.grownBy W' (some (w.heap.size + 1 + 1))) : Below w.heap.size w W' :=
  h.b.grown g h.b.size (fun k hk => by simp at hk; omega)

theorem Pst.pk2 {w W W' : World} {s : ByteArray} {q : Nat} {cs : Array Value} (h : Pst w W s q cs) (g : W.grownBy W' (some (w.heap.size + 1 + 1))) : W'.heap[w.heap.size]? = some (.cells cs 27) :=
  (g.block _ (lt_of_heap h.pk) (by intro e; injection e with e; omega)).trans h.pk

theorem Pst.ok2 {w W W' : World} {s : ByteArray} {q : Nat} {cs : Array Value} (h : Pst w W s q cs) (g : W.grownBy W' (some (w.heap.size + 1 + 1))) : W'.heap[w.heap.size + 1]? = some (.cells #[.bool false] 4) :=
  (g.block _ (lt_of_heap h.ok) (by intro e; injection e with e; omega)).trans h.ok

theorem Pst.next {w W W' : World} {s : ByteArray} {q q' : Nat} {cs : Array Value} (h : Pst w W s q cs) (g : W.grownBy W' (some (w.heap.size + 1 + 1))) (r : RdAt W' (w.heap.size + 1 + 1) 91 s q' false) : Pst w W' s q' cs :=
  ⟨h.below g, h.pk2 g, h.ok2 g, r⟩

end Go.Proofs.YtchmmekhfcojgaaGreatDoor
namespace Go.Proofs.YtchmmekhfcojgaaGreatDoor
open Go.RowKit

theorem loB_nat5 (n : Nat) (h : n ≤ 127) : (loB n).toNat = n := by have := byte_lo n h; omega

theorem hiB_nat5 (n : Nat) : (hiB n).toNat = n % 128 + 128 := by have := byte_hi n; omega

theorem rdA_var5 (n : Nat) : ∀ (f : Nat) (pre rest : List UInt8), n < 128 ^ (f + 1) → (0 < n ∨ pre = []) → valL pre + pw pre.length * n ≤ 1000000000 →
    rdA (f + 1) pre (varL n ++ rest) = some (valL pre + pw pre.length * n, pre.length + (varL n).length) := by
  induction n using Nat.strongRecOn with
  | _ n ih =>
    intro f pre rest hn hp hv
    by_cases h : 127 < n
    · have hf : ∃ g, f = g + 1 := by
        cases f with
        | zero => simp at hn; omega
        | succ g => exact ⟨g, rfl⟩
      obtain ⟨g, rfl⟩ := hf
      have e1 : valL (pre ++ [hiB n]) = valL pre + n % 128 * pw pre.length := by rw [valL_snoc, hiB_nat5]; congr 2; omega
      have e2 : pw (pre ++ [hiB n]).length = 128 * pw pre.length := by simp [pw, Nat.pow_succ, Nat.mul_comm]
      have e4 : n % 128 * pw pre.length + 128 * pw pre.length * (n / 128) = pw pre.length * n := by
        have h1 : n = 128 * (n / 128) + n % 128 := (Nat.div_add_mod n 128).symm
        have h2 : pw pre.length * n = pw pre.length * (128 * (n / 128) + n % 128) := congrArg _ h1
        rw [h2, Nat.mul_add, Nat.mul_comm (n % 128), ← Nat.mul_assoc, Nat.mul_comm (pw pre.length) 128]
        omega
      have e3 : valL (pre ++ [hiB n]) + pw (pre ++ [hiB n]).length * (n / 128) = valL pre + pw pre.length * n := by rw [e1, e2]; omega
      rw [varL_big h, List.cons_append, rdA_more _ _ _ _ (by rw [hiB_nat5]; omega), ih (n / 128) (by omega) g (pre ++ [hiB n]) rest (by rw [Nat.pow_succ] at hn; omega) (.inl (by omega)) (by rw [e3]; exact hv), e3]
      simp
      omega
    · have e1 : valL (pre ++ [loB n]) = valL pre + pw pre.length * n := by rw [valL_snoc, loB_nat5 n (by omega), Nat.mod_eq_of_lt (by omega), Nat.mul_comm]
      rw [varL_small (by omega), List.cons_append, List.nil_append, rdA_yes f pre (loB n) rest (by rw [loB_nat5 n (by omega)]; omega) (by
        rw [loB_nat5 n (by omega)]
        rintro ⟨h1, h2⟩
        rcases hp with hp | hp
        · omega
        · exact h2 hp) (by rw [e1]; exact hv), e1]
      simp

theorem rdA_var05 (n : Nat) (rest : List UInt8) (h : n ≤ 1000000000) : rdA 5 [] (varL n ++ rest) = some (n, (varL n).length) := by
  have := rdA_var5 n 4 [] rest (by omega) (.inr rfl) (by simp [valL, pw]; exact h)
  simpa [valL, pw] using this

theorem oneR_at {s : ByteArray} {l rest : List UInt8} {b : UInt8} (h : s.data.toList = l ++ b :: rest) : oneR s l.length false = ⟨(b.toNat : Int), l.length + 1, false⟩ := by
  have hsz : s.data.toList.length = s.size := by simp
  have hl : l.length < s.size := by rw [← hsz, h]; simp
  unfold oneR
  rw [if_neg (by simp), dif_pos hl]
  have e : s[l.length] = b := by
    have e1 : s.data.toList[l.length]? = some b := by rw [h]; simp
    have e2 : s.data.toList[l.length]? = some s[l.length] := by
      have hq : l.length < s.data.size := hl
      rw [Array.getElem?_toList, Array.getElem?_eq_getElem hq]
      rfl
    rw [e2] at e1
    exact Option.some.inj e1
  rw [e]

theorem varR_at {s : ByteArray} {l rest : List UInt8} {n : Nat} (h : s.data.toList = l ++ (varL n ++ rest)) (hn : n ≤ 1000000000) : varR s l.length false = ⟨(n : Int), l.length + (varL n).length, false⟩ := by
  have e : rdO s l.length = some (n, (varL n).length) := by
    unfold rdO
    rw [h, List.drop_left]
    exact rdA_var05 n rest hn
  unfold varR
  rw [if_neg (by simp), e]

theorem nearA_at {s : ByteArray} {l rest : List UInt8} {ns : List Nr} (h : s.data.toList = l ++ (nearsL ns ++ rest)) (hb : ∀ n ∈ ns, (1 ≤ n.to ∧ n.to ≤ 6) ∧ (1 ≤ n.c ∧ n.c ≤ 1000)) :
    ∀ k, k ≤ ns.length → nearA s l.length false k = ⟨ns.take k, l.length + (nearsL (ns.take k)).length, false⟩
  | 0, _ => by simp [nearA, nearsL]
  | k + 1, hk => by
    have ih := nearA_at h hb k (by omega)
    obtain ⟨n, hn⟩ : ∃ n, ns[k]? = some n := ⟨ns[k], List.getElem?_eq_getElem (by omega)⟩
    obtain ⟨hk2, en⟩ := List.getElem?_eq_some_iff.1 hn
    have hbn := hb n (List.mem_of_getElem? hn)
    have e2 : nearsL ns = nearsL (ns.take k) ++ (byB n.to :: (varL n.c.toNat ++ nearsL (ns.drop (k + 1)))) := by
      have e3 : ns = ns.take k ++ (n :: ns.drop (k + 1)) := by rw [← en]; simp
      conv => lhs; rw [e3]
      simp [nearsL, nearL]
    have h1 : s.data.toList = (l ++ nearsL (ns.take k)) ++ byB n.to :: (varL n.c.toNat ++ (nearsL (ns.drop (k + 1)) ++ rest)) := by
      rw [h, e2]
      simp
    have o1 := oneR_at h1
    have h2 : s.data.toList = (l ++ nearsL (ns.take k) ++ [byB n.to]) ++ (varL n.c.toNat ++ (nearsL (ns.drop (k + 1)) ++ rest)) := by
      rw [h1]
      simp
    have v1 := varR_at h2 (by omega)
    simp only [List.length_append, List.length_cons, List.length_nil, Nat.zero_add] at o1 v1
    have hto : ((byB n.to).toNat : Int) = n.to := (byB_val n.to (by omega) (by omega)).symm
    have hco : ((n.c.toNat : Nat) : Int) = n.c := by omega
    simp only [nearA, ih, nearStep, Bool.false_eq_true, if_false, o1, v1]
    rw [nearsL_succ hn, hto, hco]
    have et : ns.take (k + 1) = ns.take k ++ [n] := by rw [List.take_succ_eq_append_getElem hk2, en]
    rw [et]
    simp [nearL]
    omega

theorem oneR_to {s : ByteArray} {l rest : List UInt8} {n : Int} (h : s.data.toList = l ++ byB n :: rest) (h0 : 0 ≤ n ∧ n ≤ 255) : oneR s l.length false = ⟨n, (l ++ [byB n]).length, false⟩ := by
  rw [oneR_at h, ← byB_val n h0.1 h0.2]
  simp

theorem varR_to {s : ByteArray} {l rest : List UInt8} {n : Int} (h : s.data.toList = l ++ (varL n.toNat ++ rest)) (h0 : 0 ≤ n ∧ n ≤ 1000000000) : varR s l.length false = ⟨n, (l ++ varL n.toNat).length, false⟩ := by
  rw [varR_at h (by omega), List.length_append]
  congr 1
  omega

theorem read_back {x : RecD} (h : recOkB x = true) : okI (bs (recL x)) = true ∧ readD (bs (recL x)) = x := by
  have B := recOk_bounds h
  have h6 := recOk_six h
  obtain ⟨s, hs⟩ : ∃ s, s = bs (recL x) := ⟨_, rfl⟩
  rw [← hs]
  have hd : s.data.toList = recL x := by rw [hs]; rfl
  have hsz : s.data.toList.length = s.size := by simp
  obtain ⟨fb, hfb, hfv⟩ : ∃ fb : Int, farL x.far = [byB fb] ∧ ((0 ≤ fb ∧ fb ≤ 1) ∧ (fb == 1) = x.far) := by
    cases x.far
    · exact ⟨0, rfl, by decide⟩
    · exact ⟨1, rfl, by decide⟩
  have e0 : s.data.toList = [] ++ byB x.area :: (byB x.kind :: byB x.owner :: byB x.key :: (varL x.seq.toNat ++ (varL x.near.length ++ (nearsL x.near ++ (varL x.cost.toNat ++ [byB fb]))))) := by rw [hd]; simp [recL, headL, hfb]
  have e1 : s.data.toList = ([] ++ [byB x.area]) ++ byB x.kind :: (byB x.owner :: byB x.key :: (varL x.seq.toNat ++ (varL x.near.length ++ (nearsL x.near ++ (varL x.cost.toNat ++ [byB fb]))))) := by rw [e0]; simp
  have e2 : s.data.toList = ([] ++ [byB x.area] ++ [byB x.kind]) ++ byB x.owner :: (byB x.key :: (varL x.seq.toNat ++ (varL x.near.length ++ (nearsL x.near ++ (varL x.cost.toNat ++ [byB fb]))))) := by rw [e0]; simp
  have e3 : s.data.toList = ([] ++ [byB x.area] ++ [byB x.kind] ++ [byB x.owner]) ++ byB x.key :: (varL x.seq.toNat ++ (varL x.near.length ++ (nearsL x.near ++ (varL x.cost.toNat ++ [byB fb])))) := by rw [e0]; simp
  have e4 : s.data.toList = ([] ++ [byB x.area] ++ [byB x.kind] ++ [byB x.owner] ++ [byB x.key]) ++ (varL x.seq.toNat ++ (varL x.near.length ++ (nearsL x.near ++ (varL x.cost.toNat ++ [byB fb])))) := by rw [e0]; simp
  have e5 : s.data.toList = ([] ++ [byB x.area] ++ [byB x.kind] ++ [byB x.owner] ++ [byB x.key] ++ varL x.seq.toNat) ++ (varL (x.near.length : Int).toNat ++ (nearsL x.near ++ (varL x.cost.toNat ++ [byB fb]))) := by rw [e0]; simp
  have e6 : s.data.toList = ([] ++ [byB x.area] ++ [byB x.kind] ++ [byB x.owner] ++ [byB x.key] ++ varL x.seq.toNat ++ varL (x.near.length : Int).toNat) ++ (nearsL x.near ++ (varL x.cost.toNat ++ [byB fb])) := by rw [e0]; simp
  have e7 : s.data.toList = ([] ++ [byB x.area] ++ [byB x.kind] ++ [byB x.owner] ++ [byB x.key] ++ varL x.seq.toNat ++ varL (x.near.length : Int).toNat ++ nearsL x.near) ++ (varL x.cost.toNat ++ [byB fb]) := by rw [e0]; simp
  have e8 : s.data.toList = ([] ++ [byB x.area] ++ [byB x.kind] ++ [byB x.owner] ++ [byB x.key] ++ varL x.seq.toNat ++ varL (x.near.length : Int).toNat ++ nearsL x.near ++ varL x.cost.toNat) ++ byB fb :: [] := by rw [e0]; simp
  have q0 := oneR_to e0 ⟨B.area.1, by have := B.area.2; omega⟩
  have q1 := oneR_to e1 ⟨by have := B.kind.1; omega, by have := B.kind.2; omega⟩
  have q2 := oneR_to e2 ⟨by have := B.owner.1; omega, by have := B.owner.2; omega⟩
  have q3 := oneR_to e3 ⟨B.key.1, by have := B.key.2; omega⟩
  have q4 := varR_to e4 ⟨by have := B.seq.1; omega, by have := B.seq.2; omega⟩
  have q5 := varR_to e5 ⟨by omega, by omega⟩
  have q6 := nearA_at e6 B.near x.near.length (Nat.le_refl _)
  have q7 := varR_to e7 ⟨B.cost.1, by have := B.cost.2; omega⟩
  have q8 := oneR_to e8 ⟨hfv.1.1, by have := hfv.1.2; omega⟩
  rw [List.take_length, ← List.length_append] at q6
  have k0 : r0 s = _ := q0
  have t1 : r1 s = oneR s (r0 s).p (r0 s).b := rfl
  rw [k0] at t1
  have k1 := t1.trans q1
  have t2 : r2 s = oneR s (r1 s).p (r1 s).b := rfl
  rw [k1] at t2
  have k2 := t2.trans q2
  have t3 : r3 s = oneR s (r2 s).p (r2 s).b := rfl
  rw [k2] at t3
  have k3 := t3.trans q3
  have t4 : r4 s = varR s (r3 s).p (r3 s).b := rfl
  rw [k3] at t4
  have k4 := t4.trans q4
  have t5 : r5 s = varR s (r4 s).p (r4 s).b := rfl
  rw [k4] at t5
  have k5 := t5.trans q5
  have kc : cntI s = x.near.length := by unfold cntI; rw [k5]; simp
  have t6 : r6 s x.near.length = nearA s (r5 s).p (r5 s).b x.near.length := rfl
  rw [k5] at t6
  have k6 := t6.trans q6
  have t7 : r7 s x.near.length = varR s (r6 s x.near.length).p (r6 s x.near.length).b := rfl
  rw [k6] at t7
  have k7 := t7.trans q7
  have t8 : r8 s x.near.length = oneR s (r7 s x.near.length).p (r7 s x.near.length).b := rfl
  rw [k7] at t8
  have k8 := t8.trans q8
  have hp : recP s x.near.length = x := by
    unfold recP
    rw [k0, k1, k2, k3, k4, k6, k7, k8]
    simp only []
    rw [hfv.2]
  have hok : okI s = true := by
    unfold okI
    rw [kc, hp, h, k8]
    have : s.size = (([] ++ [byB x.area] ++ [byB x.kind] ++ [byB x.owner] ++ [byB x.key] ++ varL x.seq.toNat ++ varL (x.near.length : Int).toNat ++ nearsL x.near ++ varL x.cost.toNat) ++ [byB fb]).length := by rw [← hsz, e8]
    simp only [this, Nat.lt_irrefl, decide_false, Bool.false_or, Bool.not_false, Bool.and_true]
    have := hfv.1.2
    simp
    omega
  refine ⟨hok, ?_⟩
  unfold readD
  rw [hok, if_pos rfl, kc, hp]

theorem text_back {s : ByteArray} (h : okI s = true) : recOkB (readD s) = true ∧ bs (recL (readD s)) = s := by
  have hr : readD s = recP s (cntI s) := by unfold readD; rw [h, if_pos rfl]
  rw [hr]
  unfold okI at h
  simp only [Bool.and_eq_true, Bool.not_eq_true', Bool.or_eq_false_iff, decide_eq_false_iff_not] at h
  obtain ⟨⟨⟨h1, h2⟩, h3⟩, h4⟩ := h
  refine ⟨h4, ?_⟩
  have := (text_iff h1 rfl).2 ⟨h2, h3⟩
  apply ByteArray.ext
  apply Array.ext'
  exact this
end Go.Proofs.YtchmmekhfcojgaaGreatDoor
