/-
  spec.LinkOk, l03Ahead, l03Thing, NetOk: their contracts.
  What slices.Insert needs at any rows.
  laws.markLinkS, markThingS, markNet: only the rows' own memory turns.
  impl.linesOf: its contract.
  The table strings.asciiSpace: where it lies, and that it stays.
-/
import Derived.Test.YtpiookjdeopmgaaDoorRd9
import Derived.Shelf.Spec.SlicesInsertGrow
import Derived.Maps.RangeWalk
namespace Go.Proofs.YtpiookjdeopmgaaDoor
open Go.RowKit

def linkOkB (n : Int) (l : Lk) : Bool := inB n 1 6 && inB l.a 1 n && inB l.b 1 n && decide (l.a < l.b) && inB l.c 1 1000 && inB l.r 0 2

def aheadB (a b : Lk) : Bool := decide (a.a < b.a) || (a.a == b.a && (decide (a.b < b.b) || (a.b == b.b && decide (a.r < b.r))))

def thingB (a b : Th) : Bool := decide (a.k < b.k) || (a.k == b.k && decide (a.o < b.o))

set_option maxRecDepth 100000 in
set_option maxHeartbeats 2000000 in
theorem slinkOk_any (n : Int) (l : Lk) (w : World) : Calls Tryd.prog 69 #[.int .i64 n, lkV l] w fun e w' => e = .returned (.bool (linkOkB n l)) ∧ Below w.heap.size w w' := by
  obtain ⟨a, b, c, r⟩ := l
  unfold lkV linkOkB
  simp only []
  generalize hq1 : inB n 1 6 = q1
  generalize hq2 : inB a 1 n = q2
  generalize hq3 : inB b 1 n = q3
  generalize hq4 : inB c 1 1000 = q4
  generalize hq5 : inB r 0 2 = q5
  have h1 := in_any n 1 6
  have h2 := in_any a 1 n
  have h3 := in_any b 1 n
  have h4 := in_any c 1 1000
  have h5 := in_any r 0 2
  rw [hq1] at h1
  rw [hq2] at h2
  rw [hq3] at h3
  rw [hq4] at h4
  rw [hq5] at h5
  have H1 := hide h1
  have H2 := hide h2
  have H3 := hide h3
  have H4 := hide h4
  have H5 := hide h5
  clear h1 h2 h3 h4 h5 hq1 hq2 hq3 hq4 hq5
  cases q1
  · go_enter Tryd.func69, Tryd.ntmps69
    go_wp2_with fail
    refine (H1.out _).mono ?_
    rintro e w1 ⟨rfl, rfl⟩
    go_wp2
    go_ret
    exact ⟨by simp, (Below.refl _ _).alloc (Nat.le_refl _) _⟩
  cases q2
  · go_enter Tryd.func69, Tryd.ntmps69
    go_wp2_with fail
    refine (H1.out _).mono ?_
    rintro e w1 ⟨rfl, rfl⟩
    go_wp2_with fail
    refine (H2.out _).mono ?_
    rintro e w1 ⟨rfl, rfl⟩
    go_wp2
    go_ret
    exact ⟨by simp, (Below.refl _ _).alloc (Nat.le_refl _) _⟩
  cases q3
  · go_enter Tryd.func69, Tryd.ntmps69
    go_wp2_with fail
    refine (H1.out _).mono ?_
    rintro e w1 ⟨rfl, rfl⟩
    go_wp2_with fail
    refine (H2.out _).mono ?_
    rintro e w1 ⟨rfl, rfl⟩
    go_wp2_with fail
    refine (H3.out _).mono ?_
    rintro e w1 ⟨rfl, rfl⟩
    go_wp2
    go_ret
    exact ⟨by simp, (Below.refl _ _).alloc (Nat.le_refl _) _⟩
  by_cases hab : a < b
  · cases q4
    · go_enter Tryd.func69, Tryd.ntmps69
      go_wp2_with fail
      refine (H1.out _).mono ?_
      rintro e w1 ⟨rfl, rfl⟩
      go_wp2_with fail
      refine (H2.out _).mono ?_
      rintro e w1 ⟨rfl, rfl⟩
      go_wp2_with fail
      refine (H3.out _).mono ?_
      rintro e w1 ⟨rfl, rfl⟩
      go_wp2_with fail
      refine (H4.out _).mono ?_
      rintro e w1 ⟨rfl, rfl⟩
      go_wp2
      go_ret
      exact ⟨by simp, (Below.refl _ _).alloc (Nat.le_refl _) _⟩
    · go_enter Tryd.func69, Tryd.ntmps69
      go_wp2_with fail
      refine (H1.out _).mono ?_
      rintro e w1 ⟨rfl, rfl⟩
      go_wp2_with fail
      refine (H2.out _).mono ?_
      rintro e w1 ⟨rfl, rfl⟩
      go_wp2_with fail
      refine (H3.out _).mono ?_
      rintro e w1 ⟨rfl, rfl⟩
      go_wp2_with fail
      refine (H4.out _).mono ?_
      rintro e w1 ⟨rfl, rfl⟩
      go_wp2_with fail
      refine (H5.out _).mono ?_
      rintro e w1 ⟨rfl, rfl⟩
      go_wp2
      go_ret
      exact ⟨ret_bool (by rw [decide_eq_true hab]; simp), (Below.refl _ _).alloc (Nat.le_refl _) _⟩
  · go_enter Tryd.func69, Tryd.ntmps69
    go_wp2_with fail
    refine (H1.out _).mono ?_
    rintro e w1 ⟨rfl, rfl⟩
    go_wp2_with fail
    refine (H2.out _).mono ?_
    rintro e w1 ⟨rfl, rfl⟩
    go_wp2_with fail
    refine (H3.out _).mono ?_
    rintro e w1 ⟨rfl, rfl⟩
    go_wp2
    go_ret
    exact ⟨ret_bool (by rw [decide_eq_false (show ¬ a < b by omega)]; simp), (Below.refl _ _).alloc (Nat.le_refl _) _⟩

set_option maxRecDepth 100000 in
set_option maxHeartbeats 2000000 in
theorem sahead_any (l m : Lk) (w : World) : Calls Tryd.prog 67 #[lkV l, lkV m] w fun e w' => e = .returned (.bool (aheadB l m)) ∧ Below w.heap.size w w' := by
  obtain ⟨a, b, c, r⟩ := l
  obtain ⟨a', b', c', r'⟩ := m
  unfold lkV
  go_enter Tryd.func67, Tryd.ntmps67
  go_wp2
  all_goals go_ret
  all_goals refine ⟨ret_bool ?_, below_two _ _⟩
  all_goals (simp only [aheadB]; grind)

set_option maxRecDepth 100000 in
set_option maxHeartbeats 2000000 in
theorem sthing_any (l m : Th) (w : World) : Calls Tryd.prog 68 #[thV l, thV m] w fun e w' => e = .returned (.bool (thingB l m)) ∧ Below w.heap.size w w' := by
  obtain ⟨a, b, c, r⟩ := l
  obtain ⟨a', b', c', r'⟩ := m
  unfold thV
  go_enter Tryd.func68, Tryd.ntmps68
  go_wp2
  all_goals go_ret
  all_goals refine ⟨ret_bool ?_, below_two _ _⟩
  all_goals (simp only [thingB]; grind)
end Go.Proofs.YtpiookjdeopmgaaDoor
namespace Go.Proofs.YtpiookjdeopmgaaDoor
open Go.RowKit

theorem run_copy_rowS {P : Program} (w : World) (dT sT ty elem : TypeId) (g o dLen dCap : Nat) (a : Addr) (sLen sCap sz : Nat) (cur : Array Value) (t : TypeId) (cs : List Value)
    (hu : P.underlying dT = some (.slice elem)) (hs : (P.info? elem).map (·.size) = some sz)
    (hg : w.heap[g]? = some (.cells cur t (0, 0))) (hn : cs.length = Nat.min sLen dLen * sz)
    (hsrc : ∀ j v, cs[j]? = some v → w.cell? (a.add j) = some v) (hfit : o + cs.length ≤ cur.size) (h1 : ∀ v ∈ cs, v.oneCell' = true) :
    (Builtin.copy_ #[dT, sT] ty #[.slice (some ⟨g, o, none⟩) dLen dCap, .slice (some a) sLen sCap]).run P w =
      .ok (goInt (Nat.min sLen dLen)) (w.setRow g (cur.toList.take o ++ cs ++ cur.toList.drop (o + cs.length)).toArray) := by
  have hl := run_loadCells_list (P := P) w a cs hsrc
  have hst := run_storeCells_at P g o t cs 0 cur w hg (by simpa using hfit) h1
  cases hq : P.info? elem with
  | none => simp [hq] at hs
  | some i =>
    have hi : i.size = sz := by simpa [hq] using hs
    simp [Builtin.copy_, run_underlying hu, Builtin.lenOf, Builtin.firstCells, sizeOf, typeInfo, hq, hi, ← hn, hl, hst]

theorem append_types {P : Program} (w : World) (t t2 ty e : TypeId) (i : TypeInfo) (ht : P.underlying t = some (.slice e)) (ht2 : P.underlying t2 = some (.slice e)) (hi : P.info? e = some i) (b : Option Addr) (n c : Nat) (x : Value) :
    (Builtin.append_ #[t, t2] ty #[.slice b n c, x]).run P w = (Builtin.append_ #[t, t] ty #[.slice b n c, x]).run P w := by
  simp [Builtin.append_, run_underlying ht, run_underlying ht2, sizeOf, typeInfo, hi]

theorem take_of_parts {A B C D : List Value} {n : Nat} (h : A.length + B.length + C.length = n) : (A ++ B ++ C ++ D).take n = A ++ B ++ C := by
  rw [List.take_append_of_le_length (by simp; omega), List.take_of_length_le (by simp; omega)]

theorem add8 (g o j : Nat) : (⟨g, o, none⟩ : Addr).add j = ⟨g, o + j, none⟩ := by
  simp only [Addr.add]
  split <;> simp_all

end Go.Proofs.YtpiookjdeopmgaaDoor
namespace Go.Proofs.YtpiookjdeopmgaaDoor
open Go.RowKit

theorem owns_shapeS {w : World} {base size : Nat} {e : TypeId} {v : Value} {n : Nat} {xs : List Value} (h : w.ownsRow base e size v n xs) (hn : 0 < n) :
    ∃ g cap, v = .slice (some ⟨g, 0, none⟩) n cap ∧ base ≤ g ∧ g < w.heap.size := by
  rcases h.2 with ⟨_, h0⟩ | ⟨g, cap, cur, hv, hb, hg, _⟩
  · omega
  · exact ⟨g, cap, hv, hb, lt_of_heap hg⟩

theorem own_cell {w : World} {base size g cap : Nat} {e : TypeId} {n : Nat} {xs : List Value} (h : w.ownsRow base e size (.slice (some ⟨g, 0, none⟩) n cap) n xs) (j : Nat) (hj : j < n * size) : ∃ u, w.cell? ⟨g, j, none⟩ = some u := by
  rw [h.cellAt j hj]
  have hl : j < xs.length := by rw [h.1]; exact hj
  exact ⟨_, List.getElem?_eq_getElem hl⟩

theorem grown_refl (w : World) (r : Option Nat) : w.grownBy w r := ⟨rfl, rfl, rfl, Nat.le_refl _, fun _ _ _ => rfl⟩

/-- rows of two types lie in two blocks -/
theorem owns_two {w w' : World} {b1 b2 s1 s2 n m : Nat} {e1 e2 : TypeId} {v1 v2 : Value} {xs ys : List Value} (h1 : w.ownsRow b1 e1 s1 v1 n xs) (h2 : w.ownsRow b2 e2 s2 v2 m ys) (he : e1 ≠ e2) (hg : w.grownBy w' v1.ownBlock) : w'.ownsRow b2 e2 s2 v2 m ys := by
  refine ⟨h2.1, ?_⟩
  rcases h2.2 with h | ⟨g, cap, cur, hv, hgb, hh, r⟩
  · exact .inl h
  · refine .inr ⟨g, cap, cur, hv, hgb, ?_, r⟩
    rw [hg.block g (lt_of_heap hh) ?_]
    · exact hh
    · intro e
      rcases h1.2 with ⟨h, _⟩ | ⟨g', cap', cur', hv', _, hh', _⟩
      · rw [h] at e; simp [Value.ownBlock] at e
      · rw [hv'] at e
        simp [Value.ownBlock] at e
        subst e
        rw [hh] at hh'
        simp at hh'
        exact he hh'.2.symm

theorem below_own {B base s n : Nat} {w0 w w' : World} {e : TypeId} {v : Value} {xs : List Value} (hb : Below B w0 w) (h : w.ownsRow base e s v n xs) (hB : B ≤ base) (hw : B ≤ w.heap.size) (hg : w.grownBy w' v.ownBlock) : Below B w0 w' :=
  hb.grown hg hw (fun k hk => by
    rcases h.2 with ⟨h, _⟩ | ⟨g', cap', cur', hv', hb', _⟩
    · rw [h] at hk; simp [Value.ownBlock] at hk
    · rw [hv'] at hk
      simp [Value.ownBlock] at hk
      omega)

end Go.Proofs.YtpiookjdeopmgaaDoor
namespace Go.Proofs.YtpiookjdeopmgaaDoor
open Go.RowKit
set_option linter.unusedSimpArgs false

section
variable {P : Program} (w : World) {ops : Array Oper} {rest : List Oper} {o : Oper} {a : Act} {Q : Exit → Act → World → Prop}
theorem wpList_range_str (hg : o.guard = none) (m : Operand) (t : TypeId) (hop : o.op = Op.range t m) (hu : P.underlying t = some .string) (s : ByteArray) (hm : a.eval m = .string s)
    (h : ∀ w', w'.heap[w.heap.size]? = some (.stringIter s 0) → w.grownBy w' none → w'.heap.size = w.heap.size + 1 → wpList P ops Q rest (a.put o.dst (.pointer (some ⟨w.heap.size, 0, none⟩))) w') : wpList P ops Q (o :: rest) a w := by
  refine wpList_plain hg fun K' hK' => ?_
  unfold Oper.wp
  simp [execOp, hop, hm, run_range_string w t s hu, Result.andThen]
  exact hK' _ _ (h _ (World.iter_heap w s 0) ⟨rfl, rfl, rfl, by simp [World.iter], fun k hk _ => ((Below.refl w.heap.size w).alloc (Nat.le_refl _) (.stringIter s 0)).block k hk⟩ (by simp [World.iter]))

/-- the step, wherever the iterator lies -/
theorem wpList_next_str (hg : o.guard = none) (it : Operand) (hop : o.op = Op.next it true) (r : Nat) (s : ByteArray) (pos : Nat) (hit : a.eval it = .pointer (some ⟨r, 0, none⟩)) (hr : w.heap[r]? = some (.stringIter s pos))
    (hEnd : ¬ pos < s.size → wpList P ops Q rest (a.put o.dst (.tuple #[.bool false])) w)
    (hMore : ∀ w', pos < s.size → w'.heap[r]? = some (.stringIter s (pos + (Utf8.decode s pos).2)) → w.grownBy w' (some r) → w'.heap.size = w.heap.size →
      wpList P ops Q rest (a.put o.dst (.tuple #[.bool true, .int .i64 pos, .int .i32 (Utf8.decode s pos).1])) w') : wpList P ops Q (o :: rest) a w := by
  refine wpList_plain hg fun K' hK' => ?_
  unfold Oper.wp
  by_cases hlt : pos < s.size
  · have hrun : (Instr.next (.pointer (some ⟨r, 0, none⟩)) true o.type).run P w =
        .ok (.tuple #[.bool true, .int .i64 pos, .int .i32 (Utf8.decode s pos).1]) { w with heap := w.heap.setIfInBounds r (.stringIter s (pos + (Utf8.decode s pos).2)) } := by
      simp [Instr.next, getObj, setObj, Sem.run, hr, Result.andThen, hlt, goInt]
    simp [execOp, hop, hit, hrun, Result.andThen]
    have hrl := (Array.getElem?_eq_some_iff.1 hr).1
    refine hK' _ _ (hMore _ hlt (by simp [Array.getElem?_setIfInBounds, hrl]) ⟨rfl, rfl, rfl, by simp, fun k hk hne => ?_⟩ (by simp))
    have : r ≠ k := fun h => hne (by rw [h])
    simp [Array.getElem?_setIfInBounds, this]
  · have hrun : (Instr.next (.pointer (some ⟨r, 0, none⟩)) true o.type).run P w = .ok (.tuple #[.bool false]) w := by
      simp [Instr.next, getObj, Sem.run, hr, hlt]
    simp [execOp, hop, hit, hrun, Result.andThen]
    exact hK' _ _ (hEnd hlt)
end

theorem decode_end (s : ByteArray) (pos : Nat) (h : pos < s.size) : (Utf8.decode s pos).1 = 10 ↔ s[pos].toNat = 10 := by
  rcases Nat.lt_or_ge s[pos].toNat 128 with h1 | h1
  · rw [decode_ascii s pos h h1]
  · have := decode_high s pos h h1
    omega
theorem decode_ten (s : ByteArray) (pos : Nat) (h : pos < s.size) (h1 : s[pos].toNat = 10) : (Utf8.decode s pos).2 = 1 := by
  rw [decode_ascii s pos h (by omega)]

theorem owns_low {w : World} {base b2 : Nat} {e : TypeId} {size : Nat} {v : Value} {n : Nat} {xs : List Value} (h : w.ownsRow base e size v n xs) (hb : b2 ≤ base) : w.ownsRow b2 e size v n xs := by
  refine ⟨h.1, ?_⟩
  rcases h.2 with h2 | ⟨g, cap, cur, hv, hg, r⟩
  · exact .inl h2
  · exact .inr ⟨g, cap, cur, hv, by omega, r⟩
theorem iter_kept {w w' : World} {o : Obj} {r : Nat} {s : ByteArray} {p : Nat} {v : Value} {e : TypeId} {n : Nat} {xs : List Value} (h : w.heap[r]? = some (.stringIter s p)) (hown : w.ownsRow (r + 1) e 1 v n xs) (hg : (w.alloc o).grownBy w' v.ownBlock) : w'.heap[r]? = some (.stringIter s p) := by
  have hl := (Array.getElem?_eq_some_iff.1 h).1
  rw [hg.block r (by simp; omega) ?_]
  · rw [((Below.refl w.heap.size w).alloc (Nat.le_refl _) o).block r hl, h]
  · intro he
    have := hown.lt r he.symm
    omega

theorem owns_ne {w : World} {r : Nat} {v : Value} {e : TypeId} {size n : Nat} {xs : List Value} (h : w.ownsRow (r + 1) e size v n xs) : v.ownBlock = none ∨ v.ownBlock ≠ some r := by
  rcases hv : v.ownBlock with _ | z
  · exact .inl rfl
  · refine .inr (fun he => ?_)
    have := h.lt z hv
    cases he
    omega

set_option maxRecDepth 100000 in
set_option maxHeartbeats 2000000 in
theorem ilines_any (s : ByteArray) (w : World) (hs : s.size ≤ 1048576) :
    Calls Tryd.prog 58 #[.string s] w fun e w' => ∃ v, e = .returned v ∧ w'.ownsRow w.heap.size 9 1 v (lnsOf s.data.toList).length (strs (lnsOf s.data.toList)) ∧ Below w.heap.size w w' := by
  obtain ⟨L, hL⟩ : ∃ L, L = lnsOf s.data.toList := ⟨_, rfl⟩
  rw [← hL]
  have GL : Hid (L = lnsOf s.data.toList) := hL
  clear hL
  go_enter Tryd.func58, Tryd.ntmps58
  go_wp2_with (first | (at_range; refine wpList_range_str _ rfl _ _ rfl Tryd.underlying9 s rfl ?_))
  intro w0 hr0 hg0 hs0
  have h00 : Below w.heap.size w w0 := (Below.refl _ _).grown hg0 (Nat.le_refl _) (fun _ h => by cases h)
  go_wp2
  go_loopw [3, 4, 5, 6] (fun v bb _ _ wr => ∃ (k b : Nat) (done : List (List UInt8)), k ≤ s.size ∧ b ≤ k ∧ done.length ≤ k ∧ bb = .int .i64 b ∧ Hid (Lt s b k done) ∧ wr.ownsRow (w.heap.size + 1) 9 1 v done.length (strs done) ∧ wr.heap[w.heap.size]? = some (.stringIter s k) ∧ Below w.heap.size w wr)
    (fun _ _ _ _ wr => s.size - wr.iterPos w.heap.size)
  case atStart =>
    exact ⟨0, 0, [], by omega, by omega, by simp, rfl, Lt.first s, World.ownsRow_nil _ _ _ _, hr0, h00⟩
  case round =>
    obtain ⟨k, b, done, hk, hbk, hdl, rfl, hp, hown, hit, hnx⟩ := hrel
    have hsz := hnx.size
    have hit' := hide hit
    by_cases hlt : k < s.size
    · obtain ⟨c, hc⟩ : ∃ c : Nat, c = (Utf8.decode s k).1 := ⟨_, rfl⟩
      obtain ⟨d, hd⟩ : ∃ d : Nat, d = (Utf8.decode s k).2 := ⟨_, rfl⟩
      have hd1 := decode_wide s k hlt
      have hce := decode_end s k hlt
      have hc9 := decode_le s k
      have hdt := decode_ten s k hlt
      rw [← hd] at hd1
      rw [← hc] at hce hc9
      rw [← hd] at hdt
      have D := hide hd
      have HD1 := hide hd1.2.2
      obtain ⟨hd2, hd3, -⟩ := hd1
      by_cases h10 : c = 10
      · have hp' := hide (hp.out.line hlt (hce.1 h10))
        have hd4 := hdt (hce.1 h10)
        have hne : ((c : Int) == 10) = true := by simp; omega
        have hc1 : 10 ≤ c := by omega
        have hc2 : c ≤ 10 := by omega
        obtain ⟨t, ht⟩ : ∃ t : ByteArray, t = s.extract b k := ⟨_, rfl⟩
        have hsl := sl_str Tryd.underlying9 s t (b : Int) (k : Int) (by omega) (by omega) (by omega) (by rw [ht]; rfl)
        have TT := hide ht
        clear ht h10 hce hdt
        go_wp2_with (first
          | (at_next; refine wpList_next_str _ rfl _ rfl w.heap.size s k rfl hit'.out (fun h => absurd hlt h) ?_))
        intro w1 hit1 hg1 hs1
        rw [← hc]
        rw [← hd, hd4] at hit1
        have hown1 := hown.kept hg1 (owns_ne hown)
        have hnx1 : Below w.heap.size w w1 := hnx.grown hg1 hsz (fun j hj => by cases hj; omega)
        have hs2 : w.heap.size + 1 ≤ w1.heap.size := (Array.getElem?_eq_some_iff.1 hit1).1
        clear hc hd hown hnx hg1 hit hs1
        go_wp2_with (first
          | (at_builtin; refine wpList_append_str _ rfl _ _ rfl (w.heap.size + 1) u3 done ((s.data.toList.drop b).take (k - b)) rfl (hown1.alloc _) ⟨w1.heap.size, 0, none⟩ rfl (news_str t _ _ (by rw [TT.out, extract_bs])) (by omega) (by simp; omega) ?_))
        intro v' w2 xs' hx' hown' hgrow
        have hit2 := iter_kept hit1 hown1 hgrow
        have hb1 := below_append _ hnx1 hown1 (by omega) hnx1.size hgrow
        clear hgrow hnx1 hown1 hit1
        go_wp2
        go_roundw
        case rel => exact ⟨k + 1, k + 1, xs', by omega, by omega, by rw [hx'.out]; simp; omega, by go_num, by rw [hx'.out]; exact hp'.out, hown', hit2, hb1⟩
        case measure => simp [World.iterPos, hit2, hit'.out]; omega
      · have hp' := hide (hp.out.sign hlt (fun h => h10 (hce.2 h)))
        have hne : ((c : Int) == 10) = false := by simp; omega
        rw [← hd] at hp'
        clear hce hdt
        go_wp2_with (first
          | (at_next; refine wpList_next_str _ rfl _ rfl w.heap.size s k rfl hit'.out (fun h => absurd hlt h) ?_))
        intro w1 hit1 hg1 hs1
        rw [← hc]
        rw [← hd] at hit1
        have hown1 := hown.kept hg1 (owns_ne hown)
        have hnx1 : Below w.heap.size w w1 := hnx.grown hg1 hsz (fun j hj => by cases hj; omega)
        clear hc hd hown hnx hg1 hit hs1
        go_wp2
        go_roundw
        case rel => exact ⟨k + d, b, done, by omega, by omega, by omega, rfl, hp', hown1, hit1, hnx1⟩
        case measure => simp [World.iterPos, hit1, hit'.out]; omega
    · have hs2 : w.heap.size + 1 ≤ wr.heap.size := (Array.getElem?_eq_some_iff.1 hit).1
      by_cases hb : b < s.size
      · have he := hide (hp.out.last hlt hb)
        obtain ⟨t, ht⟩ : ∃ t : ByteArray, t = s.extract b s.size := ⟨_, rfl⟩
        have hsl := sl_str_from Tryd.underlying9 s t (b : Int) (by omega) (by omega) (by rw [ht]; rfl)
        have TT := hide ht
        clear ht
        go_wp2_with (first
          | (at_next; refine wpList_next_str _ rfl _ rfl w.heap.size s k rfl hit'.out ?_ (fun _ h => absurd h hlt))
          | (at_builtin; refine wpList_append_str _ rfl _ _ rfl (w.heap.size + 1) u3 done (s.data.toList.drop b) rfl (hown.alloc _) ⟨wr.heap.size, 0, none⟩ rfl (news_str t _ _ (by rw [TT.out, extract_to_end s b])) (by omega) (by simp; omega) ?_))
        intro v' w1 xs' hx' hown' hgrow
        have hb1 := below_append _ hnx hown (by omega) hsz hgrow
        have E := hide (show xs' = L by rw [hx'.out, GL.out, he.out])
        clear hgrow hnx hown
        go_wp2
        go_ret
        exact ⟨_, rfl, by rw [← E.out]; exact owns_low hown' (by omega), hb1⟩
      · have E := hide (show done = L by rw [GL.out, hp.out.none hlt hb])
        go_wp2_with (first
          | (at_next; refine wpList_next_str _ rfl _ rfl w.heap.size s k rfl hit'.out ?_ (fun _ h => absurd h hlt)))
        go_ret
        exact ⟨_, rfl, by rw [← E.out]; exact owns_low hown (by omega), hnx⟩
end Go.Proofs.YtpiookjdeopmgaaDoor
namespace Go.Proofs.YtpiookjdeopmgaaDoor
open Go.RowKit

theorem gSpace : Tryd.prog.globalNamed "strings.asciiSpace" = some 0 := by kernel_rfl

theorem globS_lt {W : World} {n : String} {g : Nat} {k : IntKind} {zs : List Int} (hg : Tryd.prog.globalNamed n = some g) (h : Lib.TabIs Tryd.prog W n k zs) : g < W.heap.size := by
  unfold Lib.TabIs World.var? at h
  simp only [hg, Option.bind_some] at h
  rcases Nat.lt_or_ge g W.heap.size with hlt | hge
  · exact hlt
  · rw [Array.getElem?_eq_none hge] at h
    simp at h

theorem tab_thenB {w w' : World} (h : Lib.TabIs Tryd.prog w "strings.asciiSpace" .u8 Lib.asciiSpaceTab) (hb : Below w.heap.size w w') : Lib.TabIs Tryd.prog w' "strings.asciiSpace" .u8 Lib.asciiSpaceTab :=
  var?_below hb gSpace (globS_lt gSpace h) h
end Go.Proofs.YtpiookjdeopmgaaDoor
