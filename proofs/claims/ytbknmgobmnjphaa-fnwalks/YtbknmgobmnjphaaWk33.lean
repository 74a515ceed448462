/-
  spec.DrawRightNet: some right net.
  spec.DrawPlaces: some twelve numbers (DrawSum's, over the draws of nets and records).
  laws.sameInts: its contract; the hops of two ways are the same in either order.
  What the laws of routes want.
  How much the routes of a right store are.
  How much a table is.
  spec.AreasOf, spec.Border: their contracts.
-/
import Derived.Test.YtbknmgobmnjphaaWk32
import Derived.Maps.AppendAt
import Derived.Test.YtbknmgobmnjphaaWk9
import Derived.Test.YtbknmgobmnjphaaWk30
import Derived.Test.YtbknmgobmnjphaaWk3
import Derived.Test.YtbknmgobmnjphaaWk7
import Derived.Test.YtbknmgobmnjphaaWk1
import Derived.Test.YtbknmgobmnjphaaWk24
import Derived.Test.YtbknmgobmnjphaaWk25
import Derived.Test.YtbknmgobmnjphaaWk28
namespace Go.Proofs.Ytbknmgobmnjphaa
open Go.RowKit

theorem Try.infoB : (Try.prog.info? 4).map (fun i => (i.zero, i.size, i.bytes)) = some (some (.bool false), 1, 1) := by kernel_rfl

/-- what an append to a row above p leaves of the cursor -/
theorem Cur.appended {w w' : World} {p : Nat} {a : Option Addr} {len cap : Nat} {v : Value} {base : Nat} {e : TypeId} {n : Nat} {xs : List Value} (o : Obj) (h : Cur w p a len cap) (hown : w.ownsRow base e 1 v n xs) (hb : p < base) (hg : (w.alloc o).grownBy w' v.ownBlock) : Cur w' p a len cap := by
  have h1 : Cur (w.alloc o) p a len cap := h.grown (row := none) ⟨rfl, rfl, rfl, by simp, fun k hk _ => Below.heap_alloc _ _ _ hk⟩ (fun b _ => by simp)
  refine h1.grown hg (fun b hbp he => ?_)
  have := (hown.lt b he.symm).1
  omega

theorem new_at (p : Nat) (a : Option Addr) (len cap : Nat) (w : World) (hp : w.heap.size = p) (hc : Code w a len w.heap.size) :
    Calls Try.prog 14 #[.slice a len cap] w fun e w' => e = .returned (.pointer (some ⟨p, 0, none⟩)) ∧ Cur w' p a len cap ∧ Below p w w' := by
  subst hp
  exact new_any a len cap w hc

/-- 'append(out, y)' of one bool -/
theorem wpList_append_bool {P : Program} (w : World) {ops : Array Oper} {rest : List Oper} {o : Oper} {a : Act} {Q : Exit → Act → World → Prop} (hgd : o.guard = none) (s x : Operand) (t : TypeId)
    (ho : o.op = .call { callee := .builtin .append, args := #[s, x], argTypes := #[t, t] }) (base : Nat) (e : TypeId) (ht : P.underlying t = some (.slice e))
    (hinfo : (P.info? e).map (fun i => (i.zero, i.size, i.bytes)) = some (some (.bool false), 1, 1))
    (v : Value) (l : List Bool) (y : Bool) (hs : a.eval s = v) (hown : w.ownsRow base e 1 v l.length (flat blE l))
    (ad : Addr) (c : Nat) (hx : a.eval x = .slice (some ad) 1 c) (hnews : ∀ j u, (blE y)[j]? = some u → w.cell? (ad.add j) = some u)
    (hl : l.length + 1 ≤ 1000000000) (hbase : base ≤ w.heap.size)
    (h : ∀ v' w' l', Hid (l' = l ++ [y]) → w'.ownsRow base e 1 v' l'.length (flat blE l') → w.grownBy w' v.ownBlock → (v'.ownBlock = v.ownBlock ∨ v'.ownBlock = some w.heap.size) → wpList P ops Q rest (a.put o.dst v') w') : wpList P ops Q (o :: rest) a w := by
  obtain ⟨i0, hi, hz0, hz1, hz2⟩ := info_parts hinfo
  refine wpList_append_own_at w hgd s x t ho base e i0 (.bool false) 1 1 ht hi hz0 hz1 hz2 rfl (by decide) v l.length (flat blE l) hs hown ad 1 c (blE y) hx rfl hnews (blE_one y) (by unfold maxLen; omega) (by omega) hbase ?_
  intro v' w' h1 h2 _ h4
  have e1 : flat blE l ++ blE y = flat blE (l ++ [y]) := by rw [flat_append]; simp [flat]
  rw [e1] at h1
  exact h v' w' (l ++ [y]) rfl (by simpa using h1) h2 h4

/-- a row all of whose cells lie in blocks that stay -/
theorem owns_moved {w w' : World} {base size z p : Nat} {e : TypeId} {v : Value} {n : Nat} {xs : List Value} (h : w.ownsRow base e size v n xs) (hz : w.heap.size ≤ z) (hp : p < base) (hk : ∀ b, b < z → b ≠ p → w'.heap[b]? = w.heap[b]?) : w'.ownsRow base e size v n xs := by
  refine ⟨h.1, ?_⟩
  rcases h.2 with h2 | ⟨g, cap, cur, hv, hg, hh, r⟩
  · exact .inl h2
  · have := lt_of_heap hh
    exact .inr ⟨g, cap, cur, hv, hg, by rw [hk g (by omega) (by omega)]; exact hh, r⟩

theorem netOkI_n {x : NetD} (h : netOkI x = true) : 1 ≤ x.n ∧ x.n ≤ 6 := by
  simp [netOkI, inB] at h
  omega

theorem netOkI_l {x : NetD} (h : netOkI x = true) : x.ls.length ≤ 12 ∧ x.ts.length ≤ 4 := by
  simp [netOkI, linksB, thingsB] at h
  omega

structure DSt (w w5 wr : World) (p z : Nat) (a : Option Addr) (len cap : Nat) : Prop where
  cur : Cur wr p a len cap
  bel : Below w.heap.size w wr
  kept : ∀ b, b < z + 1 → b ≠ p → wr.heap[b]? = w5.heap[b]?
  size : z + 1 ≤ wr.heap.size

theorem DSt.grown {w w5 wr w' : World} {p z : Nat} {a : Option Addr} {len cap : Nat} (h : DSt w w5 wr p z a len cap) (hc : Cur w' p a len cap) (hg : wr.grownBy w' (some p)) (hp : w.heap.size ≤ p) : DSt w w5 w' p z a len cap where
  cur := hc
  bel := h.bel.grown hg h.bel.size (fun k hk => by simp at hk; omega)
  kept := fun b hb hbp => by rw [hg.block b (by have := h.size; omega) (by simp; exact hbp)]; exact h.kept b hb hbp
  size := Nat.le_trans h.size hg.size

theorem DSt.alloc {w w5 wr : World} {p z : Nat} {a : Option Addr} {len cap : Nat} (h : DSt w w5 wr p z a len cap) (o : Obj) : DSt w w5 (wr.alloc o) p z a len cap where
  cur := cur_alloc h.cur o
  bel := h.bel.alloc h.bel.size o
  kept := fun b hb hbp => by rw [Below.heap_alloc _ _ _ (by have := h.size; omega)]; exact h.kept b hb hbp
  size := by have := h.size; simp; omega

theorem DSt.appended {w w5 wr w' : World} {p z : Nat} {a : Option Addr} {len cap : Nat} {v : Value} {e : TypeId} {n : Nat} {xs : List Value} (o : Obj) (h : DSt w w5 wr p z a len cap) (hown : wr.ownsRow (z + 1) e 1 v n xs) (hp : p < z) (hw : w.heap.size ≤ z) (hg : (wr.alloc o).grownBy w' v.ownBlock) : DSt w w5 w' p z a len cap :=
  have h1 := h.alloc o
  { cur := h.cur.appended o hown (by omega) hg
    bel := h1.bel.grown hg h1.bel.size (fun k hk => by have := (hown.lt k hk).1; omega)
    kept := fun b hb hbp => by
      rw [hg.block b (by have := h1.size; omega) (fun he => by have := (hown.lt b he.symm).1; omega)]
      exact h1.kept b hb hbp
    size := Nat.le_trans h1.size hg.size }

end Go.Proofs.Ytbknmgobmnjphaa
namespace Go.Proofs.Ytbknmgobmnjphaa
open Go.RowKit

set_option maxRecDepth 100000 in
set_option maxHeartbeats 1000000 in
theorem drawPlaces_any (a : Option Addr) (len cap : Nat) (w : World) (hc : Code w a len w.heap.size) :
    Calls Try.prog 11 #[.slice a len cap] w fun e w' => ∃ (v : Value) (l : List Int), e = .returned v ∧ l.length = 12 ∧ (∀ z ∈ l, 0 ≤ z ∧ z ≤ 9999) ∧ w'.ownsRow w.heap.size 3 1 v 12 (intsOf l) ∧ Below w.heap.size w w' := by
  have HC := hide hc
  clear hc
  go_enter Try.func11, Try.ntmps11
  go_wp2_with fail
  refine (new_any a len cap _ HC.out).mono ?_
  rintro e w1 ⟨rfl, hc1, hb1⟩
  have hp1 := lt_of_cur hc1
  have HC1 := hide hc1
  clear hc1
  go_wp2_with fail
  refine (byte_any w.heap.size a len cap _ HC1.out).mono ?_
  rintro e w2 ⟨x0, rfl, _, _, hc2, hg2⟩
  have hb2 := hb1.trans (below_of_grown hg2 (by omega))
  have hp2 := lt_of_cur hc2
  have HC2 := hide hc2
  clear hc2 hg2 hb1 HC1
  go_wp2
  go_loopw [4, 5] (fun v i wr => ∃ (k : Nat) (l : List Int), k ≤ 12 ∧ i = .int .i64 k ∧ l.length = k ∧ (∀ z ∈ l, 0 ≤ z ∧ z ≤ 9999) ∧ wr.ownsRow w2.heap.size 3 1 v l.length (intsOf l) ∧ Cur wr w.heap.size a len cap ∧ Below w.heap.size w wr ∧ w2.heap.size ≤ wr.heap.size) (fun _ i _ => 12 - (intOf i).toNat)
  case atStart =>
    refine ⟨0, [], by omega, rfl, rfl, by simp, ?_, ?_, hb2.alloc (by omega) _, by simp⟩
    · exact World.ownsRow_lit _ _ 0 (by simp) (by decide) rfl
    · exact cur_alloc HC2.out _
  case round =>
    obtain ⟨k, l, hk, rfl, hlk, hall, hown, hcr, hnx, hsz⟩ := hrel
    have HLK := hide hlk
    have hll : l.length ≤ k := by omega
    have HALL := hide hall
    clear hlk hall
    by_cases hlt : k < 12
    · have OW := hide hown
      have CR := hide hcr
      clear hown hcr
      go_wp2_with fail
      refine (below_any w.heap.size a len cap _ _ CR.out (by omega) (by omega)).mono ?_
      rintro e w3 ⟨x, rfl, hx0, hx1, hc1, hg1⟩
      have hown1 : w3.ownsRow w2.heap.size 3 1 u4 l.length (intsOf l) := OW.out.kept hg1 (by
        rcases OW.out.2 with ⟨e, _⟩ | ⟨g, cp, cur, e, hb, _⟩
        · exact .inl (by rw [e]; rfl)
        · refine .inr ?_
          rw [e]
          intro h
          simp [Value.ownBlock] at h
          omega)
      have hb1 : Below w.heap.size w w3 := hnx.grown hg1 (by omega) (fun k hk => by simp at hk; omega)
      have hs1 : w2.heap.size ≤ w3.heap.size := Nat.le_trans hsz hg1.size
      have HC1 := hide hc1
      clear hc1 hg1
      go_wp2_with (first
        | (at_builtin; refine wpList_append_int _ rfl _ _ 39 rfl w2.heap.size 3 Try.underlying39 Try.info3 u4 l x rfl (hown1.alloc _) ⟨w3.heap.size, 0, none⟩ 1 rfl ?_ (by omega) (by simp; omega) ?_))
      · rw [add_zero', World.cell?_alloc_at _ _ _ _ rfl]; rfl
      intro v' w4 l' hl' hown' hgrow
      have hc2 := HC1.out.appended _ hown1 hp2 hgrow
      have hb2' : Below w.heap.size w w4 := (hb1.alloc (by omega) _).grown hgrow (by simp; omega) (fun k hk => by have := (hown1.lt k hk).1; omega)
      have hs2 : w2.heap.size ≤ w4.heap.size := by have := hgrow.size; simp at this; omega
      have HC2' := hide hc2
      have OW2 := hide hown'
      clear hgrow hown1 hown' hc2
      go_wp2
      go_roundw
      case rel => exact ⟨k + 1, l', by omega, by go_num, by rw [hl'.out]; simp [HLK.out], (by
          rw [hl'.out]; intro z hz
          rcases List.mem_append.1 hz with h | h
          · exact HALL.out z h
          · simp at h; subst h; omega), OW2.out, HC2'.out, hb2', hs2⟩
      case measure => simp [intOf]; omega
    · have CR := hide hcr
      have OW := hide hown
      clear hcr hown
      go_wp2
      go_ret
      have e12 : l.length = 12 := by have := HLK.out; omega
      refine ⟨_, l, rfl, e12, HALL.out, ?_, hnx⟩
      have h3 := OW.out
      rw [e12] at h3
      exact owns_base h3 (by omega)
end Go.Proofs.Ytbknmgobmnjphaa
namespace Go.Proofs.Ytbknmgobmnjphaa
open Go.RowKit

set_option maxRecDepth 100000 in
set_option maxHeartbeats 1000000 in
theorem sameI_any (v1 v2 : Value) (xs ys : List Int) (w : World) (h1 : IntsAt w v1 xs w.heap.size) (h2 : IntsAt w v2 ys w.heap.size) (hn : xs.length ≤ 1048576) :
    Calls Try.prog 13 #[v1, v2] w fun e w' => e = .returned (.bool (decide (xs = ys))) ∧ Below w.heap.size w w' := by
  obtain ⟨a1, c1, rfl, k1⟩ := h1
  obtain ⟨a2, c2, rfl, k2⟩ := h2
  by_cases hl : xs.length = ys.length
  · have K1 := hide k1
    have K2 := hide k2
    clear k1 k2
    go_enter Try.func13, Try.ntmps13
    go_wp2
    go_loopw [5] (fun i wr => ∃ k : Nat, k ≤ xs.length ∧ i = .int .i64 k ∧ (∀ j, j < k → xs.getD j 0 = ys.getD j 0) ∧ Below w.heap.size w wr) (fun i _ => xs.length - (intOf i).toNat)
    case atStart => exact ⟨0, by omega, rfl, by omega, Below.refl _ _⟩
    case round =>
      obtain ⟨k, hk, rfl, hall, hnx⟩ := hrel
      have HALL := hide hall
      clear hall
      by_cases hlt : k < xs.length
      · obtain ⟨b1, o1, ha1, hb1, d1⟩ : ∃ b1 o1, a1 = some ⟨b1, o1, none⟩ ∧ b1 < w.heap.size ∧ wr.cell? ⟨b1, o1 + k, none⟩ = some (.int .i64 (xs.getD k 0)) := by
          rcases K1.out with h0 | ⟨b, off, ha, hb, hx⟩
          · omega
          · exact ⟨b, off, ha, hb, by rw [hnx.cell (p := ⟨b, off + k, none⟩) hb, hx k (by omega)]; rfl⟩
        obtain ⟨b2, o2, ha2, hb2, d2⟩ : ∃ b2 o2, a2 = some ⟨b2, o2, none⟩ ∧ b2 < w.heap.size ∧ wr.cell? ⟨b2, o2 + k, none⟩ = some (.int .i64 (ys.getD k 0)) := by
          rcases K2.out with h0 | ⟨b, off, ha, hb, hx⟩
          · omega
          · exact ⟨b, off, ha, hb, by rw [hnx.cell (p := ⟨b, off + k, none⟩) hb, hx k (by omega)]; rfl⟩
        subst ha1 ha2
        have hki : (0 : Int) ≤ (k : Int) := by omega
        have hkj : (k : Int) < (xs.length : Int) := by omega
        have hkl : (k : Int) < (ys.length : Int) := by omega
        obtain ⟨x, hx⟩ : ∃ x, x = xs.getD k 0 := ⟨_, rfl⟩
        obtain ⟨y, hy⟩ : ∃ y, y = ys.getD k 0 := ⟨_, rfl⟩
        rw [← hx] at d1
        rw [← hy] at d2
        have HX := hide hx
        have HY := hide hy
        clear hx hy
        by_cases hxy : x = y
        · subst hxy
          go_wp2
          go_quiet (fail)
          go_wp2
          go_roundw
          case rel => exact ⟨k + 1, by omega, by go_num, (fun j hj => by
            by_cases e : j = k
            · subst e; rw [← HX.out, ← HY.out]
            · exact HALL.out j (by omega)), below_drewN hnx _⟩
          case measure => simp [intOf]; omega
        · have hd : (x != y) = true := by simpa using hxy
          go_wp2
          go_quiet (fail)
          go_wp2
          go_ret
          exact ⟨ret_bool_no (list_ne_at (k := k) (by rw [← HX.out, ← HY.out]; exact hxy)), below_drewN hnx _⟩
      · have hkn : k = xs.length := by omega
        have KN := hide hkn
        clear hkn
        go_wp2
        go_ret
        exact ⟨ret_bool_yes (list_eq_all hl (by rw [← KN.out]; exact HALL.out)), hnx⟩
  · clear k1 k2
    have hd : ((xs.length : Int) != (ys.length : Int)) = true := by simp; omega
    go_enter Try.func13, Try.ntmps13
    go_wp2
    go_ret
    exact ⟨ret_bool_no (fun h => hl (by rw [h])), Below.refl _ _⟩

end Go.Proofs.Ytbknmgobmnjphaa
namespace Go.Proofs.Ytbknmgobmnjphaa
open Go.RowKit

def totQD (xs : List RtD) : Nat := (xs.map (fun x => 1 + x.hops.length)).sum

theorem totQ_D (ps : List QP) : totQ ps = totQD (fstsQ ps) := by simp [totQ, totQD, fstsQ, List.map_map, Function.comp_def]

theorem totQD_cons (x : RtD) (xs : List RtD) : totQD (x :: xs) = 1 + x.hops.length + totQD xs := by simp [totQD]

end Go.Proofs.Ytbknmgobmnjphaa
namespace Go.Proofs.Ytbknmgobmnjphaa
open Go.RowKit

theorem totQD_le {l : List RtD} {n m : Nat} (h : l.length ≤ n) (hm : ∀ r ∈ l, r.hops.length ≤ m) : totQD l ≤ n * (m + 1) := by
  induction l generalizing n with
  | nil => simp [totQD]
  | cons a l ih =>
    rw [totQD_cons]
    simp only [List.length_cons] at h
    obtain ⟨k, rfl⟩ : ∃ k, n = k + 1 := ⟨n - 1, by omega⟩
    have h1 := ih (n := k) (by omega) (fun r hr => hm r (by simp [hr]))
    have h2 := hm a (by simp)
    rw [Nat.add_mul]
    omega

theorem routes_tot {xs : List RecD} {al : List Int} {border : Bool} {src : Int} {l : List RtD} (h : IsRoutes xs al border src l) (hs : storeB xs = true) : totQD l ≤ 147 := by
  obtain ⟨ds, es, ts, h1, h2, h3, rfl⟩ := h
  have g1 := h1.good (fun to d h => withinS_good h)
  have g2 := h2.good (fun to d h => beyondS_good h)
  have g3 := h3.goodT (fun to d h => thingS_good hs g1 g2 h)
  have l1 := asc_tos h1.1 (fun d hd => (g1 d hd).node)
  have l2 := asc_tos h2.1 (fun d hd => (g2 d hd).node)
  have l3 := things_len h3.1 (fun d hd => (g3 d hd).node)
  have n1 : (nodesR 1 src ds).length ≤ ds.length := by unfold nodesR; rw [List.length_map]; exact List.length_filter_le _ _
  have n2 : (nodesR 2 src es).length ≤ es.length := by unfold nodesR; rw [List.length_map]; exact List.length_filter_le _ _
  have := totQD_le (n := 21) (m := 6) (l := nodesR 1 src ds ++ nodesR 2 src es ++ ts.map rtOf) (by simp only [List.length_append, List.length_map]; omega) (fun r hr => by
    rcases List.mem_append.1 hr with h | h
    · rcases List.mem_append.1 h with h | h
      · obtain ⟨d, hd, _, rfl⟩ := nodesR_mem h; exact (g1 d hd).len
      · obtain ⟨d, hd, _, rfl⟩ := nodesR_mem h; exact (g2 d hd).len
    · obtain ⟨d, hd, rfl⟩ := List.mem_map.1 h
      have := (g3 d hd).len
      unfold rtOf
      split <;> exact this)
  omega
end Go.Proofs.Ytbknmgobmnjphaa
namespace Go.Proofs.Ytbknmgobmnjphaa
open Go.RowKit

theorem tabF_tot : ∀ (xs acc : List LnD), totJD (xs.foldl tabS acc) ≤ totJD acc + totJD xs
  | [], acc => by simp [totJD]
  | x :: xs, acc => by
    have h := tabF_tot xs (tabS acc x)
    rw [List.foldl_cons, totJD_cons]
    have h2 : totJD (tabS acc x) ≤ totJD acc + (1 + x.hops.length) := by
      unfold tabS
      split
      · rw [totJD_append, totJD_cons]; simp [totJD]
      · omega
    omega

theorem tabD_tot (xs : List LnD) : totJD (tabD xs) ≤ totJD xs := by
  have h := tabF_tot xs []
  have h0 : totJD [] = 0 := rfl
  unfold tabD
  omega

theorem map_fsts (ps : List QP) : ps.map (fun p => lnR p.1) = (fstsQ ps).map lnR := by
  unfold fstsQ
  rw [List.map_map]
  rfl
end Go.Proofs.Ytbknmgobmnjphaa
namespace Go.Proofs.Ytbknmgobmnjphaa
open Go.RowKit

theorem areas_passed (ls : List Lk) (v : Int) : areasL ls v = passed (fun u => decide (0 < (nextL ls v u).length)) 0 3 := by
  simp only [areasL, passed, List.filter_cons, List.filter_nil, List.nil_append]
  repeat' split
  all_goals simp_all

set_option maxRecDepth 100000 in
set_option maxHeartbeats 1000000 in
theorem sareas_any (n : Value) (v tv : Value) (ls : List Lk) (f : Int) (w : World) (hls : ls.length ≤ 1048576) (hv : LinksAt w v ls w.heap.size) :
    Calls Try.prog 9 #[.agg #[n, v, tv], .int .i64 f] w fun e w' => ∃ x, e = .returned x ∧ w'.ownsRow w.heap.size 3 1 x (areasL ls f).length (intsOf (areasL ls f)) ∧ Below w.heap.size w w' := by
  have HV := hide hv
  clear hv
  rw [areas_passed]
  go_enter Try.func9, Try.ntmps9
  go_wp2
  go_loopw [5, 6] (fun x i wr => ∃ k : Nat, k ≤ 3 ∧ i = .int .i64 (0 + (k : Int)) ∧ Below w.heap.size w wr ∧ wr.heap[w.heap.size]? = some (.cells #[n, v, tv] 27) ∧ wr.ownsRow (w.heap.size + 1) 3 1 x (passed (fun u => decide (0 < (nextL ls f u).length)) 0 k).length (intsOf (passed (fun u => decide (0 < (nextL ls f u).length)) 0 k))) (fun _ i _ => 4 - (intOf i).toNat)
  case atStart =>
    refine ⟨0, by omega, rfl, below_two _ _, ?_, ?_⟩
    · rw [Below.heap_alloc _ _ _ (show w.heap.size < (w.alloc (.cells #[n, v, tv] 27)).heap.size by simp), heap_alloc_new]
    · have h0 := World.ownsRow_lit (base := w.heap.size + 1) (w.alloc (.cells #[n, v, tv] 27)) (#[] : Array Value) 0 (by simp) (by decide) (e := 3) (size := 1) rfl
      simpa [passed, intsOf] using h0
  case round =>
    obtain ⟨k, hk, rfl, hb, hx, hown⟩ := hrel
    have c0 : wr.cell? ⟨w.heap.size, 0, none⟩ = some n := by rw [cells_at hx]; rfl
    have c1 : wr.cell? ⟨w.heap.size, 1, none⟩ = some v := by rw [cells_at hx]; rfl
    have c2 : wr.cell? ⟨w.heap.size, 2, none⟩ = some tv := by rw [cells_at hx]; rfl
    have hxl := lt_of_heap hx
    have HX := hide hx
    have OW := hide hown
    clear hx hown
    by_cases hlt : k < 3
    · go_wp2_with fail
      refine (snext_any n v tv ls f _ wr hls (HV.out.then hb)).mono ?_
      rintro e w1 ⟨x1, rfl, hox, b1⟩
      obtain ⟨a1, cp1, rfl⟩ := owns_len hox
      clear hox
      have hown1 := owns_below OW.out b1 (Nat.le_refl _)
      have hx1 : w1.heap[w.heap.size]? = some (.cells #[n, v, tv] 27) := by rw [b1.block _ hxl]; exact HX.out
      have hb1 : Below w.heap.size w w1 := hb.trans (b1.mono hb.size)
      have hz1 := b1.size
      have hpl := passed_len (fun u => decide (0 < (nextL ls f u).length)) 0 k
      have HX1 := hide hx1
      obtain ⟨l2, hl20⟩ : ∃ l2, l2 = passed (fun u => decide (0 < (nextL ls f u).length)) 0 (k + 1) := ⟨_, rfl⟩
      have HL20 := hide hl20
      have hps : Hid (l2 = passed (fun u => decide (0 < (nextL ls f u).length)) 0 k ++ (if decide (0 < (nextL ls f (0 + (k : Int))).length) then [0 + (k : Int)] else [])) := hl20
      clear hl20
      clear b1 hx1 c0 c1 c2 OW HX
      generalize passed (fun u => decide (0 < (nextL ls f u).length)) 0 k = l at hown1 hpl hps
      rw [Int.zero_add] at *
      generalize (nextL ls f (k : Int)).length = c at hps ⊢
      by_cases hc : 0 < (c : Int)
      · have hc' : 0 < c := by omega
        have hl2 : l2 = l ++ [(k : Int)] := by rw [hps.out]; simp [hc']
        clear hc'
        have HL2 := hide hl2
        clear hl2 hps
        go_wp2_with (first
          | (at_builtin; refine wpList_append_int _ rfl _ _ 39 rfl (w.heap.size + 1) 3 Try.underlying39 Try.info3 u5 l (k : Int) rfl (hown1.alloc _) ⟨w1.heap.size, 0, none⟩ 1 rfl ?_ (by omega) (by simp; omega) ?_))
        · rw [add_zero', World.cell?_alloc_at _ _ _ _ rfl]; rfl
        intro v' w4 l' hl' hown' hgrow
        have hb4 : Below w.heap.size w w4 := (hb1.alloc (by omega) _).grown hgrow (by simp; omega) (fun k hk => by have := (hown1.lt k hk).1; omega)
        have hx4 : w4.heap[w.heap.size]? = some (.cells #[n, v, tv] 27) := by
          rw [hgrow.block _ (by simp; omega) (fun h => by have := (hown1.lt _ h.symm).1; omega), Below.heap_alloc _ _ _ (by omega)]
          exact HX1.out
        have e : l' = l2 := by rw [hl'.out, HL2.out]
        subst e
        have OW2 := hide hown'
        have HX4 := hide hx4
        clear hgrow hown' hx4 hown1
        go_wp2
        go_roundw
        case rel => exact ⟨k + 1, by omega, by go_num, hb4, HX4.out, by rw [← HL20.out]; exact OW2.out⟩
        case measure => simp [intOf]; omega
      · have hc' : ¬ 0 < c := by omega
        have hl2 : l2 = l := by rw [hps.out]; simp [hc']
        clear hc'
        subst hl2
        have OW2 := hide hown1
        clear hown1 hps
        go_wp2
        go_roundw
        case rel => exact ⟨k + 1, by omega, by go_num, hb1, HX1.out, by rw [← HL20.out]; exact OW2.out⟩
        case measure => simp [intOf]; omega
    · have hk' : k = 3 := by omega
      subst hk'
      go_wp2
      go_ret
      exact ⟨_, rfl, owns_base OW.out (by omega), hb⟩

set_option maxRecDepth 100000 in
set_option maxHeartbeats 1000000 in
theorem sborder_any (n : Value) (v tv : Value) (ls : List Lk) (f : Int) (w : World) (hls : ls.length ≤ 1048576) (hv : LinksAt w v ls w.heap.size) :
    Calls Try.prog 10 #[.agg #[n, v, tv], .int .i64 f] w fun e w' => e = .returned (.bool (bordB ls f)) ∧ Below w.heap.size w w' := by
  have HV := hide hv
  clear hv
  go_enter Try.func10, Try.ntmps10
  go_wp2_with fail
  refine (sareas_any n v tv ls f _ hls (HV.out.then ((Below.refl _ _).alloc (Nat.le_refl _) _))).mono ?_
  rintro e w1 ⟨x, rfl, hox, b1⟩
  have hb1 : Below w.heap.size w w1 := ((Below.refl w.heap.size w).alloc (Nat.le_refl _) _).trans (b1.mono (by simp))
  obtain ⟨zs, hzs⟩ : ∃ zs, zs = areasL ls f := ⟨_, rfl⟩
  have hB : bordB ls f = (decide (1 < zs.length) && (zs.head? == some 0)) := by rw [hzs]; rfl
  have HB := hide hB
  rw [← hzs] at hox
  clear hB hzs b1
  by_cases h1 : 1 < zs.length
  · obtain ⟨g, cap, rfl, hg, hl⟩ := owns_shape hox (by omega)
    obtain ⟨z, zr, rfl⟩ : ∃ z zr, zs = z :: zr := by
      cases zs with
      | nil => simp at h1
      | cons z zr => exact ⟨z, zr, rfl⟩
    have c0 : w1.cell? ⟨g, 0, none⟩ = some (.int .i64 z) := by rw [hox.cellAt 0 (by omega)]; rfl
    have hb : (decide (1 < (z :: zr).length) && ((z :: zr).head? == some 0)) = (z == 0) := by
      rw [decide_eq_true h1]; simp
    have HB2 : Hid (bordB ls f = (z == 0)) := HB.out.trans hb
    generalize (z :: zr).length = m at hox h1 hl ⊢
    have h1' : (1 : Int) < (m : Int) := by omega
    have h0' : (0 : Int) < (m : Int) := by omega
    clear hox hb HB
    go_wp2
    go_ret
    exact ⟨by rw [HB2.out]; rfl, hb1⟩
  · obtain ⟨a, cap, rfl⟩ := owns_len hox
    have hb : (decide (1 < zs.length) && (zs.head? == some 0)) = false := by rw [decide_eq_false h1]; rfl
    have HB2 : Hid (bordB ls f = false) := HB.out.trans hb
    have h1' : ¬ (1 : Int) < (zs.length : Int) := by omega
    clear hox hb HB
    go_wp2
    go_ret
    exact ⟨by rw [HB2.out]; rfl, hb1⟩
end Go.Proofs.Ytbknmgobmnjphaa
