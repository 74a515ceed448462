/-
  (impl.lineMap).list: its contract.
  impl.TableOf: its contract.
-/
import Derived.Test.YtbknmgobmnjphaaWk26
import Derived.Test.YtbknmgobmnjphaaWk27
import Derived.Test.YtbknmgobmnjphaaWk24
namespace Go.Proofs.Ytbknmgobmnjphaa
open Go.RowKit
open Go.ChangeMaps (setBlock)

set_option linter.unusedSimpArgs false

theorem flat_ps (l : List PS) : flat encPl (l.map psP) = flat encPS l := by
  unfold flat encPS
  rw [List.flatMap_map]

theorem Try.infoPlaced : (Try.prog.info? 104).map (fun i => (i.zero, i.size, i.bytes)) = some (some (.agg #[.int .i64 0, .bool false, .int .i64 0, .slice none 0 0]), 4, 48) := by kernel_rfl

theorem encPS_len (p : PS) : (encPS p).length = 4 := rfl

theorem encPS_flat (l : List PS) : (flat encPS l).length = l.length * 4 := flat_len encPS_len l

/-- sorted lists with the same members are the same -/
theorem sorted_eq : ∀ (qs ms : List PlP), qs.Perm ms → SortedP qs → ms.Pairwise (fun a b => a.1 < b.1) → qs = ms
  | [], ms, hp, _, _ => by rw [List.nil_perm.1 hp]
  | q :: qs, [], hp, _, _ => by have := hp.length_eq; simp at this
  | q :: qs, m :: ms, hp, hs, ha => by
    unfold SortedP at hs
    rw [List.pairwise_cons] at hs ha
    have hqm : q = m := by
      have h1 : q ∈ m :: ms := hp.mem_iff.1 (by simp)
      have h2 : m ∈ q :: qs := hp.mem_iff.2 (by simp)
      rcases List.mem_cons.1 h1 with h1 | h1
      · exact h1
      · rcases List.mem_cons.1 h2 with h2 | h2
        · exact h2.symm
        · have a1 := ha.1 q h1
          have a2 := hs.1 m h2
          rw [cmpP_lt] at a2
          omega
    subst hqm
    rw [sorted_eq qs ms (List.Perm.cons_inv hp) hs.2 ha.2]

/-- numbers below n, none twice, all of them -/
theorem ord_perm {α : Type} {es : List α} {ord : List Nat} {d : α} (hn : ord.Nodup) (hl : ∀ j ∈ ord, j < es.length) (hall : ∀ j, j < es.length → j ∈ ord) : (ord.map (fun j => es.getD j d)).Perm es := by
  have hp : ord.Perm (List.range es.length) := by
    rw [List.perm_ext_iff_of_nodup hn List.nodup_range]
    intro j
    rw [List.mem_range]
    exact ⟨hl j, hall j⟩
  have e : es = (List.range es.length).map (fun j => es.getD j d) := by
    apply List.ext_getElem?
    intro i
    by_cases hi : i < es.length
    · simp [List.getElem?_map, List.getElem?_range hi, List.getD, List.getElem?_eq_getElem hi]
    · rw [List.getElem?_eq_none (by omega), List.getElem?_eq_none (by simp; omega)]
  conv => rhs; rw [e]
  exact hp.map _

def ent9 (x : PS × Value) : PlP × Value := (psP x.1, x.2)

def dPS : PS × Value := ((0, zeroJD, none, 0, 0), .slice none 0 0)

/-- what was handed out -/
def pick9 (es : List (PS × Value)) (ord : List Nat) : List PS := ord.map (fun j => (es.getD j dPS).1)

theorem pick9_len (es : List (PS × Value)) (ord : List Nat) : (pick9 es ord).length = ord.length := by simp [pick9]

theorem pick9_push {es : List (PS × Value)} {ord : List Nat} {j : Nat} {x : PS × Value} (h : es[j]? = some x) : pick9 es ord ++ [x.1] = pick9 es (ord ++ [j]) := by
  unfold pick9
  rw [List.map_append]
  simp [List.getD, h]

/-- the map's walk under way: what was handed out -/
structure RgAt (W : World) (r m n : Nat) (ord : List Nat) (c0 : Nat) : Prop where
  it : W.heap[r]? = some (.mapIter (some m) n ord.toArray c0)
  c : n ≤ c0
  nd : ord.Nodup
  lt : ∀ j ∈ ord, j < n

theorem born_ent {es : List (PlP × Value)} {x : MapEntry} (h : x ∈ entsF 0 es) : ∃ y, es[x.born]? = some y ∧ x = ⟨kV y.1.2.1.thing y.1.2.1.to, y.2, x.born⟩ := by
  obtain ⟨j, hj, e⟩ := List.getElem_of_mem h
  have h1 : (entsF 0 es)[j]? = some x := by rw [← e]; exact List.getElem?_eq_getElem hj
  rw [entsF_get] at h1
  cases hy : es[j]? with
  | none => rw [hy] at h1; simp at h1
  | some y =>
    rw [hy] at h1
    simp only [Option.map_some, Option.some.injEq, Nat.zero_add] at h1
    subst h1
    exact ⟨y, hy, rfl⟩

theorem born_nodup : ∀ (i : Nat) (es : List (PlP × Value)), ((entsF i es).map (·.born)).Nodup ∧ ∀ b ∈ (entsF i es).map (·.born), i ≤ b
  | _, [] => by simp [entsF]
  | i, x :: xs => by
    have ih := born_nodup (i + 1) xs
    simp only [entsF, List.map_cons, List.nodup_cons]
    refine ⟨⟨fun h => ?_, ih.1⟩, fun b hb => ?_⟩
    · have := ih.2 _ h; omega
    · rcases List.mem_cons.1 hb with rfl | h
      · exact Nat.le_refl _
      · have := ih.2 _ h; omega

/-- one step over the map -/
theorem rg_next {W : World} {lo hi r m : Nat} {es : List (PS × Value)} {ord : List Nat} {c0 : Nat} (hl : LmAt W lo hi m (es.map ent9)) (hr : RgAt W r m es.length ord c0) (hrm : r ≠ m) :
    ((∀ j, j < es.length → j ∈ ord) ∧ (Instr.next (.pointer (some ⟨r, 0, none⟩)) false 0).run Try.prog W = .ok (.tuple #[.bool false]) W) ∨
    ∃ (j : Nat) (x : PS × Value) (W1 : World), es[j]? = some x ∧ j ∉ ord ∧ RgAt W1 r m es.length (ord ++ [j]) es.length ∧ W.grownBy W1 (some r) ∧
      (Instr.next (.pointer (some ⟨r, 0, none⟩)) false 0).run Try.prog W = .ok (.tuple #[.bool true, kV x.1.2.1.thing x.1.2.1.to, x.2]) W1 ∧
      (Instr.entry (.pointer (some ⟨r, 0, none⟩))).run Try.prog W1 = .ok (.tuple #[kV x.1.2.1.thing x.1.2.1.to, x.2]) W1 := by
  have hm := hl.map
  rw [List.length_map] at hm
  have hold : ∀ x ∈ ((entsF 0 (es.map ent9)).toArray).toList, x.born < es.length := fun x hx => by
    obtain ⟨y, hy, _⟩ := born_ent (by simpa using hx)
    have := (List.getElem?_eq_some_iff.1 hy).1
    simpa using this
  rcases run_next_at (P := Try.prog) W 0 r m es.length c0 ord.toArray (entsF 0 (es.map ent9)).toArray es.length hr.it hm hold hr.c with ⟨h0, hrun⟩ | ⟨e, he, w1, hw1, hrun⟩
  · left
    refine ⟨fun j hj => ?_, hrun⟩
    have h1 : leftOf (entsF 0 (es.map ent9)).toArray ord.toArray = #[] := Array.eq_empty_of_size_eq_zero h0
    unfold leftOf at h1
    rw [Array.filter_eq_empty_iff] at h1
    have h2 : (entsF 0 (es.map ent9))[j]? = some ⟨kV (ent9 es[j]).1.2.1.thing (ent9 es[j]).1.2.1.to, (ent9 es[j]).2, j⟩ := by
      rw [entsF_get, List.getElem?_map, List.getElem?_eq_getElem hj]
      simp
    have h3 := h1 _ (by simpa using List.mem_of_getElem? h2)
    simpa using h3
  · right
    unfold leftOf at he
    simp only [Array.toList_filter, List.mem_filter, List.toList_toArray] at he
    obtain ⟨he1, he2⟩ := he
    obtain ⟨y, hy, hey⟩ := born_ent he1
    rw [List.getElem?_map] at hy
    cases hx : es[e.born]? with
    | none => rw [hx] at hy; simp at hy
    | some x =>
      rw [hx] at hy
      simp only [Option.map_some, Option.some.injEq] at hy
      subst hy
      obtain ⟨b, hb⟩ : ∃ b, b = e.born := ⟨_, rfl⟩
      rw [← hb] at hx hey
      have hbo : b ∉ ord := by rw [hb]; simpa using he2
      have hw1h : w1.heap = W.heap := by rcases hw1 with rfl | rfl <;> rfl
      have hit1 : w1.heap[r]? = some (.mapIter (some m) es.length ord.toArray c0) := by rw [hw1h]; exact hr.it
      have hrl : r < w1.heap.size := lt_of_heap hit1
      obtain ⟨W1, hW1⟩ : ∃ W1, W1 = setBlock w1 r (.mapIter (some m) es.length (ord.toArray.push e.born) es.length) := ⟨_, rfl⟩
      rw [← hW1] at hrun
      have hr1 : W1.heap[r]? = some (.mapIter (some m) es.length (ord ++ [b]).toArray es.length) := by
        rw [hW1]
        unfold setBlock
        simp [Array.getElem?_setIfInBounds_self_of_lt hrl, hb]
      have ho1 : ∀ j, j ≠ r → W1.heap[j]? = W.heap[j]? := fun j hj => by
        rw [hW1, ← hw1h]
        unfold setBlock
        simp [Array.getElem?_setIfInBounds_ne (Ne.symm hj)]
      have hs1 : W1.heap.size = W.heap.size := by rw [hW1, ← hw1h]; simp [setBlock]
      have hbn : b < es.length := (List.getElem?_eq_some_iff.1 hx).1
      refine ⟨b, x, W1, hx, hbo, ⟨hr1, Nat.le_refl _, ?_, ?_⟩, ?_, ?_, ?_⟩
      · rw [List.nodup_append]
        exact ⟨hr.nd, by simp, fun a ha c hc => by
          have : c = b := by simpa using hc
          subst this
          exact fun e => hbo (e ▸ ha)⟩
      · intro j hj
        rcases List.mem_append.1 hj with h | h
        · exact hr.lt j h
        · have : j = b := by simpa using h
          omega
      · refine ⟨?_, ?_, ?_, by omega, fun j _ hj => ho1 j (fun e => hj (by rw [e]))⟩ <;> (rw [hW1]; rcases hw1 with rfl | rfl <;> rfl)
      · have e1 : e.key = kV x.1.2.1.thing x.1.2.1.to := by rw [hey]; rfl
        have e2 : e.val = x.2 := by rw [hey]; rfl
        rw [← e1, ← e2]
        exact hrun
      · have e1 : e.key = kV x.1.2.1.thing x.1.2.1.to := by rw [hey]; rfl
        have e2 : e.val = x.2 := by rw [hey]; rfl
        rw [← e1, ← e2]
        refine run_entry_at W1 r m es.length ord.toArray (entsF 0 (es.map ent9)).toArray es.length e ?_ ((ho1 m (Ne.symm hrm)).trans hm) (by simpa using he1) (by simpa using (born_nodup 0 (es.map ent9)).1)
        rw [hr1, hb]
        simp

/-- the row of an entry, as a list of one -/
theorem row_one {W : World} {lo : Nat} {v : Value} {x : PS} (h : W.ownsRow lo 104 4 v 1 (encPl (psP x))) : W.ownsRow lo 104 4 v [x].length (flat encPS [x]) := by
  have e : flat encPS [x] = encPl (psP x) := by simp [flat, encPS]
  rw [e]
  exact h

set_option maxRecDepth 100000 in
set_option maxHeartbeats 4000000 in
theorem list_any (lo m : Nat) (es : List (PS × Value)) (blo : Nat) (w : World) (h : LmAt w lo w.heap.size m (es.map ent9)) (hlen : es.length ≤ 1048576)
    (hhop : ∀ x ∈ es, w.ownsRow blo 3 1 (psP x.1).2.2 x.1.2.1.hops.length (flat intE x.1.2.1.hops)) (hhl : ∀ x ∈ es, x.1.2.1.hops.length ≤ 1048576) (hasc : (es.map (fun x => psP x.1)).Pairwise (fun a b => a.1 < b.1)) :
    Calls Try.prog 25 #[.map (some m)] w fun e w' => ∃ u qs, e = .returned u ∧ fstsJ qs = es.map (fun x => x.1.2.1) ∧ LnsOwn w' w.heap.size w'.heap.size u qs ∧ Below w.heap.size w w' := by
  have hmw : m < w.heap.size := h.high
  have hm := h.map
  rw [List.length_map] at hm
  have hrg := run_range_map (P := Try.prog) w 65 70 102 m (entsF 0 (es.map ent9)).toArray es.length Try.underlying65 hm
  have HL := hide h
  have HHOP := hide hhop
  have HASC := hide hasc
  have HHL := hide hhl
  clear h hhop hasc hm hhl
  have bI := (Below.refl w.heap.size w).alloc (Nat.le_refl _) (.mapIter (some m) es.length #[] es.length)
  have hI := heap_alloc_new w (.mapIter (some m) es.length #[] es.length)
  obtain ⟨WI, hWI⟩ : ∃ WI, WI = w.alloc (.mapIter (some m) es.length #[] es.length) := ⟨_, rfl⟩
  rw [← hWI] at hrg bI hI
  clear hWI
  have hRG : RgAt WI w.heap.size m es.length [] es.length := ⟨hI, Nat.le_refl _, by simp, by simp⟩
  have HRG := hide hRG
  have hIs := lt_of_heap hI
  clear hI hRG
  go_enter Try.func25, Try.ntmps25
  go_wp2
  clear hrg
  go_loopw [3] (fun s wr => ∃ (ord : List Nat) (ua : Option Addr) (uc c0 : Nat), s = .slice ua ord.length uc ∧ Hid (RgAt wr w.heap.size m es.length ord c0) ∧ ord.length ≤ es.length ∧ Hid (wr.ownsRow (w.heap.size + 1) 104 4 (.slice ua ord.length uc) ord.length (flat encPS (pick9 es ord))) ∧ Below w.heap.size w wr) (fun s _ => es.length - lenV s)
  case atStart => exact ⟨[], none, 0, es.length, rfl, HRG, by simp, hide (World.ownsRow_nil _ _ _ _), bI⟩
  case round =>
    obtain ⟨ord, ua, uc, c0, rfl, HR, hol, HOW, hnx⟩ := hrel
    have hlm := HL.out.below hnx (Nat.le_refl _)
    have hrs := lt_of_heap HR.out.it
    rcases rg_next hlm HR.out (by omega) with ⟨hall, hrun⟩ | ⟨j, x, W1, hx, hj, hR1, hg1, hrun, hent⟩
    · have HALL := hide hall
      clear hall hlm
      have hperm := ord_perm (d := dPS) HR.out.nd HR.out.lt HALL.out
      have hpm : ((pick9 es ord).map psP).Perm (es.map (fun x => psP x.1)) := by
        have h1 := hperm.map (fun x => psP x.1)
        rw [List.map_map] at h1
        unfold pick9
        rw [List.map_map]
        exact h1
      have hordl : ord.length = es.length := by have := hperm.length_eq; simpa using this
      have hrow : wr.ownsRow (w.heap.size + 1) 104 4 (.slice ua ord.length uc) ((pick9 es ord).map psP).length (flat encPl ((pick9 es ord).map psP)) := by
        rw [flat_ps, List.length_map, pick9_len]
        exact HOW.out
      have HSO := hide (sortP_own (.slice ua ord.length uc) _ (w.heap.size + 1) wr hrow (fun q hq => by
        obtain ⟨y, _, rfl⟩ := List.mem_map.1 hq
        exact ⟨_, _, _, rfl⟩) (by rw [List.length_map, pick9_len]; omega))
      have HPM := hide hpm
      have HRW := hide hrow
      have HORD := hide hordl
      clear hperm hpm hrow HOW hordl
      go_wp2_with fail
      refine HSO.out.mono ?_
      rintro e w2 ⟨rfl, qs, hqp, hqs, hown2, hg2⟩
      have hqe : qs = es.map (fun x => psP x.1) := sorted_eq _ _ (hqp.trans HPM.out) hqs HASC.out
      subst hqe
      have bW2 : Below w.heap.size w w2 := hnx.grown hg2 hnx.size (fun k hk => by have := (HRW.out.lt k hk).1; omega)
      rw [List.length_map] at hown2
      rw [HORD.out] at hown2 ⊢
      have HO2 := hide hown2
      have hw2s := bW2.size
      clear hqp hqs hown2 hg2 HRW HPM HSO HR HALL hnx hrun HORD hol
      go_wp2
      have b3 := (Below.refl w2.heap.size w2).alloc (Nat.le_refl _) (.cells #[] 67)
      have o3 : LnsOwn (w2.alloc (.cells #[] 67)) w2.heap.size (w2.alloc (.cells #[] 67)).heap.size (.slice (some ⟨w2.heap.size, 0, none⟩) 0 0) [] := by
        have h1 : (w2.alloc (.cells #[] 67)).ownsRow w2.heap.size 67 3 (.slice (some ⟨w2.heap.size, 0, none⟩) 0 0) 0 (flat encJ []) := World.ownsRow_lit w2 #[] 0 (Nat.le_refl _) (by unfold maxLen; omega) (by simp)
        exact ⟨h1, fun k hk => (h1.lt k hk).2, by simp, by simp⟩
      generalize w2.alloc (.cells #[] 67) = W3 at *
      have B3 := hide b3
      have O3 := hide o3
      clear b3 o3
      go_loopw [6, 23] (fun s i wr => ∃ (k : Nat) (ys : List JP) (ya : Option Addr) (yc : Nat), k ≤ es.length ∧ i = .int .i64 (k : Int) ∧ s = .slice ya k yc ∧ Hid (fstsJ ys = (es.take k).map (fun x => x.1.2.1)) ∧ Hid (LnsOwn wr w2.heap.size wr.heap.size (.slice ya k yc) ys) ∧ Below w2.heap.size w2 wr) (fun _ i _ => es.length - (intOf i).toNat)
      case atStart => exact ⟨0, [], _, 0, by omega, rfl, rfl, hide (by simp [fstsJ]), O3, B3.out⟩
      case round =>
        obtain ⟨k, ys, ya, yc, hk, rfl, rfl, HYS, HYO, hny⟩ := hrel
        have hysl : ys.length = k := by have h1 := congrArg List.length HYS.out; simpa [fstsJ, List.length_take, Nat.min_eq_left hk] using h1
        by_cases hlt : k < es.length
        · obtain ⟨x, hx⟩ : ∃ x, es[k]? = some x := ⟨es[k], List.getElem?_eq_getElem hlt⟩
          obtain ⟨g, gc, hue, hg1, hgl⟩ := owns_shapeS HO2.out (by omega)
          cases hue
          have hcell : ∀ c u, (encPl (psP x.1))[c]? = some u → c < 4 → wr.cell? ⟨g, k * 4 + c, none⟩ = some u := fun c u hu hc => by
            rw [hny.cell (p := ⟨g, k * 4 + c, none⟩) hgl, HO2.out.cellAt _ (by omega), flat_get encPl_len _ k c (psP x.1) (by rw [List.getElem?_map, hx]; rfl) hc]
            exact hu
          have c0 := hcell 0 _ rfl (by omega)
          have c1 := hcell 1 _ rfl (by omega)
          have c2 := hcell 2 _ rfl (by omega)
          have c3 := hcell 3 _ rfl (by omega)
          rw [Nat.add_zero] at c0
          have hxm := List.mem_of_getElem? hx
          have hho := HHOP.out x hxm
          have hhl := HHL.out x hxm
          obtain ⟨⟨pl, xl, xa, xn, xc⟩, xv⟩ := x
          simp only [psP] at c0 c1 c2 c3 hho hhl
          have bwr : Below w.heap.size w wr := bW2.trans (hny.mono hw2s)
          have hwrs := bwr.size
          have hys := hny.size
          have HOL := hide (fun W (hb : Below w.heap.size w W) => ownLine_any xl (.slice xa xn xc) blo W (owns_below hho hb (Nat.le_refl _)) hhl)
          unfold lnC at HOL
          have HTK := hide (show (es.take (k + 1)).map (fun x => x.1.2.1) = (es.take k).map (fun x => x.1.2.1) ++ [xl] by
            obtain ⟨h1, h2⟩ := List.getElem?_eq_some_iff.1 hx
            rw [List.take_succ_eq_append_getElem h1, List.map_append, h2]
            rfl)
          have hki : (0 : Int) ≤ (k : Int) := by omega
          have hkj : (k : Int) < (es.length : Int) := by omega
          have HYL := hide hysl
          clear hx hxm hho hcell hysl
          go_wp2_with fail
          have bb := (Below.refl wr.heap.size wr).alloc (Nat.le_refl _) (.cells #[.int .i64 pl, .bool xl.thing, .int .i64 xl.to, .slice xa xn xc] 104)
          obtain ⟨W5, hW5⟩ : ∃ W5, W5 = wr.alloc (.cells #[.int .i64 pl, .bool xl.thing, .int .i64 xl.to, .slice xa xn xc] 104) := ⟨_, rfl⟩
          rw [← hW5] at bb ⊢
          clear hW5
          refine (HOL.out _ (bwr.trans (bb.mono hwrs))).mono ?_
          rintro e w6 ⟨v6, rfl, hn6, b6⟩
          obtain ⟨n6a, n6c, rfl⟩ := owns_lenS hn6
          have b56 : Below wr.heap.size wr w6 := bb.trans (b6.mono bb.size)
          have b5s := bb.size
          have b6s := b6.size
          have HYO6 := HYO
          rw [show (k : Nat) = ys.length from HYL.out.symm] at HYO6
          go_wp2_with (first
            | (at_builtin; refine append_struct5 encJ_len (by omega) (by omega) _ rfl _ _ 35 rfl w2.heap.size 67 Try.underlying35 (.agg (lnC zeroJD (.slice none 0 0))) rfl Try.infoLine _ ys (xl, .slice n6a xl.hops.length n6c) (encJ_one _ _ _ _) rfl ((owns_below HYO.out.row b56 (Nat.le_refl _)).alloc _) ⟨w6.heap.size, 0, none⟩ 1 rfl (news_struct (cs := encJ (xl, .slice n6a xl.hops.length n6c))) (by have := HYL.out; omega) (by simp; omega) ?_))
          intro v' w7 hown' hgrow
          have ow7 := HYO.out.push (p := (xl, .slice n6a xl.hops.length n6c)) (b56.alloc b56.size _) (by omega) (LHopOwn.wide (LHopOwn.keep ⟨owns_baseS hn6 b5s, fun k hk => (hn6.lt k hk).2⟩ (fun j _ _ h3 => Below.heap_alloc _ _ _ h3)) (Nat.le_refl _) (by simp)) (by simpa using hown') hgrow
          have hl7 : (ys ++ [(xl, Value.slice n6a xl.hops.length n6c)]).length = k + 1 := by rw [List.length_append, HYL.out]; rfl
          have hb7 : Below w2.heap.size w2 w7 := ((hny.trans (b56.mono hys)).alloc (by omega) _).grown hgrow (by simp; omega) (fun k hk => (HYO.out.row.lt k hk).1)
          obtain ⟨va, vc, hve⟩ := owns_lenS ow7.row
          rw [hl7] at hve
          subst hve
          have OW7 := hide ow7
          have HY7 := hide (show fstsJ (ys ++ [(xl, Value.slice n6a xl.hops.length n6c)]) = (es.take (k + 1)).map (fun x => x.1.2.1) by rw [HTK.out, ← HYS.out]; simp [fstsJ])
          clear ow7 hown' hgrow hn6 HYO HYO6 HYS HTK HOL hl7
          go_wp2
          go_roundw
          case rel => exact ⟨k + 1, ys ++ [(xl, .slice n6a xl.hops.length n6c)], va, vc, by omega, by go_num, rfl, HY7, OW7, hb7⟩
          case measure => simp [intOf]; omega
        · have hkn : k = es.length := by omega
          have KN := hide hkn
          clear hkn hysl
          go_wp2
          go_ret
          refine ⟨_, ys, rfl, ?_, (HYO.out.wide hw2s (Nat.le_refl _)), bW2.trans (hny.mono hw2s)⟩
          have h1 := HYS.out
          rw [KN.out, List.take_length] at h1
          exact h1
    · have hxr := HL.out.rows (ent9 x) (List.mem_map.2 ⟨x, List.mem_of_getElem? hx, rfl⟩)
      obtain ⟨xa, xc, hxe⟩ := owns_lenS hxr.1
      have hxe2 : x.2 = .slice xa 1 xc := hxe
      rw [hxe2] at hrun hent
      unfold kV at hrun hent
      have bW1 : Below w.heap.size w W1 := hnx.grown hg1 hnx.size (fun k hk => by simp at hk; omega)
      have hrow1 : W1.ownsRow lo 104 4 (.slice xa 1 xc) [x.1].length (flat encPS [x.1]) := by
        have h1 := row_one (x := x.1) (v := x.2) hxr.1
        rw [hxe2] at h1
        exact owns_keepB h1 (fun k e => bW1.block k (hxr.2 k (by show x.2.ownBlock = _; rw [hxe2]; exact e)))
      have hown1 : W1.ownsRow (w.heap.size + 1) 104 4 (.slice ua ord.length uc) ord.length (flat encPS (pick9 es ord)) :=
        owns_keepB HOW.out (fun k e => hg1.block k (HOW.out.lt k e).2 (fun e9 => by have := (HOW.out.lt k e).1; simp at e9; omega))
      have hjl : j < es.length := (List.getElem?_eq_some_iff.1 hx).1
      have hol2 : ord.length + 1 ≤ es.length := by
        have h1 := hR1.nd.length_le_of_subset (l₂ := List.range es.length) (fun k hk => by rw [List.mem_range]; exact hR1.lt k hk)
        rw [List.length_append, List.length_range] at h1
        exact h1
      have HPU := hide (pick9_push (ord := ord) hx)
      have HROW1 := hide hrow1
      have HOWN1 := hide hown1
      have HR1 := hide hR1
      clear hrow1 hown1 hR1 hg1 hxr hxe hxe2 hx hj HR HOW hlm hnx
      have hs1 := bW1.size
      go_wp2_with (first
        | (at_builtin; refine append_row5 encPS_flat (by omega) encPl_one (by omega) _ rfl _ _ 102 rfl (w.heap.size + 1) 104 Try.underlying102 (.agg #[.int .i64 0, .bool false, .int .i64 0, .slice none 0 0]) rfl Try.infoPlaced _ (pick9 es ord) rfl ?own0 lo _ [x.1] rfl HROW1.out (by simp [pick9_len]; omega) ?sz0 ?_))
      case own0 => rw [pick9_len]; exact HOWN1.out
      case sz0 => have := lt_of_heap HR1.out.it; omega
      intro v' w4 hown' hgrow
      have hown2 : w4.ownsRow (w.heap.size + 1) 104 4 v' (ord.length + 1) (flat encPS (pick9 es (ord ++ [j]))) := by
        rw [← HPU.out]
        simpa [pick9_len] using hown'
      clear hown'
      obtain ⟨va, vc, rfl⟩ := owns_lenS hown2
      have hlen4 : (ord ++ [j]).length = ord.length + 1 := by simp
      have hrb : w4.heap[w.heap.size]? = W1.heap[w.heap.size]? := hgrow.block _ (lt_of_heap HR1.out.it) (fun e9 => by have := (HOWN1.out.lt _ e9.symm).1; omega)
      have HR4 := hide (show RgAt w4 w.heap.size m es.length (ord ++ [j]) es.length from ⟨hrb.trans HR1.out.it, HR1.out.c, HR1.out.nd, HR1.out.lt⟩)
      have HB4 := hide (bW1.grown hgrow hs1 (fun k hk => by have := (HOWN1.out.lt k hk).1; omega))
      have HO4 := hide (show w4.ownsRow (w.heap.size + 1) 104 4 (.slice va (ord ++ [j]).length vc) (ord ++ [j]).length (flat encPS (pick9 es (ord ++ [j]))) by rw [hlen4]; exact hown2)
      have hol3 : (ord ++ [j]).length ≤ es.length := by rw [hlen4]; exact hol2
      have HLN := hide hlen4
      have HRF := hide (show Value.slice va (ord.length + 1) vc = .slice va (ord ++ [j]).length vc by rw [hlen4])
      clear hown2 hgrow hrb HR1 HOWN1 HROW1 HPU hlen4
      go_wp2
      go_roundw
      case rel => exact ⟨ord ++ [j], va, vc, es.length, HRF.out, HR4, hol3, HO4, HB4.out⟩
      case measure => simp only [lenV]; omega
end Go.Proofs.Ytbknmgobmnjphaa
namespace Go.Proofs.Ytbknmgobmnjphaa
open Go.RowKit

set_option linter.unusedSimpArgs false

/-- what a table has of a route -/
def lnR (q : RtD) : LnD := ⟨q.thing, q.to, q.hops⟩

def tabS (acc : List LnD) (x : LnD) : List LnD := if idxZ acc x.thing x.to < 0 then acc ++ [x] else acc

/-- the first one of each -/
def tabD (xs : List LnD) : List LnD := xs.foldl tabS []

theorem tabD_take {xs : List LnD} {k : Nat} {x : LnD} (h : xs[k]? = some x) : tabD (xs.take (k + 1)) = tabS (tabD (xs.take k)) x := by
  obtain ⟨hk, e⟩ := List.getElem?_eq_some_iff.1 h
  unfold tabD
  rw [List.take_succ_eq_append_getElem hk, List.foldl_append, e]
  rfl

theorem tabS_no {acc : List LnD} {x : LnD} (h : 0 ≤ idxZ acc x.thing x.to) : tabS acc x = acc := if_neg (by omega)

theorem tabS_yes {acc : List LnD} {x : LnD} (h : idxZ acc x.thing x.to = -1) : tabS acc x = acc ++ [x] := if_pos (by omega)

theorem idxZ_or (l : List LnD) (t : Bool) (z : Int) : idxZ l t z = -1 ∨ 0 ≤ idxZ l t z := by
  rcases idxZ_cases l t z with h | ⟨k, x, h, _⟩
  · exact .inl h
  · exact .inr (by omega)

/-- the map that is made of routes, under way -/
structure TmAt (W : World) (lo m : Nat) (ps : List QP) (k : Nat) (es : List (PS × Value)) : Prop where
  lm : LmAt W lo W.heap.size m (es.map ent9)
  tab : es.map (fun x => x.1.2.1) = tabD ((ps.take k).map (fun p => lnR p.1))
  asc : (es.map (fun x => psP x.1)).Pairwise (fun a b => a.1 < b.1)
  lt : ∀ x ∈ es, x.1.1 < (k : Int)
  src : ∀ x ∈ es, ∃ p ∈ ps, (psP x.1).2.2 = p.2 ∧ x.1.2.1.hops = p.1.hops
  len : es.length ≤ k

theorem TmAt.lns {W : World} {lo m : Nat} {ps : List QP} {k : Nat} {es : List (PS × Value)} (h : TmAt W lo m ps k es) : lnsOf (es.map ent9) = tabD ((ps.take k).map (fun p => lnR p.1)) := by
  rw [← h.tab]
  unfold lnsOf ent9
  rw [List.map_map]
  rfl

theorem map_lnR {ps : List QP} {k : Nat} {p : QP} (h : ps[k]? = some p) : tabD ((ps.take (k + 1)).map (fun p => lnR p.1)) = tabS (tabD ((ps.take k).map (fun p => lnR p.1))) (lnR p.1) := by
  have h1 : (ps.map (fun p => lnR p.1))[k]? = some (lnR p.1) := by rw [List.getElem?_map, h]; rfl
  have := tabD_take h1
  rw [← List.map_take, ← List.map_take] at this
  exact this

theorem TmAt.pass {W : World} {lo m : Nat} {ps : List QP} {k : Nat} {es : List (PS × Value)} {p : QP} (h : TmAt W lo m ps k es) (hp : ps[k]? = some p) (hi : 0 ≤ idxZ (tabD ((ps.take k).map (fun p => lnR p.1))) p.1.thing p.1.to) : TmAt W lo m ps (k + 1) es where
  lm := h.lm
  tab := by rw [map_lnR hp, tabS_no hi]; exact h.tab
  asc := h.asc
  lt := fun x hx => by have := h.lt x hx; omega
  src := h.src
  len := by have := h.len; omega

theorem TmAt.push {W W' : World} {lo m : Nat} {ps : List QP} {k : Nat} {es : List (PS × Value)} {p : QP} {a : Option Addr} {n c : Nat} {v : Value} (h : TmAt W lo m ps k es) (hp : ps[k]? = some p) (hpe : p.2 = .slice a n c) (hi : idxZ (tabD ((ps.take k).map (fun p => lnR p.1))) p.1.thing p.1.to = -1)
    (hl : LmAt W' lo W'.heap.size m (es.map ent9 ++ [(((k : Int), (lnR p.1, .slice a n c)), v)])) : TmAt W' lo m ps (k + 1) (es ++ [(((k : Int), lnR p.1, a, n, c), v)]) where
  lm := by rw [List.map_append]; exact hl
  tab := by rw [map_lnR hp, tabS_yes hi, List.map_append, h.tab]; rfl
  asc := by
    rw [List.map_append, List.pairwise_append]
    refine ⟨h.asc, by simp, fun x hx y hy => ?_⟩
    obtain ⟨z, hz, rfl⟩ := List.mem_map.1 hx
    have : y = psP ((k : Int), lnR p.1, a, n, c) := by simpa using hy
    subst this
    exact h.lt z hz
  lt := fun x hx => by
    rcases List.mem_append.1 hx with h1 | h1
    · have := h.lt x h1; omega
    · have : x = (((k : Int), lnR p.1, a, n, c), v) := by simpa using h1
      subst this
      show (k : Int) < ((k + 1 : Nat) : Int)
      omega
  src := fun x hx => by
    rcases List.mem_append.1 hx with h1 | h1
    · exact h.src x h1
    · have : x = (((k : Int), lnR p.1, a, n, c), v) := by simpa using h1
      subst this
      exact ⟨p, List.mem_of_getElem? hp, hpe.symm, rfl⟩
  len := by rw [List.length_append]; have := h.len; simp; omega

set_option maxRecDepth 100000 in
set_option maxHeartbeats 4000000 in
theorem itable_any (v : Value) (ps : List QP) (lo hi : Nat) (w : World) (hv : RtsOwn w lo hi v ps) (hhi : hi ≤ w.heap.size) (hn : totQ ps ≤ 1048576) :
    Calls Try.prog 7 #[v] w fun e w' => ∃ u qs, e = .returned u ∧ fstsJ qs = tabD (ps.map (fun p => lnR p.1)) ∧ LnsOwn w' w.heap.size w'.heap.size u qs ∧ Below w.heap.size w w' := by
  have hnl := totQ_len ps
  obtain ⟨a1, c1, rfl⟩ := owns_lenS hv.row
  have HV := hide hv
  clear hv
  have hmk : (Instr.makeMap 65 none).run Try.prog w = .ok (.map (some w.heap.size)) (w.alloc (.map #[] 0)) := by rfl
  have bM := (Below.refl w.heap.size w).alloc (Nat.le_refl _) (.map #[] 0)
  have lM := (LmAt.made w).wide (hi' := (w.alloc (.map #[] 0)).heap.size) (by simp)
  obtain ⟨WM, hWM⟩ : ∃ WM, WM = w.alloc (.map #[] 0) := ⟨_, rfl⟩
  rw [← hWM] at bM lM hmk
  clear hWM
  have T0 := hide (show TmAt WM w.heap.size w.heap.size ps 0 [] from ⟨lM, by simp [tabD], by simp, by simp, by simp, by simp⟩)
  clear lM
  go_enter Try.func7, Try.ntmps7
  go_wp2
  clear hmk
  go_loopw [10] (fun i wr => ∃ (k : Nat) (es : List (PS × Value)), k ≤ ps.length ∧ i = .int .i64 (k : Int) ∧ Hid (TmAt wr w.heap.size w.heap.size ps k es) ∧ Below w.heap.size w wr) (fun i _ => ps.length - (intOf i).toNat)
  case atStart => exact ⟨0, [], by omega, rfl, T0, bM⟩
  case round =>
    obtain ⟨k, es, hk, rfl, HT, hnx⟩ := hrel
    have hsz := hnx.size
    by_cases hlt : k < ps.length
    · obtain ⟨p, hp⟩ : ∃ p, ps[k]? = some p := ⟨ps[k], List.getElem?_eq_getElem hlt⟩
      obtain ⟨b, off, cp, hve, hbb, d0, d1, d2, d3, d4, d5, hh⟩ := HV.out.at.cells k p hp
      cases hve
      have hbw : b < w.heap.size := by omega
      obtain ⟨ha, hc, hpe⟩ := owns_lenS (HV.out.nears p (List.mem_of_getElem? hp)).1
      rw [hpe] at d5
      rw [← hnx.cell (p := ⟨b, off + k * 6, none⟩) hbw] at d0
      rw [← hnx.cell (p := ⟨b, off + k * 6 + 1, none⟩) hbw] at d1
      rw [← hnx.cell (p := ⟨b, off + k * 6 + 2, none⟩) hbw] at d2
      rw [← hnx.cell (p := ⟨b, off + k * 6 + 3, none⟩) hbw] at d3
      rw [← hnx.cell (p := ⟨b, off + k * 6 + 4, none⟩) hbw] at d4
      rw [← hnx.cell (p := ⟨b, off + k * 6 + 5, none⟩) hbw] at d5
      have hki : (0 : Int) ≤ (k : Int) := by omega
      have hkj : (k : Int) < (ps.length : Int) := by omega
      have HP := hide hp
      have HPE := hide hpe
      have HK := hide (fun W => key_any (lnR p.1) (.slice ha p.1.hops.length hc) W)
      have HLN := hide (show lnR p.1 = ⟨p.1.thing, p.1.to, p.1.hops⟩ from rfl)
      rw [HLN.out] at HK
      simp only [] at HK
      clear hp hpe hh
      go_wp2_with fail
      have bb := below_two (w := wr) (.cells #[.bool p.1.thing, .int .i64 p.1.to, .int .i64 p.1.kind, .int .i64 p.1.cost, .int .i64 p.1.far, .slice ha p.1.hops.length hc] 44) (.cells #[.bool p.1.thing, .int .i64 p.1.to, .slice ha p.1.hops.length hc] 67)
      have hbx : ((wr.alloc (.cells #[.bool p.1.thing, .int .i64 p.1.to, .int .i64 p.1.kind, .int .i64 p.1.cost, .int .i64 p.1.far, .slice ha p.1.hops.length hc] 44)).alloc (.cells #[.bool p.1.thing, .int .i64 p.1.to, .slice ha p.1.hops.length hc] 67)).heap[wr.heap.size + 1]? = some (.cells #[.bool p.1.thing, .int .i64 p.1.to, .slice ha p.1.hops.length hc] 67) := by
        have := heap_alloc_new (wr.alloc (.cells #[.bool p.1.thing, .int .i64 p.1.to, .int .i64 p.1.kind, .int .i64 p.1.cost, .int .i64 p.1.far, .slice ha p.1.hops.length hc] 44)) (.cells #[.bool p.1.thing, .int .i64 p.1.to, .slice ha p.1.hops.length hc] 67)
        simpa using this
      obtain ⟨W5, hW5⟩ : ∃ W5, W5 = (wr.alloc (.cells #[.bool p.1.thing, .int .i64 p.1.to, .int .i64 p.1.kind, .int .i64 p.1.cost, .int .i64 p.1.far, .slice ha p.1.hops.length hc] 44)).alloc (.cells #[.bool p.1.thing, .int .i64 p.1.to, .slice ha p.1.hops.length hc] 67) := ⟨_, rfl⟩
      rw [← hW5] at bb hbx ⊢
      clear hW5
      have b5s := bb.size
      have hlx := lt_of_heap hbx
      have HT5 := hide ((HT.out.lm.below bb (Nat.le_refl _)).wide b5s)
      refine (HK.out W5).mono ?_
      rintro e w6 ⟨rfl, b6⟩
      have b6s := b6.size
      have HT6 := hide ((HT5.out.below b6 (Nat.le_refl _)).wide b6s)
      have hbx6 := (b6.block _ hlx).trans hbx
      have HTN := hide (HT.out.lns)
      go_wp2_with fail
      refine (leads_any w.heap.size w.heap.size (es.map ent9) p.1.thing p.1.to w6 HT6.out).mono ?_
      rintro e w7 ⟨rfl, b7⟩
      have b7s := b7.size
      have HT7 := hide ((HT6.out.below b7 (Nat.le_refl _)).wide b7s)
      have hbx7 := (b7.block _ (by omega)).trans hbx6
      have bw7 : Below wr.heap.size wr w7 := bb.trans ((b6.trans (b7.mono b6s)).mono b5s)
      have bww7 : Below w.heap.size w w7 := hnx.trans (bw7.mono hsz)
      have HT9 := hide (show TmAt w7 w.heap.size w.heap.size ps k es from ⟨HT7.out, HT.out.tab, HT.out.asc, HT.out.lt, HT.out.src, HT.out.len⟩)
      rcases idxZ_or (lnsOf (es.map ent9)) p.1.thing p.1.to with hi | hi
      · rw [decide_eq_false (show ¬ 0 ≤ idxZ (lnsOf (es.map ent9)) p.1.thing p.1.to by omega)]
        have y0 := cells_at hbx7 0
        have y1 := cells_at hbx7 1
        have y2 := cells_at hbx7 2
        simp at y0 y1 y2
        have HPT := hide (putM_any w.heap.size w.heap.size (es.map ent9) (lnR p.1) (.slice ha p.1.hops.length hc) (k : Int) w7 HT7.out hi)
        unfold lnC at HPT
        rw [HLN.out] at HPT
        simp only [] at HPT
        have HI := hide hi
        clear hi hbx hbx6 hbx7 b6 b7 bb HT5 HT6 HT HT7 HK
        go_wp2_with fail
        refine HPT.out.mono ?_
        rintro e w8 ⟨rfl, v8, hl8, hg8⟩
        have HT8 := hide (HT9.out.push HP.out HPE.out (by rw [← HTN.out]; exact HI.out) hl8)
        have hb8 : Below w.heap.size w w8 := bww7.grown hg8 bww7.size (fun j hj => by simp at hj; omega)
        clear hl8 hg8 HPT
        go_wp2
        go_roundw
        case rel => exact ⟨k + 1, _, by omega, by go_num, HT8, hb8⟩
        case measure => simp [intOf]; omega
      · rw [decide_eq_true hi]
        have HT8 := hide (HT9.out.pass HP.out (by rw [← HTN.out]; exact hi))
        clear hi hbx hbx6 hbx7 b6 b7 bb HT5 HT6 HT HT7 HK
        go_wp2
        go_roundw
        case rel => exact ⟨k + 1, es, by omega, by go_num, HT8, bww7⟩
        case measure => simp [intOf]; omega
    · have hkn : k = ps.length := by omega
      have KN := hide hkn
      clear hkn
      have HLI := hide (list_any w.heap.size w.heap.size es lo wr HT.out.lm (by have := HT.out.len; omega) (fun x hx => by
        obtain ⟨p, hp, h1, h2⟩ := HT.out.src x hx
        rw [h1, h2]
        exact owns_below (HV.out.nears p hp).1 hnx (by omega)) (fun x hx => by
        obtain ⟨p, hp, h1, h2⟩ := HT.out.src x hx
        rw [h2]
        have := totQ_mem hp
        omega) HT.out.asc)
      go_wp2_with fail
      refine HLI.out.mono ?_
      rintro e w2 ⟨u, qs, rfl, hq, ho, b2⟩
      have HQ := hide hq
      have HO := hide ho
      clear hq ho
      go_wp2
      go_ret
      refine ⟨u, qs, rfl, ?_, HO.out.wide hsz (Nat.le_refl _), hnx.trans (b2.mono hsz)⟩
      rw [HQ.out, HT.out.tab, KN.out, List.take_length]
end Go.Proofs.Ytbknmgobmnjphaa
