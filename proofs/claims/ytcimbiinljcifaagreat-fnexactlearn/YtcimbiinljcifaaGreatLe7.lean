/-
  A node's own: what it is, what it hears and what it knows, as a value.
  laws.szSelf, toSelf, eqSelf: their contracts.
  spec.SameKey, spec.SameBody: their contracts.
  impl.Record.key, impl.SameKey: their contracts.
  spec.l01In: its contract.
-/
import Derived.Test.YtcimbiinljcifaaGreatLe2
import Derived.Test.YtcimbiinljcifaaGreatLe5
import Derived.Test.YtcimbiinljcifaaGreatLe6
import Derived.Test.YtcimbiinljcifaaGreatLe3
import Derived.Laws.StructEq
import Derived.Deep.RegionHeld3
import Derived.ChangeKeysEq
import Derived.Test.YtcimbiinljcifaaGreatLe1
namespace Go.Proofs.YtcimbiinljcifaaGreat
open Go.RowKit

structure SelfD where
  id : Int
  boot : Int
  net : NetD
  heard : List Int

abbrev selfV (x : SelfD) (v1 v2 v3 v4 : Value) : Value := .agg #[.int .i64 x.id, .int .i64 x.boot, .int .i64 x.net.n, v1, v2, v3, v4]

/-- a node to read -/
structure SelfIn (W : World) (v1 v2 v3 v4 : Value) (x : SelfD) (ps : List RP) (B : Nat) : Prop where
  links : LinksAt W v1 x.net.ls B
  things : ThingsAt W v2 x.net.ts B
  heard : HopsAt W v3 x.heard B
  store : RecsAt W v4 ps B

def SelfAt (W : World) (v : Value) (x : SelfD) (ps : List RP) (B : Nat) : Prop := ∃ v1 v2 v3 v4, v = selfV x v1 v2 v3 v4 ∧ LinksAt W v1 x.net.ls B ∧ ThingsAt W v2 x.net.ts B ∧ HopsAt W v3 x.heard B ∧ RecsAt W v4 ps B

def SelfLen (x : SelfD) (ps : List RP) : Prop := x.net.ls.length ≤ maxLen ∧ x.net.ts.length ≤ maxLen ∧ x.heard.length ≤ maxLen ∧ ps.length ≤ maxLen ∧ ∀ p ∈ ps, p.1.near.length ≤ maxLen

theorem SelfAt.in {W : World} {v : Value} {x : SelfD} {ps : List RP} {B : Nat} (h : SelfAt W v x ps B) : ∃ v1 v2 v3 v4, v = selfV x v1 v2 v3 v4 ∧ SelfIn W v1 v2 v3 v4 x ps B := by
  obtain ⟨v1, v2, v3, v4, h0, h1, h2, h3, h4⟩ := h
  exact ⟨v1, v2, v3, v4, h0, h1, h2, h3, h4⟩

theorem SelfIn.later {W W' : World} {v1 v2 v3 v4 : Value} {x : SelfD} {ps : List RP} {B C : Nat} (h : SelfIn W v1 v2 v3 v4 x ps B) (hb : Below C W W') (hBC : B ≤ C) : SelfIn W' v1 v2 v3 v4 x ps B :=
  ⟨RowAt.later h.links hb hBC, RowAt.later h.things hb hBC, RowAt.later h.heard hb hBC, h.store.later hb hBC⟩

theorem SelfIn.more {W : World} {v1 v2 v3 v4 : Value} {x : SelfD} {ps : List RP} {B C : Nat} (h : SelfIn W v1 v2 v3 v4 x ps B) (hBC : B ≤ C) : SelfIn W v1 v2 v3 v4 x ps C :=
  ⟨RowAt.more h.links hBC, RowAt.more h.things hBC, RowAt.more h.heard hBC, h.store.more hBC⟩

theorem SelfIn.then {W W' : World} {v1 v2 v3 v4 : Value} {x : SelfD} {ps : List RP} (h : SelfIn W v1 v2 v3 v4 x ps W.heap.size) (hb : Below W.heap.size W W') : SelfIn W' v1 v2 v3 v4 x ps W'.heap.size := (h.later hb (Nat.le_refl _)).more hb.size

/-- how many numbers it has -/
def totS (x : SelfD) (ps : List RP) : Nat := x.net.ls.length + x.net.ts.length + x.heard.length + tot ps

/-- a node of the caller's own: its net, what it hears and its store lie in blocks of their own, one behind another -/
structure SelfOwn (W : World) (lo hi : Nat) (v1 v2 v3 v4 : Value) (x : SelfD) (ps : List RP) (m1 m2 : Nat) : Prop where
  o1 : lo ≤ m1
  o2 : m1 ≤ m2
  o3 : m2 ≤ hi
  links : W.ownsRow lo 127 4 v1 x.net.ls.length (flat lkE x.net.ls)
  ltop : ∀ k, v1.ownBlock = some k → k < m1
  things : W.ownsRow lo 131 4 v2 x.net.ts.length (flat thE x.net.ts)
  ttop : ∀ k, v2.ownBlock = some k → k < m1
  heard : IntsOwn W m1 m2 v3 x.heard
  store : RecsOwn W m2 hi v4 ps

theorem rowAt_own {α : Type} {enc : α → List Value} {W : World} {lo hi sz : Nat} {t : TypeId} {v : Value} {l : List α} (h : W.ownsRow lo t sz v l.length (flat enc l)) (ht : ∀ k, v.ownBlock = some k → k < hi) : StructsAt enc sz W v l hi := by
  obtain ⟨a, cap, hv, h2⟩ := owns_rowAt h
  refine ⟨a, cap, hv, ?_⟩
  rcases h2 with h0 | ⟨b, off, ha, hb1, hx⟩
  · exact .inl h0
  · exact .inr ⟨b, off, ha, ht b (by rw [hv, ha]; rfl), hx⟩

theorem SelfOwn.in {W : World} {lo hi m1 m2 : Nat} {v1 v2 v3 v4 : Value} {x : SelfD} {ps : List RP} (h : SelfOwn W lo hi v1 v2 v3 v4 x ps m1 m2) : SelfIn W v1 v2 v3 v4 x ps hi where
  links := RowAt.more (rowAt_own h.links h.ltop) (Nat.le_trans h.o2 h.o3)
  things := RowAt.more (rowAt_own h.things h.ttop) (Nat.le_trans h.o2 h.o3)
  heard := RowAt.more h.heard.at h.o3
  store := h.store.at

theorem SelfOwn.keep {W W' : World} {lo hi m1 m2 : Nat} {v1 v2 v3 v4 : Value} {x : SelfD} {ps : List RP} (h : SelfOwn W lo hi v1 v2 v3 v4 x ps m1 m2) (hk : ∀ k, lo ≤ k → k < hi → k < W.heap.size → W'.heap[k]? = W.heap[k]?) : SelfOwn W' lo hi v1 v2 v3 v4 x ps m1 m2 where
  o1 := h.o1
  o2 := h.o2
  o3 := h.o3
  links := owns_keepB h.links (fun k e => by have h1 := h.links.lt k e; have h2 := h.ltop k e; have := h.o2; have := h.o3; exact hk k h1.1 (by omega) h1.2)
  ltop := h.ltop
  things := owns_keepB h.things (fun k e => by have h1 := h.things.lt k e; have h2 := h.ttop k e; have := h.o2; have := h.o3; exact hk k h1.1 (by omega) h1.2)
  ttop := h.ttop
  heard := h.heard.keep (fun k a b c => by have := h.o1; have := h.o3; exact hk k (by omega) (by omega) c)
  store := h.store.keep (fun k a b c => by have := h.o1; have := h.o2; exact hk k (by omega) b c)

theorem SelfOwn.below {W W' : World} {lo hi m1 m2 B : Nat} {v1 v2 v3 v4 : Value} {x : SelfD} {ps : List RP} (h : SelfOwn W lo hi v1 v2 v3 v4 x ps m1 m2) (hb : Below B W W') (hB : hi ≤ B) : SelfOwn W' lo hi v1 v2 v3 v4 x ps m1 m2 := h.keep (fun k _ h2 _ => hb.block k (by omega))

theorem SelfOwn.frame {W W' : World} {lo hi m1 m2 l2 h2 : Nat} {v1 v2 v3 v4 : Value} {x : SelfD} {ps : List RP} (h : SelfOwn W lo hi v1 v2 v3 v4 x ps m1 m2) (hb : Frame l2 h2 W W') (hB : hi ≤ l2 ∨ h2 ≤ lo) : SelfOwn W' lo hi v1 v2 v3 v4 x ps m1 m2 := h.keep (fun k a b c => hb.block k c (by omega))

theorem SelfOwn.low {W : World} {lo lo' hi m1 m2 : Nat} {v1 v2 v3 v4 : Value} {x : SelfD} {ps : List RP} (h : SelfOwn W lo hi v1 v2 v3 v4 x ps m1 m2) (hl : lo' ≤ lo) : SelfOwn W lo' hi v1 v2 v3 v4 x ps m1 m2 :=
  ⟨Nat.le_trans hl h.o1, h.o2, h.o3, owns_baseS h.links hl, h.ltop, owns_baseS h.things hl, h.ttop, h.heard, h.store⟩

theorem SelfOwn.high {W : World} {lo hi hi' m1 m2 : Nat} {v1 v2 v3 v4 : Value} {x : SelfD} {ps : List RP} (h : SelfOwn W lo hi v1 v2 v3 v4 x ps m1 m2) (hl : hi ≤ hi') : SelfOwn W lo hi' v1 v2 v3 v4 x ps m1 m2 :=
  ⟨h.o1, h.o2, Nat.le_trans h.o3 hl, h.links, h.ltop, h.things, h.ttop, h.heard, h.store.wide (Nat.le_refl _) hl⟩

/-- a node whose rows are whole blocks, below hi (they may be shared) -/
structure SelfSrc (W : World) (hi : Nat) (v1 v2 v3 v4 : Value) (x : SelfD) (ps : List RP) : Prop where
  links : W.ownsRow 0 127 4 v1 x.net.ls.length (flat lkE x.net.ls)
  ltop : ∀ k, v1.ownBlock = some k → k < hi
  things : W.ownsRow 0 131 4 v2 x.net.ts.length (flat thE x.net.ts)
  ttop : ∀ k, v2.ownBlock = some k → k < hi
  heard : W.ownsRow 0 3 1 v3 x.heard.length (flat intE x.heard)
  htop : ∀ k, v3.ownBlock = some k → k < hi
  store : RecsIn W hi v4 ps

theorem SelfOwn.src {W : World} {lo hi m1 m2 : Nat} {v1 v2 v3 v4 : Value} {x : SelfD} {ps : List RP} (h : SelfOwn W lo hi v1 v2 v3 v4 x ps m1 m2) : SelfSrc W hi v1 v2 v3 v4 x ps where
  links := owns_baseS h.links (Nat.zero_le _)
  ltop := fun k e => by have := h.ltop k e; have := h.o2; have := h.o3; omega
  things := owns_baseS h.things (Nat.zero_le _)
  ttop := fun k e => by have := h.ttop k e; have := h.o2; have := h.o3; omega
  heard := owns_baseS h.heard.row (Nat.zero_le _)
  htop := fun k e => by have := h.heard.top k e; have := h.o3; omega
  store := h.store.in

theorem SelfSrc.below {W W' : World} {hi B : Nat} {v1 v2 v3 v4 : Value} {x : SelfD} {ps : List RP} (h : SelfSrc W hi v1 v2 v3 v4 x ps) (hb : Below B W W') (hB : hi ≤ B) : SelfSrc W' hi v1 v2 v3 v4 x ps where
  links := owns_keepB h.links (fun k e => hb.block k (by have := h.ltop k e; omega))
  ltop := h.ltop
  things := owns_keepB h.things (fun k e => hb.block k (by have := h.ttop k e; omega))
  ttop := h.ttop
  heard := owns_keepB h.heard (fun k e => hb.block k (by have := h.htop k e; omega))
  htop := h.htop
  store := h.store.below hb hB

theorem SelfSrc.in {W : World} {hi : Nat} {v1 v2 v3 v4 : Value} {x : SelfD} {ps : List RP} (h : SelfSrc W hi v1 v2 v3 v4 x ps) : SelfIn W v1 v2 v3 v4 x ps hi where
  links := rowAt_own h.links h.ltop
  things := rowAt_own h.things h.ttop
  heard := rowAt_own h.heard h.htop
  store := h.store.at
end Go.Proofs.YtcimbiinljcifaaGreat
namespace Go.Proofs.YtcimbiinljcifaaGreat
open Go.RowKit

theorem SelfIn.net {W : World} {v1 v2 v3 v4 : Value} {x : SelfD} {ps : List RP} {B : Nat} (h : SelfIn W v1 v2 v3 v4 x ps B) : NetAt W (.agg #[.int .i64 x.net.n, v1, v2]) x.net B := ⟨v1, v2, rfl, h.links, h.things⟩

theorem SelfIn.shapes {W : World} {v1 v2 v3 v4 : Value} {x : SelfD} {ps : List RP} {B : Nat} (h : SelfIn W v1 v2 v3 v4 x ps B) : (∃ a c, v1 = .slice a x.net.ls.length c) ∧ (∃ a c, v2 = .slice a x.net.ts.length c) ∧ (∃ a c, v3 = .slice a x.heard.length c) ∧ ∃ a c, v4 = .slice a ps.length c :=
  ⟨h.links.shape, h.things.shape, h.heard.shape, h.store.shape⟩

set_option maxRecDepth 100000 in
set_option maxHeartbeats 1000000 in
theorem szSelf_any (v1 v2 v3 v4 : Value) (x : SelfD) (ps : List RP) (q : Int) (w : World) (hlen : SelfLen x ps) (hq0 : 0 ≤ q) (hq : q ≤ 1048576) (hv : SelfIn w v1 v2 v3 v4 x ps w.heap.size) :
    Calls Tryz.prog 14 #[selfV x v1 v2 v3 v4, .int .i64 q] w fun e w' => ∃ r : Int, e = .returned (.int .i64 r) ∧ (r < 0 ∨ (0 ≤ r ∧ r = q - (totS x ps : Int))) ∧ Below w.heap.size w w' := by
  obtain ⟨⟨a1, c1, rfl⟩, ⟨a2, c2, rfl⟩, ⟨a3, c3, rfl⟩, ⟨a4, c4, rfl⟩⟩ := hv.shapes
  have hm : maxLen = 9223372036854775807 := rfl
  have l1 : (x.net.ls.length : Int) ≤ 9223372036854775807 := by have := hlen.1; omega
  have l2 : (x.net.ts.length : Int) ≤ 9223372036854775807 := by have := hlen.2.1; omega
  have l3 : (x.heard.length : Int) ≤ 9223372036854775807 := by have := hlen.2.2.1; omega
  have HX := hide hv
  have HL := hide hlen
  have HT := hide (show (totS x ps : Int) = (x.net.ls.length : Int) + (x.net.ts.length : Int) + (x.heard.length : Int) + (tot ps : Int) by unfold totS; omega)
  have hsz := szNet_any (.int .i64 x.net.n) a1 a2 x.net.ls.length x.net.ts.length c1 c2 q
  have HSZ := hide hsz
  clear hv hlen hm hsz
  obtain ⟨y, hy⟩ : ∃ y, y = szN q x.net.ls.length x.net.ts.length := ⟨_, rfl⟩
  rw [← hy] at HSZ
  have hy2 : y = -1 ∨ (0 ≤ y ∧ y = q - (x.net.ls.length : Int) - (x.net.ts.length : Int)) := by
    rw [hy]
    unfold szN
    split
    · exact .inl rfl
    · split
      · exact .inl rfl
      · exact .inr ⟨by omega, rfl⟩
  clear hy
  go_enter Tryz.func14, Tryz.ntmps14
  go_wp2_with fail
  refine (HSZ.out _ l1 l2 hq0 hq).mono ?_
  rintro e w1 ⟨rfl, b1⟩
  have g1 : w1.heap[w.heap.size]? = some (.cells #[.int .i64 x.id, .int .i64 x.boot, .int .i64 x.net.n, .slice a1 x.net.ls.length c1, .slice a2 x.net.ts.length c2, .slice a3 x.heard.length c3, .slice a4 ps.length c4] 49) := by rw [b1.block _ (by simp)]; exact heap_alloc_new w _
  have B1 : Below w.heap.size w w1 := ((Below.refl _ _).alloc (Nat.le_refl _) _).trans (b1.mono (by simp))
  clear b1
  rcases hy2 with hy2 | ⟨hy0, hy2⟩
  · subst hy2
    go_wp2
    go_ret
    exact ⟨-1, rfl, .inl (by omega), B1⟩
  have hy1 : ¬ y < 0 := by omega
  have hyq : y ≤ 1048576 := by omega
  have HY2 := hide hy2
  clear hy2
  have s5 := cells_at g1 5
  simp at s5
  have HSI := hide (szIntS_any a3 x.heard.length c3 y w1 l3 hy0 hyq)
  have G1 := hide g1
  clear g1
  go_wp2_with fail
  refine HSI.out.mono ?_
  rintro e w2 ⟨rfl, rfl⟩
  by_cases h3 : y - (x.heard.length : Int) < 0
  · rw [if_pos h3]
    clear s5
    go_wp2
    go_ret
    exact ⟨-1, rfl, .inl (by omega), B1⟩
  rw [if_neg h3]
  clear s5
  obtain ⟨z, hz⟩ : ∃ z, z = y - (x.heard.length : Int) := ⟨_, rfl⟩
  rw [← hz] at h3 ⊢
  have hz0 : 0 ≤ z := by omega
  have hz1 : z ≤ 1048576 := by omega
  have HZ := hide hz
  clear hz
  have g1 := G1.out
  have s6 := cells_at g1 6
  simp at s6
  have HSR := hide (szRecordS_any (.slice a4 ps.length c4) ps z w1 HL.out.2.2.2.1 HL.out.2.2.2.2 hz0 hz1 ((HX.out.store.later B1 (Nat.le_refl _)).more B1.size))
  clear g1
  go_wp2_with fail
  refine HSR.out.mono ?_
  rintro e w3 ⟨r, rfl, hr, b3⟩
  have B3 : Below w.heap.size w w3 := B1.trans (b3.mono B1.size)
  clear b3 s6
  rcases hr with hr | ⟨hr0, hr⟩
  · go_wp2
    go_ret
    exact ⟨-1, rfl, .inl (by omega), B3⟩
  · have hr1 : ¬ r < 0 := by omega
    have HR := hide hr
    clear hr
    go_wp2
    go_ret
    exact ⟨r, rfl, .inr ⟨hr0, by rw [HT.out]; have := HR.out; have := HZ.out; have := HY2.out; omega⟩, B3⟩

set_option maxRecDepth 100000 in
set_option maxHeartbeats 2000000 in
theorem toSelf_any (v1 v2 v3 v4 : Value) (x : SelfD) (ps : List RP) (w : World) (ht : totS x ps ≤ 1048576) (hv : SelfIn w v1 v2 v3 v4 x ps w.heap.size) :
    Calls Tryz.prog 16 #[selfV x v1 v2 v3 v4] w fun e w' => ∃ u1 u2 u3 u4 qs m1 m2, e = .returned (selfV x u1 u2 u3 u4) ∧ fsts qs = fsts ps ∧ SelfOwn w' w.heap.size w'.heap.size u1 u2 u3 u4 x qs m1 m2 ∧ Below w.heap.size w w' := by
  obtain ⟨⟨a1, c1, rfl⟩, ⟨a2, c2, rfl⟩, ⟨a3, c3, rfl⟩, ⟨a4, c4, rfl⟩⟩ := hv.shapes
  have hlL : x.net.ls.length ≤ 1048576 := by unfold totS at ht; omega
  have hlT : x.net.ts.length ≤ 1048576 := by unfold totS at ht; omega
  have hlH : x.heard.length ≤ 1048576 := by unfold totS at ht; omega
  have hlR : tot ps ≤ 1048576 := by unfold totS at ht; omega
  have HX := hide hv
  clear hv ht
  go_enter Tryz.func16, Tryz.ntmps16
  go_wp2_with fail
  have hw0 := heap3_0 w (.cells #[.int .i64 x.id, .int .i64 x.boot, .int .i64 x.net.n, .slice a1 x.net.ls.length c1, .slice a2 x.net.ts.length c2, .slice a3 x.heard.length c3, .slice a4 ps.length c4] 49) (.cells #[.int .i64 0, .int .i64 0, .int .i64 0, .slice none 0 0, .slice none 0 0, .slice none 0 0, .slice none 0 0] 31) (.cells #[.int .i64 x.id, .int .i64 x.boot, .int .i64 0, .slice none 0 0, .slice none 0 0, .slice none 0 0, .slice none 0 0] 31)
  have hw1 := heap3_1 w (.cells #[.int .i64 x.id, .int .i64 x.boot, .int .i64 x.net.n, .slice a1 x.net.ls.length c1, .slice a2 x.net.ts.length c2, .slice a3 x.heard.length c3, .slice a4 ps.length c4] 49) (.cells #[.int .i64 0, .int .i64 0, .int .i64 0, .slice none 0 0, .slice none 0 0, .slice none 0 0, .slice none 0 0] 31) (.cells #[.int .i64 x.id, .int .i64 x.boot, .int .i64 0, .slice none 0 0, .slice none 0 0, .slice none 0 0, .slice none 0 0] 31)
  have hw2 := heap3_2 w (.cells #[.int .i64 x.id, .int .i64 x.boot, .int .i64 x.net.n, .slice a1 x.net.ls.length c1, .slice a2 x.net.ts.length c2, .slice a3 x.heard.length c3, .slice a4 ps.length c4] 49) (.cells #[.int .i64 0, .int .i64 0, .int .i64 0, .slice none 0 0, .slice none 0 0, .slice none 0 0, .slice none 0 0] 31) (.cells #[.int .i64 x.id, .int .i64 x.boot, .int .i64 0, .slice none 0 0, .slice none 0 0, .slice none 0 0, .slice none 0 0] 31)
  have bw := below_three (w := w) (.cells #[.int .i64 x.id, .int .i64 x.boot, .int .i64 x.net.n, .slice a1 x.net.ls.length c1, .slice a2 x.net.ts.length c2, .slice a3 x.heard.length c3, .slice a4 ps.length c4] 49) (.cells #[.int .i64 0, .int .i64 0, .int .i64 0, .slice none 0 0, .slice none 0 0, .slice none 0 0, .slice none 0 0] 31) (.cells #[.int .i64 x.id, .int .i64 x.boot, .int .i64 0, .slice none 0 0, .slice none 0 0, .slice none 0 0, .slice none 0 0] 31)
  generalize (((w.alloc (.cells #[.int .i64 x.id, .int .i64 x.boot, .int .i64 x.net.n, .slice a1 x.net.ls.length c1, .slice a2 x.net.ts.length c2, .slice a3 x.heard.length c3, .slice a4 ps.length c4] 49)).alloc (.cells #[.int .i64 0, .int .i64 0, .int .i64 0, .slice none 0 0, .slice none 0 0, .slice none 0 0, .slice none 0 0] 31)).alloc (.cells #[.int .i64 x.id, .int .i64 x.boot, .int .i64 0, .slice none 0 0, .slice none 0 0, .slice none 0 0, .slice none 0 0] 31)) = w1 at *
  refine (toNet_any _ x.net w1 hlL hlT (HX.out.then bw).net).mono ?_
  rintro e w2 ⟨p1, p2, rfl, ho1, ho2, b2⟩
  obtain ⟨p1a, p1c, rfl⟩ := owns_lenS ho1
  obtain ⟨p2a, p2c, rfl⟩ := owns_lenS ho2
  have l2 := lt_of_heap hw2
  rw [← b2.block _ (lt_of_heap hw0)] at hw0
  rw [← b2.block _ (lt_of_heap hw1)] at hw1
  rw [← b2.block _ l2] at hw2
  have hb12 : w.heap.size ≤ w1.heap.size := bw.size
  have hb22 : w1.heap.size ≤ w2.heap.size := b2.size
  have bw2 : Below w.heap.size w w2 := bw.trans (b2.mono hb12)
  have s2 := cells_at hw2 2
  have s3 := cells_at hw2 3
  have s4 := cells_at hw2 4
  simp at s2 s3 s4
  have t5 := cells_at hw0 5
  simp at t5
  have f2 := frozen_at hw2 2
  have f3 := frozen_at hw2 3
  have f4 := frozen_at hw2 4
  have O1 := hide ho1
  have O2 := hide ho2
  have HW0 := hide hw0
  have HW1 := hide hw1
  have HW2 := hide hw2
  clear ho1 ho2 hw0 hw1 hw2

  go_wp2_with fail
  have o1 := owns_set (p := w.heap.size + 1 + 1) (j := 4) (u := .slice p2a x.net.ts.length p2c) (owns_set (p := w.heap.size + 1 + 1) (j := 3) (u := .slice p1a x.net.ls.length p1c) (owns_set (p := w.heap.size + 1 + 1) (j := 2) (u := .int .i64 x.net.n) O1.out (by omega)) (by omega)) (by omega)
  have o2 := owns_set (p := w.heap.size + 1 + 1) (j := 4) (u := .slice p2a x.net.ts.length p2c) (owns_set (p := w.heap.size + 1 + 1) (j := 3) (u := .slice p1a x.net.ls.length p1c) (owns_set (p := w.heap.size + 1 + 1) (j := 2) (u := .int .i64 x.net.n) O2.out (by omega)) (by omega)) (by omega)
  have q0 : (((w2.setCell ⟨w.heap.size + 1 + 1, 2, none⟩ (.int .i64 x.net.n)).setCell ⟨w.heap.size + 1 + 1, 3, none⟩ (.slice p1a x.net.ls.length p1c)).setCell ⟨w.heap.size + 1 + 1, 4, none⟩ (.slice p2a x.net.ts.length p2c)).heap[w.heap.size]? = some (.cells #[.int .i64 x.id, .int .i64 x.boot, .int .i64 x.net.n, .slice a1 x.net.ls.length c1, .slice a2 x.net.ts.length c2, .slice a3 x.heard.length c3, .slice a4 ps.length c4] 49) := by
    rw [heap_setCell_other _ ⟨w.heap.size + 1 + 1, 4, none⟩ _ _ (by show w.heap.size ≠ w.heap.size + 1 + 1; omega), heap_setCell_other _ ⟨w.heap.size + 1 + 1, 3, none⟩ _ _ (by show w.heap.size ≠ w.heap.size + 1 + 1; omega), heap_setCell_other _ ⟨w.heap.size + 1 + 1, 2, none⟩ _ _ (by show w.heap.size ≠ w.heap.size + 1 + 1; omega)]
    exact HW0.out
  have q1 : (((w2.setCell ⟨w.heap.size + 1 + 1, 2, none⟩ (.int .i64 x.net.n)).setCell ⟨w.heap.size + 1 + 1, 3, none⟩ (.slice p1a x.net.ls.length p1c)).setCell ⟨w.heap.size + 1 + 1, 4, none⟩ (.slice p2a x.net.ts.length p2c)).heap[w.heap.size + 1]? = some (.cells #[.int .i64 0, .int .i64 0, .int .i64 0, .slice none 0 0, .slice none 0 0, .slice none 0 0, .slice none 0 0] 31) := by
    rw [heap_setCell_other _ ⟨w.heap.size + 1 + 1, 4, none⟩ _ _ (by show w.heap.size + 1 ≠ w.heap.size + 1 + 1; omega), heap_setCell_other _ ⟨w.heap.size + 1 + 1, 3, none⟩ _ _ (by show w.heap.size + 1 ≠ w.heap.size + 1 + 1; omega), heap_setCell_other _ ⟨w.heap.size + 1 + 1, 2, none⟩ _ _ (by show w.heap.size + 1 ≠ w.heap.size + 1 + 1; omega)]
    exact HW1.out
  have q2 : (((w2.setCell ⟨w.heap.size + 1 + 1, 2, none⟩ (.int .i64 x.net.n)).setCell ⟨w.heap.size + 1 + 1, 3, none⟩ (.slice p1a x.net.ls.length p1c)).setCell ⟨w.heap.size + 1 + 1, 4, none⟩ (.slice p2a x.net.ts.length p2c)).heap[w.heap.size + 1 + 1]? = some (.cells #[.int .i64 x.id, .int .i64 x.boot, .int .i64 x.net.n, .slice p1a x.net.ls.length p1c, .slice p2a x.net.ts.length p2c, .slice none 0 0, .slice none 0 0] 31) := by
    have k0 := heap_setCell_same _ _ 2 _ _ (.int .i64 x.net.n) HW2.out
    have k1 := heap_setCell_same _ _ 3 _ _ (.slice p1a x.net.ls.length p1c) k0
    exact heap_setCell_same _ _ 4 _ _ (.slice p2a x.net.ts.length p2c) k1
  have bw3 : Below w.heap.size w (((w2.setCell ⟨w.heap.size + 1 + 1, 2, none⟩ (.int .i64 x.net.n)).setCell ⟨w.heap.size + 1 + 1, 3, none⟩ (.slice p1a x.net.ls.length p1c)).setCell ⟨w.heap.size + 1 + 1, 4, none⟩ (.slice p2a x.net.ts.length p2c)) := ((bw2.setCell (by show w.heap.size ≤ w.heap.size + 1 + 1; omega) _).setCell (by show w.heap.size ≤ w.heap.size + 1 + 1; omega) _).setCell (by show w.heap.size ≤ w.heap.size + 1 + 1; omega) _
  have z3 : (((w2.setCell ⟨w.heap.size + 1 + 1, 2, none⟩ (.int .i64 x.net.n)).setCell ⟨w.heap.size + 1 + 1, 3, none⟩ (.slice p1a x.net.ls.length p1c)).setCell ⟨w.heap.size + 1 + 1, 4, none⟩ (.slice p2a x.net.ts.length p2c)).heap.size = w2.heap.size := by simp
  generalize (((w2.setCell ⟨w.heap.size + 1 + 1, 2, none⟩ (.int .i64 x.net.n)).setCell ⟨w.heap.size + 1 + 1, 3, none⟩ (.slice p1a x.net.ls.length p1c)).setCell ⟨w.heap.size + 1 + 1, 4, none⟩ (.slice p2a x.net.ts.length p2c)) = w3 at *
  clear s2 s3 s4 t5 f2 f3 f4 HW0 HW1 HW2 O1 O2
  refine (toIntS_any _ x.heard w3 hlH (HX.out.heard.then bw3)).mono ?_
  rintro e w4 ⟨p3, rfl, ho3, b4⟩
  obtain ⟨p3a, p3c, rfl⟩ := owns_lenS ho3
  have hl3 := lt_of_heap q2
  rw [← b4.block _ (lt_of_heap q0)] at q0
  rw [← b4.block _ (lt_of_heap q1)] at q1
  rw [← b4.block _ hl3] at q2
  have hz4 := b4.size
  have bw4 : Below w.heap.size w w4 := bw3.trans (b4.mono bw3.size)
  have O1 := hide (owns_below o1 b4 (by omega))
  have O2 := hide (owns_below o2 b4 (by omega))
  have L1 := hide (show ∀ k, (Value.slice p1a x.net.ls.length p1c).ownBlock = some k → k < w3.heap.size from fun k hk => (o1.lt k hk).2)
  have L2 := hide (show ∀ k, (Value.slice p2a x.net.ts.length p2c).ownBlock = some k → k < w3.heap.size from fun k hk => (o2.lt k hk).2)
  have O3 := hide ho3
  have HW0 := hide q0
  have HW1 := hide q1
  have HW2 := hide q2
  have s5 := cells_at q2 5
  have f5 := frozen_at q2 5
  have t6 := cells_at q0 6
  simp at s5 t6
  clear o1 o2 ho3 q0 q1 q2
  go_wp2_with fail
  have o1 := owns_set (p := w.heap.size + 1 + 1) (j := 5) (u := .slice p3a x.heard.length p3c) O1.out (by omega)
  have o2 := owns_set (p := w.heap.size + 1 + 1) (j := 5) (u := .slice p3a x.heard.length p3c) O2.out (by omega)
  have o3 := owns_set (p := w.heap.size + 1 + 1) (j := 5) (u := .slice p3a x.heard.length p3c) O3.out (by omega)
  have q1 : (w4.setCell ⟨w.heap.size + 1 + 1, 5, none⟩ (.slice p3a x.heard.length p3c)).heap[w.heap.size + 1]? = some (.cells #[.int .i64 0, .int .i64 0, .int .i64 0, .slice none 0 0, .slice none 0 0, .slice none 0 0, .slice none 0 0] 31) := by
    rw [heap_setCell_other _ ⟨w.heap.size + 1 + 1, 5, none⟩ _ _ (by show w.heap.size + 1 ≠ w.heap.size + 1 + 1; omega)]
    exact HW1.out
  have q2 : (w4.setCell ⟨w.heap.size + 1 + 1, 5, none⟩ (.slice p3a x.heard.length p3c)).heap[w.heap.size + 1 + 1]? = some (.cells #[.int .i64 x.id, .int .i64 x.boot, .int .i64 x.net.n, .slice p1a x.net.ls.length p1c, .slice p2a x.net.ts.length p2c, .slice p3a x.heard.length p3c, .slice none 0 0] 31) := heap_setCell_same _ _ 5 _ _ (.slice p3a x.heard.length p3c) HW2.out
  have bw5 : Below w.heap.size w (w4.setCell ⟨w.heap.size + 1 + 1, 5, none⟩ (.slice p3a x.heard.length p3c)) := bw4.setCell (by show w.heap.size ≤ w.heap.size + 1 + 1; omega) _
  have z5 : (w4.setCell ⟨w.heap.size + 1 + 1, 5, none⟩ (.slice p3a x.heard.length p3c)).heap.size = w4.heap.size := by simp
  generalize (w4.setCell ⟨w.heap.size + 1 + 1, 5, none⟩ (.slice p3a x.heard.length p3c)) = w5 at *
  clear s5 t6 f5 HW0 HW1 HW2 O1 O2 O3
  refine (toRecordS_any _ ps w5 (Nat.le_trans (tot_len ps) hlR) (fun _ hp => Nat.le_trans (tot_mem hp) hlR) (HX.out.store.then bw5)).mono ?_
  rintro e w6 ⟨p4, qs, rfl, fq, ho4, b6⟩
  obtain ⟨p4a, p4c, rfl⟩ := owns_lenS ho4.row
  have hl5 := lt_of_heap q2
  rw [← b6.block _ (lt_of_heap q1)] at q1
  rw [← b6.block _ hl5] at q2
  have hz6 := b6.size
  have bw6 : Below w.heap.size w w6 := bw5.trans (b6.mono bw5.size)
  have hl6 := lt_of_heap q2
  have OW := hide (show SelfOwn w6 w1.heap.size w6.heap.size (.slice p1a x.net.ls.length p1c) (.slice p2a x.net.ts.length p2c) (.slice p3a x.heard.length p3c) (.slice p4a qs.length p4c) x qs w3.heap.size w5.heap.size from
    { o1 := by omega
      o2 := by omega
      o3 := by omega
      links := owns_below o1 b6 (by omega)
      ltop := L1.out
      things := owns_below o2 b6 (by omega)
      ttop := L2.out
      heard := ⟨owns_baseS (owns_below o3 b6 (by omega)) (by omega), fun k hk => (o3.lt k hk).2⟩
      store := ho4 })
  have FQ := hide fq
  have r0 := cells_at q1 0
  have r1 := cells_at q1 1
  have r2 := cells_at q1 2
  have r3 := cells_at q1 3
  have r4 := cells_at q1 4
  have r5 := cells_at q1 5
  have r6 := cells_at q1 6
  have t0 := cells_at q2 0
  have t1 := cells_at q2 1
  have t2 := cells_at q2 2
  have t3 := cells_at q2 3
  have t4 := cells_at q2 4
  have t5 := cells_at q2 5
  have t6 := cells_at q2 6
  have fz0 := frozen_at q1 0
  have fz1 := frozen_at q1 1
  have fz2 := frozen_at q1 2
  have fz3 := frozen_at q1 3
  have fz4 := frozen_at q1 4
  have fz5 := frozen_at q1 5
  have fz6 := frozen_at q1 6
  have e6 := frozen_at q2 6
  simp at r0 r1 r2 r3 r4 r5 r6 t0 t1 t2 t3 t4 t5 t6
  have Q1 := hide q1
  have Q2 := hide q2
  clear o1 o2 o3 ho4 q1 q2 L1 L2 fq
  go_wp2
  have hfin : ((((((((w6.setCell ⟨w.heap.size + 1 + 1, 6, none⟩ (.slice p4a qs.length p4c)).setCell ⟨w.heap.size + 1, 0, none⟩ (.int .i64 x.id)).setCell ⟨w.heap.size + 1, 1, none⟩ (.int .i64 x.boot)).setCell ⟨w.heap.size + 1, 2, none⟩ (.int .i64 x.net.n)).setCell ⟨w.heap.size + 1, 3, none⟩ (.slice p1a x.net.ls.length p1c)).setCell ⟨w.heap.size + 1, 4, none⟩ (.slice p2a x.net.ts.length p2c)).setCell ⟨w.heap.size + 1, 5, none⟩ (.slice p3a x.heard.length p3c)).setCell ⟨w.heap.size + 1, 6, none⟩ (.slice p4a qs.length p4c)).heap[w.heap.size + 1]? = some (.cells #[.int .i64 x.id, .int .i64 x.boot, .int .i64 x.net.n, .slice p1a x.net.ls.length p1c, .slice p2a x.net.ts.length p2c, .slice p3a x.heard.length p3c, .slice p4a qs.length p4c] 31) := by
    have k0 : (w6.setCell ⟨w.heap.size + 1 + 1, 6, none⟩ (.slice p4a qs.length p4c)).heap[w.heap.size + 1]? = some (.cells #[.int .i64 0, .int .i64 0, .int .i64 0, .slice none 0 0, .slice none 0 0, .slice none 0 0, .slice none 0 0] 31) := by
      rw [heap_setCell_other _ ⟨w.heap.size + 1 + 1, 6, none⟩ _ _ (by show w.heap.size + 1 ≠ w.heap.size + 1 + 1; omega)]
      exact Q1.out
    have k1 := heap_setCell_same _ _ 0 _ _ (.int .i64 x.id) k0
    have k2 := heap_setCell_same _ _ 1 _ _ (.int .i64 x.boot) k1
    have k3 := heap_setCell_same _ _ 2 _ _ (.int .i64 x.net.n) k2
    have k4 := heap_setCell_same _ _ 3 _ _ (.slice p1a x.net.ls.length p1c) k3
    have k5 := heap_setCell_same _ _ 4 _ _ (.slice p2a x.net.ts.length p2c) k4
    have k6 := heap_setCell_same _ _ 5 _ _ (.slice p3a x.heard.length p3c) k5
    have k7 := heap_setCell_same _ _ 6 _ _ (.slice p4a qs.length p4c) k6
    exact k7
  have hkeep : ∀ k, w1.heap.size ≤ k → ((((((((w6.setCell ⟨w.heap.size + 1 + 1, 6, none⟩ (.slice p4a qs.length p4c)).setCell ⟨w.heap.size + 1, 0, none⟩ (.int .i64 x.id)).setCell ⟨w.heap.size + 1, 1, none⟩ (.int .i64 x.boot)).setCell ⟨w.heap.size + 1, 2, none⟩ (.int .i64 x.net.n)).setCell ⟨w.heap.size + 1, 3, none⟩ (.slice p1a x.net.ls.length p1c)).setCell ⟨w.heap.size + 1, 4, none⟩ (.slice p2a x.net.ts.length p2c)).setCell ⟨w.heap.size + 1, 5, none⟩ (.slice p3a x.heard.length p3c)).setCell ⟨w.heap.size + 1, 6, none⟩ (.slice p4a qs.length p4c)).heap[k]? = w6.heap[k]? := fun k hk => by
    rw [heap_setCell_other _ ⟨w.heap.size + 1, 6, none⟩ _ _ (by show k ≠ w.heap.size + 1; omega), heap_setCell_other _ ⟨w.heap.size + 1, 5, none⟩ _ _ (by show k ≠ w.heap.size + 1; omega), heap_setCell_other _ ⟨w.heap.size + 1, 4, none⟩ _ _ (by show k ≠ w.heap.size + 1; omega), heap_setCell_other _ ⟨w.heap.size + 1, 3, none⟩ _ _ (by show k ≠ w.heap.size + 1; omega), heap_setCell_other _ ⟨w.heap.size + 1, 2, none⟩ _ _ (by show k ≠ w.heap.size + 1; omega), heap_setCell_other _ ⟨w.heap.size + 1, 1, none⟩ _ _ (by show k ≠ w.heap.size + 1; omega), heap_setCell_other _ ⟨w.heap.size + 1, 0, none⟩ _ _ (by show k ≠ w.heap.size + 1; omega), heap_setCell_other _ ⟨w.heap.size + 1 + 1, 6, none⟩ _ _ (by show k ≠ w.heap.size + 1 + 1; omega)]
  have hsize : ((((((((w6.setCell ⟨w.heap.size + 1 + 1, 6, none⟩ (.slice p4a qs.length p4c)).setCell ⟨w.heap.size + 1, 0, none⟩ (.int .i64 x.id)).setCell ⟨w.heap.size + 1, 1, none⟩ (.int .i64 x.boot)).setCell ⟨w.heap.size + 1, 2, none⟩ (.int .i64 x.net.n)).setCell ⟨w.heap.size + 1, 3, none⟩ (.slice p1a x.net.ls.length p1c)).setCell ⟨w.heap.size + 1, 4, none⟩ (.slice p2a x.net.ts.length p2c)).setCell ⟨w.heap.size + 1, 5, none⟩ (.slice p3a x.heard.length p3c)).setCell ⟨w.heap.size + 1, 6, none⟩ (.slice p4a qs.length p4c)).heap.size = w6.heap.size := by simp
  have hbel : Below w.heap.size w ((((((((w6.setCell ⟨w.heap.size + 1 + 1, 6, none⟩ (.slice p4a qs.length p4c)).setCell ⟨w.heap.size + 1, 0, none⟩ (.int .i64 x.id)).setCell ⟨w.heap.size + 1, 1, none⟩ (.int .i64 x.boot)).setCell ⟨w.heap.size + 1, 2, none⟩ (.int .i64 x.net.n)).setCell ⟨w.heap.size + 1, 3, none⟩ (.slice p1a x.net.ls.length p1c)).setCell ⟨w.heap.size + 1, 4, none⟩ (.slice p2a x.net.ts.length p2c)).setCell ⟨w.heap.size + 1, 5, none⟩ (.slice p3a x.heard.length p3c)).setCell ⟨w.heap.size + 1, 6, none⟩ (.slice p4a qs.length p4c)) := ((((((((bw6.setCell (by show w.heap.size ≤ w.heap.size + 1 + 1; omega) _).setCell (by show w.heap.size ≤ w.heap.size + 1; omega) _).setCell (by show w.heap.size ≤ w.heap.size + 1; omega) _).setCell (by show w.heap.size ≤ w.heap.size + 1; omega) _).setCell (by show w.heap.size ≤ w.heap.size + 1; omega) _).setCell (by show w.heap.size ≤ w.heap.size + 1; omega) _).setCell (by show w.heap.size ≤ w.heap.size + 1; omega) _).setCell (by show w.heap.size ≤ w.heap.size + 1; omega) _)
  try simp only [Exit.inBlock, Exit.then]
  refine bodyPost_ret (results_cell_row rfl _ _ (w.heap.size + 1) 31 #[.int .i64 x.id, .int .i64 x.boot, .int .i64 x.net.n, .slice p1a x.net.ls.length p1c, .slice p2a x.net.ts.length p2c, .slice p3a x.heard.length p3c, .slice p4a qs.length p4c] (0, 0) _ rfl hfin Tryz.underlying31 rfl (by kernel_rfl)) rfl ?_
  exact ⟨_, _, _, _, qs, _, _, rfl, FQ.out, ((OW.out.keep (fun k h1 _ _ => hkeep k h1)).low (by omega)).high (by rw [hsize]; omega), hbel⟩

set_option maxRecDepth 100000 in
set_option maxHeartbeats 2000000 in
theorem eqSelf_any (v1 v2 v3 v4 u1 u2 u3 u4 : Value) (x : SelfD) (ps qs : List RP) (w : World) (ht : totS x ps ≤ 1048576) (h1 : SelfIn w v1 v2 v3 v4 x ps w.heap.size) (h2 : SelfIn w u1 u2 u3 u4 x qs w.heap.size) (he : fsts ps = fsts qs) :
    Calls Tryz.prog 18 #[selfV x v1 v2 v3 v4, selfV x u1 u2 u3 u4] w fun e w' => e = .returned (.bool true) ∧ Below w.heap.size w w' := by
  obtain ⟨⟨a1, c1, rfl⟩, ⟨a2, c2, rfl⟩, ⟨a3, c3, rfl⟩, ⟨a4, c4, rfl⟩⟩ := h1.shapes
  obtain ⟨⟨b1, d1, rfl⟩, ⟨b2, d2, rfl⟩, ⟨b3, d3, rfl⟩, ⟨b4, d4, rfl⟩⟩ := h2.shapes
  have hlL : x.net.ls.length ≤ 1048576 := by unfold totS at ht; omega
  have hlT : x.net.ts.length ≤ 1048576 := by unfold totS at ht; omega
  have hlH : x.heard.length ≤ 1048576 := by unfold totS at ht; omega
  have hlR : tot ps ≤ 1048576 := by unfold totS at ht; omega
  have H1 := hide h1
  have H2 := hide h2
  have HE := hide he
  clear h1 h2 he ht
  go_enter Tryz.func18, Tryz.ntmps18
  go_wp2_with fail
  obtain ⟨w1, hw1⟩ : ∃ w1, w1 = (w.alloc (.cells #[.int .i64 x.id, .int .i64 x.boot, .int .i64 x.net.n, .slice a1 x.net.ls.length c1, .slice a2 x.net.ts.length c2, .slice a3 x.heard.length c3, .slice a4 ps.length c4] 31)).alloc (.cells #[.int .i64 x.id, .int .i64 x.boot, .int .i64 x.net.n, .slice b1 x.net.ls.length d1, .slice b2 x.net.ts.length d2, .slice b3 x.heard.length d3, .slice b4 qs.length d4] 31) := ⟨_, rfl⟩
  have B1 : Below w.heap.size w w1 := by rw [hw1]; exact below_two _ _
  have p0 : w1.heap[w.heap.size]? = some (.cells #[.int .i64 x.id, .int .i64 x.boot, .int .i64 x.net.n, .slice a1 x.net.ls.length c1, .slice a2 x.net.ts.length c2, .slice a3 x.heard.length c3, .slice a4 ps.length c4] 31) := by rw [hw1, Below.heap_alloc _ _ _ (by simp), heap_alloc_new]
  have q0 : w1.heap[w.heap.size + 1]? = some (.cells #[.int .i64 x.id, .int .i64 x.boot, .int .i64 x.net.n, .slice b1 x.net.ls.length d1, .slice b2 x.net.ts.length d2, .slice b3 x.heard.length d3, .slice b4 qs.length d4] 31) := by
    rw [hw1]
    have := heap_alloc_new (w.alloc (.cells #[.int .i64 x.id, .int .i64 x.boot, .int .i64 x.net.n, .slice a1 x.net.ls.length c1, .slice a2 x.net.ts.length c2, .slice a3 x.heard.length c3, .slice a4 ps.length c4] 31)) (.cells #[.int .i64 x.id, .int .i64 x.boot, .int .i64 x.net.n, .slice b1 x.net.ls.length d1, .slice b2 x.net.ts.length d2, .slice b3 x.heard.length d3, .slice b4 qs.length d4] 31)
    simpa using this
  rw [← hw1]
  clear hw1
  have HEN := eqNet_any _ _ x.net x.net w1 (H1.out.then B1).net (H2.out.then B1).net hlL hlT
  rw [decide_eq_true rfl] at HEN
  refine HEN.mono ?_
  rintro e w2 ⟨rfl, b2⟩
  have p1 := (b2.block _ (lt_of_heap p0)).trans p0
  have q1 := (b2.block _ (lt_of_heap q0)).trans q0
  have B2 : Below w.heap.size w w2 := B1.trans (b2.mono B1.size)
  have s5 := cells_at p1 5
  have t5 := cells_at q1 5
  simp at s5 t5
  have P1 := hide p1
  have Q1 := hide q1
  have HEI := eqI_any _ _ x.heard x.heard w2 (HopsAt.ints (H1.out.then B2).heard) (HopsAt.ints (H2.out.then B2).heard) hlH
  rw [decide_eq_true rfl] at HEI
  have HI := hide HEI
  clear p0 q0 p1 q1 HEN HEI b2
  go_wp2_with fail
  refine HI.out.mono ?_
  rintro e w3 ⟨rfl, b3⟩
  have p1 := (b3.block _ (lt_of_heap P1.out)).trans P1.out
  have q1 := (b3.block _ (lt_of_heap Q1.out)).trans Q1.out
  have B3 : Below w.heap.size w w3 := B2.trans (b3.mono B2.size)
  have HER := eqRecordS_any _ _ ps qs w3 (H1.out.then B3).store (H2.out.then B3).store (Nat.le_trans (tot_len ps) hlR) (fun _ hp => Nat.le_trans (tot_mem hp) hlR)
  rw [decide_eq_true HE.out] at HER
  have HR := hide HER
  clear s5 t5
  have s6 := cells_at p1 6
  have t6 := cells_at q1 6
  simp at s6 t6
  clear p1 q1 HER b3
  go_wp2_with fail
  refine HR.out.mono ?_
  rintro e w4 ⟨rfl, b4⟩
  have B4 : Below w.heap.size w w4 := B3.trans (b4.mono B3.size)
  go_wp2
  go_ret
  exact ⟨rfl, B4⟩
end Go.Proofs.YtcimbiinljcifaaGreat
namespace Go.Proofs.YtcimbiinljcifaaGreat
open Go.RowKit

def sameKeyB (x y : RecD) : Bool := x.area == y.area && x.kind == y.kind && x.owner == y.owner && x.key == y.key

set_option maxRecDepth 100000 in
set_option maxHeartbeats 4000000 in
theorem ssameKey_any (v1 v2 : Value) (x y : RecD) (w : World) : Calls Tryz.prog 40 #[.agg (recC x v1), .agg (recC y v2)] w fun e w' => e = .returned (.bool (sameKeyB x y)) ∧ Below w.heap.size w w' := by
  obtain ⟨a0, a1, a2, a3, a4, ns, a6, a7⟩ := x
  obtain ⟨b0, b1, b2, b3, b4, ms, b6, b7⟩ := y
  unfold recC
  simp only []
  go_enter Tryz.func40, Tryz.ntmps40
  go_wp2
  all_goals go_ret
  all_goals refine ⟨ret_bool ?_, below_two _ _⟩
  all_goals (simp only [sameKeyB]; grind)

end Go.Proofs.YtcimbiinljcifaaGreat
namespace Go.Proofs.YtcimbiinljcifaaGreat
open Go.RowKit

def keyC (x : RecD) : Array Value := #[.int .i64 x.area, .int .i64 x.kind, .int .i64 x.owner, .int .i64 x.key]

set_option maxRecDepth 100000 in
set_option maxHeartbeats 400000 in
theorem keyOf_any (v1 : Value) (x : RecD) (w : World) : Calls Tryz.prog 104 #[.agg (recC x v1)] w fun e w' => e = .returned (.agg (keyC x)) ∧ Below w.heap.size w w' := by
  obtain ⟨a0, a1, a2, a3, a4, ns, a6, a7⟩ := x
  unfold recC keyC
  simp only []
  go_enter Tryz.func104, Tryz.ntmps104
  go_wp2
  go_returns
  exact ⟨rfl, below_two _ _⟩

theorem keyOf_raw (a0 a1 a2 a3 a4 : Int) (v : Value) (a6 : Int) (a7 : Bool) (w : World) : Calls Tryz.prog 104 #[.agg #[.int .i64 a0, .int .i64 a1, .int .i64 a2, .int .i64 a3, .int .i64 a4, v, .int .i64 a6, .bool a7]] w fun e w' => e = .returned (.agg #[.int .i64 a0, .int .i64 a1, .int .i64 a2, .int .i64 a3]) ∧ Below w.heap.size w w' :=
  keyOf_any v ⟨a0, a1, a2, a3, a4, [], a6, a7⟩ w

theorem Tryz.info3k : (Tryz.prog.info? 3).map (fun i => (i.zero, i.size, i.bytes)) = some (some (.int .i64 0), 1, 8) := by kernel_rfl

theorem key_eql (w : World) (a b c d a' b' c' d' : Int) : (binOp .eql 140 (.agg #[.int .i64 a, .int .i64 b, .int .i64 c, .int .i64 d]) (.agg #[.int .i64 a', .int .i64 b', .int .i64 c', .int .i64 d'])).run Tryz.prog w = .ok (.bool (a == a' && b == b' && c == c' && d == d')) w := by
  obtain ⟨i0, hi, _⟩ := info_parts Tryz.info3k
  have hu : Tryz.prog.underlying 140 = some (.array 4 3) := by kernel_rfl
  have u3 : Tryz.prog.underlying 3 = some (.int .i64) := by kernel_rfl
  have hc : Tryz.prog.cellsOf 3 = 1 := by kernel_rfl
  have hp : Tryz.prog.plainKey 3 = true := by kernel_rfl
  have pt : ∀ (xs : Array Value) (off : Nat) (u : Value), xs[off]? = some u → (Go.part 3 xs off).run Tryz.prog w = .ok u w := fun xs off u h => run_part_plain w hp h
  have eqi : ∀ (n : Nat) (x y : Int), (Op.equalIn (n + 1) 3 (.int .i64 x) (.int .i64 y)).run Tryz.prog w = .ok (x == y) w := fun n x y => run_equalIn_int w n 3 .i64 .i64 x y u3
  go_simp
  have e1 : (Op.equalIn 10000 140 (.agg #[.int .i64 a, .int .i64 b, .int .i64 c, .int .i64 d]) (.agg #[.int .i64 a', .int .i64 b', .int .i64 c', .int .i64 d'])).run Tryz.prog w = .ok (a == a' && b == b' && c == c' && d == d') w := by
    rw [run_equalIn_array w 9999 _ _ hu hi, hc]
    show (Op.eqItems 9999 3 1 _ _ [0, 1, 2, 3]).run Tryz.prog w = _
    simp only [Op.eqItems, Sem.run_bind]
    rw [pt _ _ (.int .i64 a) rfl]
    simp only [Result.andThen_ok]
    rw [pt _ _ (.int .i64 a') rfl]
    simp only [Result.andThen_ok]
    rw [eqi 9998 a a']
    simp only [Result.andThen_ok]
    cases a == a'
    · rfl
    simp only [Bool.not_true, Bool.false_eq_true, if_false, Sem.run_bind, Bool.true_and]
    rw [pt _ _ (.int .i64 b) rfl]
    simp only [Result.andThen_ok]
    rw [pt _ _ (.int .i64 b') rfl]
    simp only [Result.andThen_ok]
    rw [eqi 9998 b b']
    simp only [Result.andThen_ok]
    cases b == b'
    · rfl
    simp only [Bool.not_true, Bool.false_eq_true, if_false, Sem.run_bind, Bool.true_and]
    rw [pt _ _ (.int .i64 c) rfl]
    simp only [Result.andThen_ok]
    rw [pt _ _ (.int .i64 c') rfl]
    simp only [Result.andThen_ok]
    rw [eqi 9998 c c']
    simp only [Result.andThen_ok]
    cases c == c'
    · rfl
    simp only [Bool.not_true, Bool.false_eq_true, if_false, Sem.run_bind, Bool.true_and]
    rw [pt _ _ (.int .i64 d) rfl]
    simp only [Result.andThen_ok]
    rw [pt _ _ (.int .i64 d') rfl]
    simp only [Result.andThen_ok]
    rw [eqi 9998 d d']
    simp only [Result.andThen_ok]
    cases d == d'
    · rfl
    · rfl
  rw [e1]
  rfl

end Go.Proofs.YtcimbiinljcifaaGreat
namespace Go.Proofs.YtcimbiinljcifaaGreat
open Go.RowKit

def inB (x a b : Int) : Bool := decide (a ≤ x) && decide (x ≤ b)

set_option maxHeartbeats 400000 in
theorem in_any (x a b : Int) (w : World) : Calls Tryz.prog 70 #[.int .i64 x, .int .i64 a, .int .i64 b] w fun e w' => e = .returned (.bool (inB x a b)) ∧ w = w' := by
  by_cases h1 : a ≤ x <;> by_cases h2 : x ≤ b
  all_goals
    go_enter Tryz.func70, Tryz.ntmps70
    go_wp2
    go_ret
    exact ⟨by simp [inB, h1, h2], rfl⟩

end Go.Proofs.YtcimbiinljcifaaGreat
