/-
  RtMath RtLawK RtTot
-/
import Derived.Test.YtnndlmodjkplnaaGreatDoorFw16
import Derived.Test.YtnndlmodjkplnaaGreatDoorFw34
import Derived.Test.YtnndlmodjkplnaaGreatDoorFw18
namespace Go.Proofs.YtnndlmodjkplnaaGreatDoor
open Go.RowKit
set_option linter.unusedSimpArgs false
set_option linter.unusedVariables false
set_option maxRecDepth 100000
set_option maxHeartbeats 8000000
theorem Zhk {kind src:Int}{ds:List WayD}{r:RtD}(h:r∈ZdA kind src ds):∃ d∈ds,d.to≠src/\r=⟨false,d.to,kind,d.cost,0,d.hops⟩:=by
 unfold ZdA at h;obtain⟨d,hd,rfl⟩:=List.mem_map.1 h;obtain⟨h1,h2⟩:=List.mem_filter.1 hd;exact⟨d,h1,by simpa using h2,rfl⟩
def ZgU (xs:List RtD):Nat:=(xs.map (fun x=>1+x.hops.length)).sum
theorem Zoc (ps:List QP):totQ ps=ZgU (ZaF ps):=by simp [totQ,ZgU,ZaF,List.map_map,Function.comp_def]
theorem ZmC (x:RtD)(xs:List RtD):ZgU (x::xs)=1+x.hops.length+ZgU xs:=by simp [ZgU]
theorem ZdD (v1 v2:Value)(ps qs:List QP)(l1 h1 l2 h2:Nat)(w:World)(k1:RtsOwn w l1 h1 v1 ps)(k2:RtsOwn w l2 h2 v2 qs)(he:ZaF ps=ZaF qs)(hn:totQ ps<=1048576)(g1:h1<=w.heap.size)(g2:h2<=w.heap.size):
  Calls Tryz.prog 12 #[v1,v2] w fun e w'=>e=.returned (.bool true)/\Below w.heap.size w w':=by
 have h:=ZiH v1 v2 ps qs w (k1.at.more g1) (k2.at.more g2) (Nat.le_trans (Zie ps) hn) (fun _ hp=>Nat.le_trans (Zif hp) hn)
 rw [decide_eq_true he] at h;exact h
theorem ZoP (ps:List QP):¬mkQE 1 ps<0:=by have:=Zh0 1 ps;omega
theorem Zpk {l:List RtD}{n m:Nat}(h:l.length<=n)(hm:∀ r∈l,r.hops.length<=m):ZgU l<=n*(m+1):=by
 induction l generalizing n with
 | nil=>simp [ZgU]
 | cons a l ih=>
  rw [ZmC];simp only [List.length_cons] at h
  obtain⟨k,rfl⟩:∃ k,n=k+1:=⟨n-1,by omega⟩
  have h1:=ih (n:=k) (by omega) (fun r hr=>hm r (by simp [hr]))
  have h2:=hm a (by simp)
  rw [Nat.add_mul];omega
theorem Zmd {xs:List RecD}{al:List Int}{border:Bool}{src:Int}{l:List RtD}(h:ZbU xs al border src l)(hs:ZaJ xs=true):ZgU l<=147:=by
 obtain⟨ds,es,ts,h1,h2,h3,rfl⟩:=h;have g1:=h1.good (fun to d h=>Za3 h)
 have g2:=h2.good (fun to d h=>ZbB h)
 have g3:=h3.goodT (fun to d h=>ZcS hs g1 g2 h)
 have l1:=Zc3 h1.1 (fun d hd=>(g1 d hd).node)
 have l2:=Zc3 h2.1 (fun d hd=>(g2 d hd).node)
 have l3:=Zd3 h3.1 (fun d hd=>(g3 d hd).node)
 have n1:(ZdA 1 src ds).length<=ds.length:=by unfold ZdA;rw [List.length_map];exact List.length_filter_le _ _
 have n2:(ZdA 2 src es).length<=es.length:=by unfold ZdA;rw [List.length_map];exact List.length_filter_le _ _
 have:=Zpk (n:=21) (m:=6) (l:=ZdA 1 src ds++ZdA 2 src es++ts.map rtOf) (by simp only [List.length_append,List.length_map];omega) (fun r hr=>by
  rcases List.mem_append.1 hr with h | h
  ·rcases List.mem_append.1 h with h | h
   ·obtain ⟨d,hd,_,rfl⟩:=Zhk h;exact (g1 d hd).len
   ·obtain ⟨d,hd,_,rfl⟩:=Zhk h;exact (g2 d hd).len
  ·obtain ⟨d,hd,rfl⟩:=List.mem_map.1 h
   have:=(g3 d hd).len;unfold rtOf
   split <;> exact this)
 omega
end Go.Proofs.YtnndlmodjkplnaaGreatDoor
