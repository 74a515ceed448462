/-
  OpenS NextS
-/
import Derived.Test.YtadokhjefnkajaaGreatIe6
import Derived.Test.YtadokhjefnkajaaGreatIe4
import Derived.Test.YtadokhjefnkajaaGreatIe3
namespace Go.Proofs.YtadokhjefnkajaaGreat
open Go.RowKit
set_option linter.unusedSimpArgs false
set_option linter.unusedVariables false
set_option maxRecDepth 100000
set_option maxHeartbeats 8000000
def ZdH (f t r:Int)(p:Lk × Bool):Bool:=p.2&&Zbx f t r p.1
def ZcS (ls:List Lk)(bs:List Bool)(f t r:Int):Int:=(((ls.zip bs).find? (ZdH f t r)).map (·.1.c)).getD 0
theorem Zpr {ls:List Lk}{bs:List Bool}{k:Nat}{l:Lk}{b:Bool}(h:ls[k]? = some l)(hb:bs[k]? = some b):(ls.zip bs)[k]? = some (l,b):=by
 rw [List.getElem?_zip_eq_some];exact⟨h,hb⟩
theorem ZoJ {ls:List Lk}{bs:List Bool}{f t r:Int}{k:Nat}{l:Lk}{b:Bool}(h:∀ j,j<k->∀ x,(ls.zip bs)[j]? = some x->ZdH f t r x=false)(hl:(ls.zip bs)[k]? = some (l,b))(hp:ZdH f t r (l,b)=true):ZcS ls bs f t r=l.c:=by
 unfold ZcS;rw [Zfc _ _ k _ h hl hp];rfl
theorem Znh {ls:List Lk}{bs:List Bool}{f t r:Int}{k:Nat}(h:∀ j,j<k->∀ x,(ls.zip bs)[j]? = some x->ZdH f t r x=false)(hk:k=ls.length):ZcS ls bs f t r=0:=by
 unfold ZcS;rw [ZgX _ _ (fun j hj=>h j (by rw [List.length_zip] at hj;omega))];rfl
def NoHit (ls:List Lk)(bs:List Bool)(f t r:Int)(k:Nat):Prop:=∀ j,j<k->∀ x,(ls.zip bs)[j]? = some x->ZdH f t r x=false
theorem ZnE (n:Value)(v tv y:Value)(ls:List Lk)(bs:List Bool)(f t r:Int)(w:World)(hls:ls.length<=1048576)(hbs:bs.length=ls.length)(hv:ZaS w v ls w.heap.size)(hy:Zba w y bs w.heap.size):
  Calls Tryz.prog 85 #[.agg #[n,v,tv],y,.int .i64 f,.int .i64 t,.int .i64 r] w fun e w'=>e=.returned (.int .i64 (ZcS ls bs f t r))/\Below w.heap.size w w':=by
 obtain⟨a,cap,rfl⟩:∃ a cap,v=.slice a ls.length cap:=by obtain ⟨a,cap,h,_⟩:=hv;exact⟨a,cap,h⟩
 obtain⟨a2,cap2,rfl⟩:=hy.shape;have HV:=hide hv;have HY:=hide hy;have HBS:=hide hbs;clear hv hy hbs
 go_enter Tryz.func85,Tryz.ntmps85
 go_wp2
 go_loopw [11] (fun i wr=>∃ k:Nat,k<=ls.length/\i=.int .i64 k/\NoHit ls bs f t r k/\Below w.heap.size w wr/\wr.heap[w.heap.size]? = some (.cells #[n,.slice a ls.length cap,tv] 27)) (fun i _=>ls.length-(intOf i).toNat)
 case atStart=>exact ⟨0,by omega,rfl,fun j hj=>absurd hj (Nat.not_lt_zero _),(Below.refl _ _).alloc (Nat.le_refl _) _,heap_alloc_new w _⟩
 case round=>
  obtain⟨k,hk,rfl,hno,hb,hx⟩:=hrel;have hx1:wr.cell? ⟨w.heap.size,1,none⟩=some (.slice a ls.length cap):=by rw [Zaa hx];rfl
  have HX:=hide hx;have HNO:=hide hno;clear hx hno;by_cases hlt:k<ls.length
  ·obtain ⟨l,hl⟩:∃ l,ls[k]? = some l:=⟨ls[k],List.getElem?_eq_getElem hlt⟩
   have hltb:k<bs.length:=by have:=HBS.out;omega
   obtain⟨b1,hb1⟩:∃ b,bs[k]? = some b:=⟨bs[k],List.getElem?_eq_getElem hltb⟩;obtain⟨b,off,cap',hve,hbb,c0,c1,c2,c3⟩:=HV.out.cells k l hl;cases hve
   obtain⟨g,off2,cap2',hve2,hgg,d0⟩:=HY.out.cell k b1 hb1;cases hve2
   rw [<-hb.cell (p:=⟨b,off+k*4,none⟩) hbb] at c0;rw [<-hb.cell (p:=⟨b,off+k*4+1,none⟩) hbb] at c1;rw [<-hb.cell (p:=⟨b,off+k*4+2,none⟩) hbb] at c2;rw [<-hb.cell (p:=⟨b,off+k*4+3,none⟩) hbb] at c3;rw [<-hb.cell (p:=⟨g,off2+k,none⟩) hgg] at d0;have HL:=hide (Zpr hl hb1);have hlb:(k:Int)<(bs.length:Int):=by omega
   have hgw:g<wr.heap.size:=by have:=hb.size;omega
   clear hl hb1 hgg;obtain⟨la,lb,lc,lr⟩:=l;cases b1
   all_goals go_wp2
   all_goals first
    | (go_ret
       refine⟨Zet (ZoJ HNO.out HL.out ?_).symm,hb.alloc hb.size _⟩
       clear HV HX HL HNO hb hx1 c0 c1 c2 c3 d0 HY;simp only [ZdH,Zbx]
       grind)
    | (refine ⟨⟨k+1,by omega,by go_num,Zj7 HNO.out HL.out ?_,hb.alloc hb.size _,?_⟩,by simp [intOf];omega⟩
       ·clear HV HX HL HNO hb hx1 c0 c1 c2 c3 d0 HY
        simp only [ZdH,Zbx]
        grind
       ·rw [Below.heap_alloc _ _ _ (Zab HX.out)];exact HX.out)
    | (subst_vars
       refine⟨⟨k+1,by omega,by go_num,Zj7 HNO.out HL.out ?_,hb.alloc hb.size _,?_⟩,by simp [intOf];omega⟩
       ·clear HV HX HL HNO hb hx1 c0 c1 c2 c3 d0 HY
        simp only [ZdH,Zbx]
        grind
       ·rw [Below.heap_alloc _ _ _ (Zab HX.out)];exact HX.out)
  ·have hk':k=ls.length:=by omega
   have HK:=hide hk';clear hk'
   go_wp2
   go_ret
   exact⟨Zet (Znh HNO.out HK.out).symm,hb⟩
def ZdF (ls:List Lk)(v r:Int):List Int:=([1,2,3,4,5,6]:List Int).filter fun u=>decide (0<Zcw ls v u r)
def ZaB (ls:List Lk)(v:Int):List Int:=([0,1,2]:List Int).filter fun r=>decide (0<(ZdF ls v r).length)
def Ze9 (ls:List Lk)(v:Int):Bool:=decide (1<(ZaB ls v).length)&&((ZaB ls v).head? == some 0)
def Zbr (p:Int->Bool)(s:Int):Nat->List Int
 | 0=>[]
 | k+1=>Zbr p s k++(if p (s+(k:Int)) then [s+(k:Int)] else [])
theorem Zd0 (p:Int->Bool)(s:Int):∀ k,(Zbr p s k).length<=k
 | 0=>by simp [Zbr]
 | k+1=>by
  have:=Zd0 p s k;simp only [Zbr]
  split <;> simp <;> omega
theorem Zj6 (ls:List Lk)(v r:Int):ZdF ls v r=Zbr (fun u=>decide (0<Zcw ls v u r)) 1 6:=by
 simp [ZdF,Zbr,List.filter_cons]
 repeat' split
 all_goals simp
theorem ZnD (n:Value)(v tv:Value)(ls:List Lk)(f r:Int)(w:World)(hls:ls.length<=1048576)(hv:ZaS w v ls w.heap.size):
  Calls Tryz.prog 77 #[.agg #[n,v,tv],.int .i64 f,.int .i64 r] w fun e w'=>∃ x,e=.returned x/\w'.ownsRow w.heap.size 3 1 x (ZdF ls f r).length (Za5 (ZdF ls f r))/\Below w.heap.size w w':=by
 have HV:=hide hv;clear hv;rw [Zj6]
 go_enter Tryz.func77,Tryz.ntmps77
 go_wp2
 go_loopw [7,8] (fun x i wr=>∃ k:Nat,k<=6/\i=.int .i64 (1+(k:Int))/\Below w.heap.size w wr/\wr.heap[w.heap.size]? = some (.cells #[n,v,tv] 27)/\wr.ownsRow (w.heap.size+1) 3 1 x (Zbr (fun u=>decide (0<Zcw ls f u r)) 1 k).length (Za5 (Zbr (fun u=>decide (0<Zcw ls f u r)) 1 k))) (fun _ i _=>8-(intOf i).toNat)
 case atStart=>
  refine⟨0,by omega,rfl,Zas _ _,?_,?_⟩
  ·rw [Below.heap_alloc _ _ _ (show w.heap.size<(w.alloc (.cells #[n,v,tv] 27)).heap.size by simp),heap_alloc_new]
  ·have h0:=World.ownsRow_lit (base:=w.heap.size+1) (w.alloc (.cells #[n,v,tv] 27)) (#[]:Array Value) 0 (by simp) (by decide) (e:=3) (size:=1) rfl
   simpa [Zbr,Za5] using h0
 case round=>
  obtain⟨k,hk,rfl,hb,hx,hown⟩:=hrel;have c0:wr.cell? ⟨w.heap.size,0,none⟩=some n:=by rw [Zaa hx];rfl
  have c1:wr.cell? ⟨w.heap.size,1,none⟩=some v:=by rw [Zaa hx];rfl
  have c2:wr.cell? ⟨w.heap.size,2,none⟩=some tv:=by rw [Zaa hx];rfl
  have hxl:=Zab hx;have HX:=hide hx;have OW:=hide hown;clear hx hown;by_cases hlt:k<6
  ·go_wp2_with fail
   refine (Znz n v tv ls f (1+(k:Int)) r wr hls (HV.out.then hb)).mono ?_
   rintro e w1 ⟨rfl,b1⟩;have hown1:=Zae OW.out b1 (Nat.le_refl _);have hx1:w1.heap[w.heap.size]? = some (.cells #[n,v,tv] 27):=by rw [b1.block _ hxl];exact HX.out
   have hb1:Below w.heap.size w w1:=hb.trans (b1.mono hb.size);have hz1:=b1.size;have hpl:=Zd0 (fun u=>decide (0<Zcw ls f u r)) 1 k
   have HX1:=hide hx1;obtain⟨l2,hl20⟩:∃ l2,l2=Zbr (fun u=>decide (0<Zcw ls f u r)) 1 (k+1):=⟨_,rfl⟩
   have HL20:=hide hl20;have hps:Hid (l2=Zbr (fun u=>decide (0<Zcw ls f u r)) 1 k++(if decide (0<Zcw ls f (1+(k:Int)) r) then [1+(k:Int)] else [])):=hl20
   clear hl20;clear b1 hx1 c0 c1 c2 OW HX;generalize Zbr (fun u=>decide (0<Zcw ls f u r)) 1 k=l at hown1 hpl hps
   generalize Zcw ls f (1+(k:Int)) r=c at hps |-;by_cases hc:0<c
   ·have hl2:l2=l++[1+(k:Int)]:=by rw [hps.out];simp [hc]
    have HL2:=hide hl2;clear hl2 hps
    go_wp2_with (first
     | (at_builtin;refine Zbj _ rfl _ _ 28 rfl (w.heap.size+1) 3 Tryz.underlying28 Tryz.info3 u7 l (1+(k:Int)) rfl (hown1.alloc _) ⟨w1.heap.size,0,none⟩ 1 rfl ?_ (by omega) (by simp;omega) ?_))
    ·rw [add_zero',World.cell?_alloc_at _ _ _ _ rfl];rfl
    intro v' w4 l' hl' hown' hgrow;have hb4:Below w.heap.size w w4:=(hb1.alloc (by omega) _).grown hgrow (by simp;omega) (fun k hk=>by have:=(hown1.lt k hk).1;omega)
    have hx4:w4.heap[w.heap.size]? = some (.cells #[n,v,tv] 27):=by
     rw [hgrow.block _ (by simp;omega) (fun h=>by have:=(hown1.lt _ h.symm).1;omega),Below.heap_alloc _ _ _ (by omega)]
     exact HX1.out
    have e:l'=l2:=by rw [hl'.out,HL2.out]
    subst e;have OW2:=hide hown';have HX4:=hide hx4;clear hgrow hown' hx4 hown1
    go_wp2
    go_roundw
    case rel=>exact ⟨k+1,by omega,by go_num,hb4,HX4.out,by rw [<-HL20.out];exact OW2.out⟩
    case measure=>simp [intOf];omega
   ·have hl2:l2=l:=by rw [hps.out];simp [hc]
    subst hl2;have OW2:=hide hown1;clear hown1 hps
    go_wp2
    go_roundw
    case rel=>exact ⟨k+1,by omega,by go_num,hb1,HX1.out,by rw [<-HL20.out];exact OW2.out⟩
    case measure=>simp [intOf];omega
  ·have hk':k=6:=by omega
   subst hk'
   go_wp2
   go_ret
   exact⟨_,rfl,ZeX OW.out (by omega),hb⟩
end Go.Proofs.YtadokhjefnkajaaGreat
