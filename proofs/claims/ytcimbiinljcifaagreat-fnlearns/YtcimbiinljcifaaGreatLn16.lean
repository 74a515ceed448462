/-
  DrawRecR InsA
-/
import Derived.Test.YtcimbiinljcifaaGreatLn15
import Derived.Test.YtcimbiinljcifaaGreatLn10
import Derived.Test.YtcimbiinljcifaaGreatLn7
import Derived.Shelf.Spec.SlicesInsertGrow
namespace Go.Proofs.YtcimbiinljcifaaGreat
open Go.RowKit
set_option linter.unusedSimpArgs false
set_option linter.unusedVariables false
set_option maxRecDepth 100000
set_option maxHeartbeats 8000000
def Zc7 (l:List Nr)(k:Int)(o:Int):Prop:=(∀ n∈l,1<=n.to/\n.to<k/\n.to≠o/\1<=n.c/\n.c<=4)/\l.Pairwise (fun a b=>a.to<b.to)
theorem Zc7.more {l:List Nr}{k k' o:Int}(h:Zc7 l k o)(hk:k<=k'):Zc7 l k' o:=⟨fun n hn=>by have:=h.1 n hn;omega,h.2⟩
theorem Zc7.push {l:List Nr}{k o y:Int}(h:Zc7 l k o)(h1:1<=k)(ho:k≠o)(hy0:0<=y)(hy1:y<4):Zc7 (l++[⟨k,1+y⟩]) (k+1) o:=by
 refine⟨?_,?_⟩
 ·intro n hn
  rcases List.mem_append.1 hn with h2 | h2
  ·have:=h.1 n h2;omega
  ·have:n=⟨k,1+y⟩:=by simpa using h2
   subst this;simp only
   omega
 ·rw [List.pairwise_append]
  refine⟨h.2,by simp,?_⟩
  intro a ha b hb;have:b=⟨k,1+y⟩:=by simpa using hb
  subst this;exact (h.1 a ha).2.1
theorem Zc7.ok {l:List Nr}{o:Int}(h:Zc7 l 7 o):Za1 o l=true:=by
 unfold Za1 Zbl ascB;rw [Bool.and_eq_true];refine⟨ZaG fun j hj=>?_,ZaG fun j hj=>?_⟩
 ·unfold okAt
  rw [List.getElem?_eq_getElem hj];have h1:=h.1 l[j] (List.getElem_mem hj);unfold ZbC inB;simp only [Bool.and_eq_true,decide_eq_true_eq,Bool.not_eq_true',beq_eq_false_iff_ne]
  omega
 ·cases j with
  | zero=>rfl
  | succ k=>
   rw [Za6 (List.getElem?_eq_getElem (by omega)) (List.getElem?_eq_getElem hj)]
   have h2:=List.pairwise_iff_getElem.1 h.2 k (k+1) (by omega) hj (by omega)
   unfold ordN;simp only [decide_eq_true_eq]
   omega
theorem Zjy {y1 y2 y3:Int}{l:List Nr}(a0:0<=y1)(a1:y1<4)(b0:0<=y2)(b1:y2<3)(c0:0<=y3)(c1:y3<5)(h:Zc7 l 7 (1+y1)):Zas ⟨y2,1,1+y1,0,1+y3,l,0,false⟩=true:=by
 have h1:=h.ok;unfold Zas;simp only [h1]
 unfold inB;simp
 omega
theorem ZhI {y1 y2 y3 y4 y5:Int}(a0:0<=y1)(a1:y1<4)(b0:0<=y2)(b1:y2<3)(c0:0<=y3)(c1:y3<5)(d0:0<=y4)(d1:y4<5)(e0:0<=y5)(e1:y5<=60000):Zas ⟨y2,2,1+y1,1+y4,1+y3,[],y5,false⟩=true:=by
 unfold Zas inB;simp
 omega
theorem Zil {y1 y3 y4 y5:Int}{b:Bool}(a0:0<=y1)(a1:y1<4)(c0:0<=y3)(c1:y3<5)(d0:0<=y4)(d1:y4<3)(e:(1<=y5/\y5<=1000)\/y5=60000):Zas ⟨9,3,1+y1,1+y4,1+y3,[],y5,b⟩=true:=by
 unfold Zas inB;simp
 omega
theorem Zh2 (w:World):∀ k,k<5->∃ z:Int,(0<=z/\z<=60000)/\(w.alloc (.cells #[.int .i64 0,.int .i64 1,.int .i64 2,.int .i64 5,.int .i64 60000] 3)).cell? ⟨w.heap.size,k,none⟩=some (.int .i64 z):=by
 intro k hk;have h:=Zaa (heap_alloc_new w (.cells #[.int .i64 0,.int .i64 1,.int .i64 2,.int .i64 5,.int .i64 60000] 3)) k
 match k,hk with
 | 0,_=>exact ⟨_,by omega,h⟩
 | 1,_=>exact ⟨_,by omega,h⟩
 | 2,_=>exact ⟨_,by omega,h⟩
 | 3,_=>exact ⟨_,by omega,h⟩
 | 4,_=>exact ⟨_,by omega,h⟩
theorem Zhp (w:World):∀ k,k<4->∃ z:Int,((1<=z/\z<=1000)\/z=60000)/\(w.alloc (.cells #[.int .i64 1,.int .i64 2,.int .i64 5,.int .i64 60000] 3)).cell? ⟨w.heap.size,k,none⟩=some (.int .i64 z):=by
 intro k hk;have h:=Zaa (heap_alloc_new w (.cells #[.int .i64 1,.int .i64 2,.int .i64 5,.int .i64 60000] 3)) k
 match k,hk with
 | 0,_=>exact ⟨_,by omega,h⟩
 | 1,_=>exact ⟨_,by omega,h⟩
 | 2,_=>exact ⟨_,by omega,h⟩
 | 3,_=>exact ⟨_,by omega,h⟩
theorem ZeT (p:Nat)(a:Option Addr)(len cap:Nat)(w:World)(hc:Cur w p a len cap):
  Calls Tryz.prog 27 #[.pointer (some ⟨p,0,none⟩)] w fun e w'=>∃ (x:RecD) (v:Value),e=.returned (.agg (recC x v))/\w'.ownsRow (w.heap.size+1) 98 2 v x.near.length (flat nrE x.near)/\x.near.length<=6/\Zas x=true/\Cur w' p a len cap/\w.grownBy w' (some p):=by
 have hp:=ZaQ hc;have HC:=hide hc;clear hc
 go_enter Tryz.func27,Tryz.ntmps27
 go_wp2_with fail
 refine (ZaB p a len cap 3 _ (ZaX HC.out _) (by omega) (by omega)).mono ?_
 rintro e w1 ⟨y0,rfl,hy0,hy0',hc1,hg1⟩;have r1:=hg1.block w.heap.size (by simp) (by simp;omega)
 rw [heap_alloc_new] at r1;have b1:w.grownBy w1 (some p):=ZcX (ZdX (ZiN w _) _) hg1;have C1:=hide hc1;have R1:=hide r1;have D1:=hide b1;clear hc1 r1 b1 hg1 HC
 go_wp2_with fail
 refine (ZaB p a len cap 4 _ C1.out (by omega) (by omega)).mono ?_
 rintro e w2 ⟨y1,rfl,hy1,hy1',hc2,hg2⟩;have R2:=hide ((hg2.block _ (Zab R1.out) (by simp;omega)).trans R1.out)
 have D2:=hide (ZcX D1.out hg2);have C2:=hide hc2;clear hc2 hg2 C1 R1 D1
 go_wp2_with fail
 refine (ZaB p a len cap 3 _ C2.out (by omega) (by omega)).mono ?_
 rintro e w3 ⟨y2,rfl,hy2,hy2',hc3,hg3⟩;have R3:=hide ((hg3.block _ (Zab R2.out) (by simp;omega)).trans R2.out)
 have D3:=hide (ZcX D2.out hg3);have C3:=hide hc3;clear hc3 hg3 C2 R2 D2
 go_wp2_with fail
 refine (ZaB p a len cap 5 _ C3.out (by omega) (by omega)).mono ?_
 rintro e w4 ⟨y3,rfl,hy3,hy3',hc4,hg4⟩;have R4:=hide ((hg4.block _ (Zab R3.out) (by simp;omega)).trans R3.out)
 have D4:=hide (ZcX D3.out hg4);have hsz4:w.heap.size<w4.heap.size:=Zab R4.out;have wr0:IntKind.i64.wrap (1+y0)=1+y0:=ZaD _ (by omega) (by omega)
 have wr1:IntKind.i64.wrap (1+y1)=1+y1:=ZaD _ (by omega) (by omega)
 have wr3:IntKind.i64.wrap (1+y3)=1+y3:=ZaD _ (by omega) (by omega)
 obtain⟨x0,hx0⟩:∃ x:RecD,x=⟨y2,1+y0,1+y1,0,1+y3,[],0,false⟩:=⟨_,rfl⟩;have st0:RcSt w (w4.alloc (.cells #[.int .i64 y2,.int .i64 (1+y0),.int .i64 (1+y1),.int .i64 0,.int .i64 (1+y3),.slice none 0 0,.int .i64 0,.bool false] 40)) p w.heap.size w4.heap.size a len cap (.slice none 0 0) x0:=
  {cur:=ZaX hc4 _
   low:=Nat.le_refl _
   gro:=ZdX D4.out _
   box:=by rw [hx0];exact heap_alloc_new w4 _
   res:=(Below.heap_alloc _ _ _ hsz4).trans R4.out
   own:=by rw [hx0];exact⟨rfl,.inl ⟨rfl,rfl⟩⟩
   djn:=by simp [Value.ownBlock] }
 have ST0:=hide st0;have HX0:=hide hx0;have g1:=heap_alloc_new w4 (.cells #[.int .i64 y2,.int .i64 (1+y0),.int .i64 (1+y1),.int .i64 0,.int .i64 (1+y3),.slice none 0 0,.int .i64 0,.bool false] 40);clear st0 hx0 hc4 hg4 R4 D4 C3 R3 D3 g1
 rcases (show y0=0\/y0=1\/y0=2 by omega) with rfl | rfl | rfl
 ·rw [show (1:Int)+0=1 from rfl] at ST0 HX0
  go_wp2
  obtain⟨z,hz⟩:∃ z,z=w4.heap.size:=⟨_,rfl⟩;rw [<-hz] at ST0 hsz4 |-;generalize w4.alloc (.cells #[.int .i64 y2,.int .i64 1,.int .i64 (1+y1),.int .i64 0,.int .i64 (1+y3),.slice none 0 0,.int .i64 0,.bool false] 40)=w5 at *;clear hz;have hw5:p<w.heap.size:=hp
  go_loopw [4] (fun i wr=>∃ (k:Nat) (l:List Nr) (va:Option Addr) (vc:Nat),1<=k/\k<=7/\i=.int .i64 k/\l.length+1<=k/\Hid (Zc7 l k x0.owner)/\RcSt w wr p w.heap.size z a len cap (.slice va l.length vc) { x0 with near:=l }) (fun i _=>8-(intOf i).toNat)
  case atStart=>
   refine⟨1,[],none,0,by omega,by omega,rfl,by simp,hide ⟨by simp,by simp⟩,?_⟩
   have e:=ST0.out;rw [show x0 = { x0 with near:=[] } by rw [HX0.out]] at e
   exact e
  case round=>
   clear ST0;obtain⟨k,l,va,vc,hk1,hk7,rfl,hll,HUP,st⟩:=hrel;have c2:=Zaa st.box 2;simp only [recC] at c2
   have c2':wr.cell? ⟨z,2,none⟩=some (.int .i64 x0.owner):=c2;clear c2;have ST:=hide st;clear st;by_cases hk:k<7
   ·have hk6:(k:Int)<=6:=by omega
    by_cases ho:(k:Int)=x0.owner
    ·have hd:((k:Int) != x0.owner)=false:=by simpa using ho
     clear ho
     go_wp2
     exact⟨⟨k+1,l,va,vc,by omega,by omega,by go_num,by omega,hide (HUP.out.more (by omega)),ST.out⟩,by simp [intOf];omega⟩
    ·have hd:((k:Int) != x0.owner)=true:=by simpa using ho
     have HO:=hide ho;clear ho
     go_wp2_with fail
     refine (Zc2 p a len cap 3 _ ST.out.cur (by omega) (by omega)).mono ?_
     rintro e w6 ⟨b,rfl,hc6,hg6⟩;have ST6:=hide (ST.out.grown hc6 hg6 hp hsz4);clear hc6 hg6 ST c2';cases b
     ·go_wp2
      exact⟨⟨k+1,l,va,vc,by omega,by omega,by go_num,by omega,hide (HUP.out.more (by omega)),ST6.out⟩,by simp [intOf];omega⟩
     ·go_wp2
      refine wp_region_noPanic ?_
      refine Zai (S:=fun _=>True) (by kernel_rfl) 11 rfl trivial ?_
      intro ops hops _;refine Zmo _ _ _ _ _ _ _ _ _ _ _ _ _ _ _ _ _ _ _ _ _ _ _ _ _ _ _ _ _ _ _ _ _ _ _ _ _ _ _ _ _ _ _ _ _ _ _ _ _ _ _ _ _ _ _ _ _ _ _ _ _ _ _ _ _ w _ p w.heap.size z a len cap va vc { x0 with near:=l } (k:Int) _ ops hops (fun _ _ _ _ h=>h) hp hsz4 (by show l.length<=1000;omega) ST6.out.drew ?_
      intro W y na nc l' hl' hy0 hy1 st' sb;refine NoPanic.normal ?_
      have hl7:l'.length=l.length+1:=by rw [hl'.out];simp
      have HU7:=hide (show Zc7 l' ((k+1:Nat):Int) x0.owner by rw [hl'.out];exact (HUP.out.push (by omega) HO.out hy0 hy1).more (by omega))
      have ST7:=hide st';clear st' hops ops
      go_wp2
      exact⟨⟨k+1,l',na,nc,by omega,by omega,by go_num,by omega,HU7,ST7.out⟩,by simp [intOf];omega⟩
   ·have hk6:¬(k:Int)<=6:=by omega
    have HLL:=hide hll;have HRI:=hide (show Zas { x0 with near:=l }=true by
     have h7:Zc7 l 7 x0.owner:=HUP.out.more (by omega)
     rw [HX0.out] at h7 |-;exact Zjy hy1 hy1' hy2 hy2' hy3 hy3' h7)
    clear c2';have yb:=ST.out.box;have ub:=ST.out.res;unfold recC at yb;unfold Ziy at ub
    (try simp only [] at yb)
    have y0:=Zaa yb 0;have y1:=Zaa yb 1;have y2:=Zaa yb 2;have y3:=Zaa yb 3;have y4:=Zaa yb 4;have y5:=Zaa yb 5;have y6:=Zaa yb 6;have y7:=Zaa yb 7;have u0:=Zaa ub 0;have u1:=Zaa ub 1;have u2:=Zaa ub 2;have u3:=Zaa ub 3;have u4:=Zaa ub 4;have u5:=Zaa ub 5;have u6:=Zaa ub 6;have u7:=Zaa ub 7;simp at y0 y1 y2 y3 y4 y5 y6 y7 u0 u1 u2 u3 u4 u5 u6 u7
    have fu:=Zae ub;clear yb ub
    go_wp2_with fail
    (try simp only [Exit.inBlock,Exit.then])
    have F:=ST.out.fin hp (by have:=Zab ST.out.box;omega)
    refine bodyPost_ret (results_cell_row rfl _ _ w.heap.size 40 (recC _ _) (0,0) _ rfl F.1 Tryz.underlying40 rfl (by kernel_rfl)) rfl ?_
    exact⟨_,_,rfl,F.2.2.2,(by show l.length<=6;have:=HLL.out;omega),HRI.out,F.2.1,F.2.2.1⟩
 ·rw [show (1:Int)+1=2 from rfl] at ST0 HX0
  have hz0:w4.heap.size=w4.heap.size:=rfl
  go_wp2_with fail
  obtain⟨z,hz⟩:∃ z,z=w4.heap.size:=⟨_,rfl⟩;rw [<-hz] at ST0 hsz4 |-;generalize w4.alloc (.cells #[.int .i64 y2,.int .i64 2,.int .i64 (1+y1),.int .i64 0,.int .i64 (1+y3),.slice none 0 0,.int .i64 0,.bool false] 40)=w5 at *;clear hz hz0;refine (ZaB p a len cap 5 _ ST0.out.cur (by omega) (by omega)).mono ?_
  rintro e w6 ⟨y4,rfl,hy4,hy4',hc6,hg6⟩;have ST6:=hide (ST0.out.grown hc6 hg6 hp hsz4);have wr4:IntKind.i64.wrap (1+y4)=1+y4:=ZaD _ (by omega) (by omega)
  have sb:=ST6.out.box;unfold recC at sb;have s3:=Zaa sb 3;have f3:=Zae sb;simp at s3
  have ST7:=hide (ST6.out.set 3 (.int .i64 (1+y4)) { x0 with key:=1+y4 } rfl rfl hp hsz4)
  clear hc6 hg6 ST0 ST6 sb;have hs7:(w6.setCell ⟨z,3,none⟩ (.int .i64 (1+y4))).heap.size=w6.heap.size:=by simp
  have fc:=Zh2 (w6.setCell ⟨z,3,none⟩ (.int .i64 (1+y4)));rw [hs7] at fc;have FC:=hide fc;have hp6:p<w6.heap.size:=by have:=ZaQ ST7.out.cur;omega
  clear hs7 fc
  go_wp2_with fail
  refine (Zco (fun z=>0<=z/\z<=60000) p a len cap w6.heap.size 5 _ (ZaX ST7.out.cur _) (by omega) (by omega) (by omega) FC.out).mono ?_
  rintro e w8 ⟨y5,rfl,hp5,hc8,hg8⟩;have ST8:=hide ((ST7.out.alloc _).grown hc8 hg8 hp hsz4);have sb:=ST8.out.box;unfold recC at sb;have s6:=Zaa sb 6;have f6:=Zae sb;simp at s6
  have ST9:=hide (ST8.out.set 6 (.int .i64 y5) { x0 with key:=1+y4,cost:=y5 } rfl rfl hp hsz4)
  have HRI:=hide (show Zas { x0 with key:=1+y4,cost:=y5 }=true by rw [HX0.out];exact ZhI hy1 hy1' hy2 hy2' hy3 hy3' hy4 hy4' hp5.1 hp5.2)
  have HL0:=hide (show x0.near.length<=6 by rw [HX0.out];simp)
  clear hc8 hg8 ST7 ST8 sb s3 f3 FC;have yb:=ST9.out.box;have ub:=ST9.out.res;unfold recC at yb;unfold Ziy at ub
  (try simp only [] at yb)
  have y0:=Zaa yb 0;have y1:=Zaa yb 1;have y2:=Zaa yb 2;have y3:=Zaa yb 3;have y4:=Zaa yb 4;have y5:=Zaa yb 5;have y6:=Zaa yb 6;have y7:=Zaa yb 7;have u0:=Zaa ub 0;have u1:=Zaa ub 1;have u2:=Zaa ub 2;have u3:=Zaa ub 3;have u4:=Zaa ub 4;have u5:=Zaa ub 5;have u6:=Zaa ub 6;have u7:=Zaa ub 7;simp at y0 y1 y2 y3 y4 y5 y6 y7 u0 u1 u2 u3 u4 u5 u6 u7
  have fu:=Zae ub;clear yb ub
  go_wp2_with fail
  (try simp only [Exit.inBlock,Exit.then])
  have F:=ST9.out.fin hp (by have:=Zab ST9.out.box;omega)
  refine bodyPost_ret (results_cell_row rfl _ _ w.heap.size 40 (recC _ _) (0,0) _ rfl F.1 Tryz.underlying40 rfl (by kernel_rfl)) rfl ?_
  exact⟨_,_,rfl,F.2.2.2,HL0.out,HRI.out,F.2.1,F.2.2.1⟩
 ·rw [show (1:Int)+2=3 from rfl] at ST0 HX0
  have hz0:w4.heap.size=w4.heap.size:=rfl;have ST5:=hide (ST0.out.set 0 (.int .i64 9) { x0 with area:=9 } rfl rfl hp hsz4)
  rw [World.setCell_alloc_new] at ST5
  go_wp2_with fail
  obtain⟨z,hz⟩:∃ z,z=w4.heap.size:=⟨_,rfl⟩;rw [<-hz] at ST0 ST5 hsz4 |-;have ST5':Hid (RcSt w (w4.alloc (.cells #[.int .i64 9,.int .i64 3,.int .i64 (1+y1),.int .i64 0,.int .i64 (1+y3),.slice none 0 0,.int .i64 0,.bool false] 40)) p w.heap.size z a len cap (.slice none 0 0) { x0 with area:=9 }):=ST5
  clear ST5;have ST5:=ST5';clear ST5' ST0;generalize w4.alloc (.cells #[.int .i64 9,.int .i64 3,.int .i64 (1+y1),.int .i64 0,.int .i64 (1+y3),.slice none 0 0,.int .i64 0,.bool false] 40)=w5 at *;clear hz hz0;refine (ZaB p a len cap 3 _ ST5.out.cur (by omega) (by omega)).mono ?_
  rintro e w6 ⟨y4,rfl,hy4,hy4',hc6,hg6⟩;have ST6:=hide (ST5.out.grown hc6 hg6 hp hsz4);have wr4:IntKind.i64.wrap (1+y4)=1+y4:=ZaD _ (by omega) (by omega)
  have sb:=ST6.out.box;unfold recC at sb;have s3:=Zaa sb 3;have f3:=Zae sb;simp at s3
  have ST7:=hide (ST6.out.set 3 (.int .i64 (1+y4)) { x0 with area:=9,key:=1+y4 } rfl rfl hp hsz4)
  clear hc6 hg6 ST5 ST6 sb;have hs7:(w6.setCell ⟨z,3,none⟩ (.int .i64 (1+y4))).heap.size=w6.heap.size:=by simp
  have fc:=Zhp (w6.setCell ⟨z,3,none⟩ (.int .i64 (1+y4)));rw [hs7] at fc;have FC:=hide fc;have hp6:p<w6.heap.size:=by have:=ZaQ ST7.out.cur;omega
  clear hs7 fc
  go_wp2_with fail
  refine (Zco (fun z=>(1<=z/\z<=1000)\/z=60000) p a len cap w6.heap.size 4 _ (ZaX ST7.out.cur _) (by omega) (by omega) (by omega) FC.out).mono ?_
  rintro e w8 ⟨y5,rfl,hp5,hc8,hg8⟩;have ST8:=hide ((ST7.out.alloc _).grown hc8 hg8 hp hsz4);have sb:=ST8.out.box;unfold recC at sb;have s6:=Zaa sb 6;have f6:=Zae sb;simp at s6
  have ST9:=hide (ST8.out.set 6 (.int .i64 y5) { x0 with area:=9,key:=1+y4,cost:=y5 } rfl rfl hp hsz4)
  have HL0:=hide (show x0.near.length<=6 by rw [HX0.out];simp)
  clear hc8 hg8 ST7 ST8 sb s3 f3 FC
  go_wp2_with fail
  refine (Zc2 p a len cap 2 _ ST9.out.cur (by omega) (by omega)).mono ?_
  rintro e wA ⟨b,rfl,hcA,hgA⟩;have STA:=hide (ST9.out.grown hcA hgA hp hsz4);have sb:=STA.out.box;unfold recC at sb;have s7:=Zaa sb 7;have f7:=Zae sb;simp at s7
  have STB:=hide (STA.out.set 7 (.bool b) { x0 with area:=9,key:=1+y4,cost:=y5,far:=b } rfl rfl hp hsz4)
  have HRI:=hide (show Zas { x0 with area:=9,key:=1+y4,cost:=y5,far:=b }=true by rw [HX0.out];exact Zil hy1 hy1' hy3 hy3' hy4 hy4' hp5)
  clear hcA hgA ST9 STA sb s6 f6;have yb:=STB.out.box;have ub:=STB.out.res;unfold recC at yb;unfold Ziy at ub
  (try simp only [] at yb)
  have y0:=Zaa yb 0;have y1:=Zaa yb 1;have y2:=Zaa yb 2;have y3:=Zaa yb 3;have y4:=Zaa yb 4;have y5:=Zaa yb 5;have y6:=Zaa yb 6;have y7:=Zaa yb 7;have u0:=Zaa ub 0;have u1:=Zaa ub 1;have u2:=Zaa ub 2;have u3:=Zaa ub 3;have u4:=Zaa ub 4;have u5:=Zaa ub 5;have u6:=Zaa ub 6;have u7:=Zaa ub 7;simp at y0 y1 y2 y3 y4 y5 y6 y7 u0 u1 u2 u3 u4 u5 u6 u7
  have fu:=Zae ub;clear yb ub
  go_wp2_with fail
  (try simp only [Exit.inBlock,Exit.then])
  have F:=STB.out.fin hp (by have:=Zab STB.out.box;omega)
  refine bodyPost_ret (results_cell_row rfl _ _ w.heap.size 40 (recC _ _) (0,0) _ rfl F.1 Tryz.underlying40 rfl (by kernel_rfl)) rfl ?_
  exact⟨_,_,rfl,F.2.2.2,HL0.out,HRI.out,F.2.1,F.2.2.1⟩
theorem Zcf {P:Program}(w:World)(dT sT ty elem:TypeId)(g o dLen dCap:Nat)(a:Addr)(sLen sCap sz:Nat)(cur:Array Value)(t:TypeId)(cs:List Value)
  (hu:P.underlying dT=some (.slice elem)) (hs:(P.info? elem).map (·.size)=some sz)
  (hg:w.heap[g]? = some (.cells cur t (0,0))) (hn:cs.length=Nat.min sLen dLen*sz)
  (hsrc:∀ j v,cs[j]? = some v->w.cell? (a.add j)=some v) (hfit:o+cs.length<=cur.size) (h1:∀ v∈cs,v.oneCell'=true):
  (Builtin.copy_ #[dT,sT] ty #[.slice (some ⟨g,o,none⟩) dLen dCap,.slice (some a) sLen sCap]).run P w =
   .ok (goInt (Nat.min sLen dLen)) (w.setRow g (cur.toList.take o++cs++cur.toList.drop (o+cs.length)).toArray):=by
 have hl:=run_loadCells_list (P:=P) w a cs hsrc;have hst:=run_storeCells_at P g o t cs 0 cur w hg (by simpa using hfit) h1
 cases hq:P.info? elem with
 | none=>simp [hq] at hs
 | some i=>
  have hi:i.size=sz:=by simpa [hq] using hs
  simp [Builtin.copy_,run_underlying hu,Builtin.lenOf,Builtin.firstCells,sizeOf,typeInfo,hq,hi, <-hn,hl,hst]
theorem Zg8 {P:Program}(w:World)(t t2 ty e:TypeId)(i:TypeInfo)(ht:P.underlying t=some (.slice e))(ht2:P.underlying t2=some (.slice e))(hi:P.info? e=some i)(b:Option Addr)(n c:Nat)(x:Value):
  (Builtin.append_ #[t,t2] ty #[.slice b n c,x]).run P w=(Builtin.append_ #[t,t] ty #[.slice b n c,x]).run P w:=by
 simp [Builtin.append_,run_underlying ht,run_underlying ht2,sizeOf,typeInfo,hi]
theorem Zmq (cur D R:List Value)(a d:Nat)(hD:D.length=d)(hR:R.length=8)(hc:a+8+d<=cur.length):
  ((cur.take (a+8)++D++cur.drop (a+8+D.length)).take a++R++(cur.take (a+8)++D++cur.drop (a+8+D.length)).drop (a+R.length))=cur.take a++R++D++cur.drop (a+8+d):=by
 have e1:(cur.take (a+8)++D++cur.drop (a+8+D.length)).take a=cur.take a:=by
  rw [List.append_assoc,List.take_append_of_le_length (by simp;omega),List.take_take,Nat.min_eq_left (by omega)]
 have e2:(cur.take (a+8)++D++cur.drop (a+8+D.length)).drop (a+R.length)=D++cur.drop (a+8+d):=by
  rw [hR,List.append_assoc,List.drop_append_of_le_length (by simp;omega),List.drop_of_length_le (by simp;omega),List.nil_append,hD]
 rw [e1,e2,List.append_assoc,List.append_assoc,List.append_assoc]
theorem Zea {A B C D:List Value}{n:Nat}(h:A.length+B.length+C.length=n):(A++B++C++D).take n=A++B++C:=by
 rw [List.take_append_of_le_length (by simp;omega),List.take_of_length_le (by simp;omega)]
theorem Zho (ps:List RP)(i:Nat)(h:i<=ps.length):(flat encP ps).take (i*8)=flat encP (ps.take i):=by
 conv=>lhs;rw [<-List.take_append_drop i ps,ZaL]
 have e:(flat encP (ps.take i)).length=i*8:=by rw [Zbt ZaK,List.length_take,Nat.min_eq_left h]
 rw [<-e,List.take_left]
theorem Zhn (ps:List RP)(i:Nat)(h:i<=ps.length):(flat encP ps).drop (i*8)=flat encP (ps.drop i):=by
 conv=>lhs;rw [<-List.take_append_drop i ps,ZaL]
 have e:(flat encP (ps.take i)).length=i*8:=by rw [Zbt ZaK,List.length_take,Nat.min_eq_left h]
 rw [<-e,List.drop_left]
theorem ZkZ (r:RP):flat encP [r]=encP r:=by simp [flat]
theorem ZgK (ps:List RP)(r:RP)(i:Nat):flat encP (ps.take i++[r]++ps.drop i)=flat encP (ps.take i)++encP r++flat encP (ps.drop i):=by
 rw [ZaL,ZaL,ZkZ]
theorem Zh8 (ps:List RP)(r:RP)(i:Nat)(h:i<=ps.length):(ps.take i++[r]++ps.drop i).length=ps.length+1:=by
 simp
 omega
theorem ZeA (ps:List RP)(h:∀ p∈ps,∃ a n c,p.2=.slice a n c):∀ u∈flat encP ps,u.oneCell'=true:=by
 intro u hu;simp only [flat,List.mem_flatMap] at hu
 obtain⟨p,hp,hu⟩:=hu;obtain⟨a,n,c,e⟩:=h p hp;obtain⟨x,v⟩:=p;simp only at e
 subst e;exact Zbm x a n c u hu
end Go.Proofs.YtcimbiinljcifaaGreat
