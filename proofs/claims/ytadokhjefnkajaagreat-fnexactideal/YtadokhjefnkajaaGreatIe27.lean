/-
  HeardI AreaM
-/
import Derived.Test.YtadokhjefnkajaaGreatIe22
import Derived.Test.YtadokhjefnkajaaGreatIe11
import Derived.Test.YtadokhjefnkajaaGreatIe20
import Derived.Deep.RegionHeld3
namespace Go.Proofs.YtadokhjefnkajaaGreat
open Go.RowKit
set_option linter.unusedSimpArgs false
set_option linter.unusedVariables false
set_option maxRecDepth 100000
set_option maxHeartbeats 8000000
def heE (p:Int × Int):List Value:=[.int .i64 p.1,.int .i64 p.2]
theorem ZmH (p:Int × Int):(heE p).length=2:=rfl
theorem ZpF (p:Int × Int):∀ u∈heE p,u.oneCell'=true:=by
 intro u hu;simp only [heE,List.mem_cons,List.not_mem_nil,or_false] at hu
 rcases hu with rfl | rfl <;> rfl
def ZgR (W:World)(v:Value)(ls:List (Int × Int))(B:Nat):Prop:=ZaN heE 2 W v ls B
instance:Inhabited (Int × Int):=⟨(0,0)⟩
theorem ZgR.shape {W:World}{v:Value}{ls:List (Int × Int)}{B:Nat}(h:ZgR W v ls B):∃ a cap,v=.slice a ls.length cap:=by
 obtain⟨a,cap,h,_⟩:=h;exact⟨a,cap,h⟩
theorem ZgR.cells {W:World}{v:Value}{ls:List (Int × Int)}{B:Nat}(h:ZgR W v ls B)(i:Nat)(p:Int × Int)(hp:ls[i]? = some p):
  ∃ b off cap,v=.slice (some ⟨b,off,none⟩) ls.length cap/\b<B/\W.cell? ⟨b,off+i*2,none⟩=some (.int .i64 p.1)/\W.cell? ⟨b,off+i*2+1,none⟩=some (.int .i64 p.2):=by
 obtain⟨b,off,cap,hv,hb,hc⟩:=ZaN.cell h ZmH i p hp;exact⟨b,off,cap,hv,hb,hc 0 _ rfl,hc 1 _ rfl⟩
theorem Tryz.infoEnd:(Tryz.prog.info? 168).map (fun i=>(i.zero,i.size,i.bytes))=some (some (.agg #[.int .i64 0,.int .i64 0]),2,16):=by kernel_rfl
theorem Ze2 {α:Type}{enc:α->List Value}{sz bytes:Nat}(hlen:∀ a,(enc a).length=sz)(hpos:0<sz)(hbb:bytes<=100){P:Program}{ops:Array Oper}{o:Oper}{a:Act}{w:World}{K:Act->World->Prop}{Q:Exit->Act->World->Prop}{E:Prop}(hgd:o.guard=none)(s x:Operand)(t:TypeId)
  (ho:o.op=.call { callee:=.builtin .append,args:=#[s,x],argTypes:=#[t,t] }) (base:Nat) (e:TypeId) (ht:P.underlying t=some (.slice e)) (zv:Value) (hzv:zv.cells.size=sz)
  (hinfo:(P.info? e).map (fun i=>(i.zero,i.size,i.bytes))=some (some zv,sz,bytes))
  (v:Value) (l:List α) (y:α) (hone:∀ u∈enc y,u.oneCell'=true) (hs:a.eval s=v) (hown:w.ownsRow base e sz v l.length (flat enc l))
  (ad:Addr) (c:Nat) (hx:a.eval x=.slice (some ad) 1 c) (hnews:∀ j u,(enc y)[j]? = some u->w.cell? (ad.add j)=some u)
  (hl:l.length+1<=1000000000) (hbase:base<=w.heap.size)
  (h:∀ v' w',w'.ownsRow base e sz v' (l++[y]).length (flat enc (l++[y]))->w.grownBy w' v.ownBlock->K (a.put o.dst v') w'):
  if Region.wanted o (yielded ops a.tmps)=true then Oper.wp P o a w K Q else E:=by
 have hw:Region.wanted o (yielded ops a.tmps)=true:=by simp [Region.wanted,hgd]
 rw [if_pos hw];obtain⟨i0,hi,hz0,hz1,hz2⟩:=info_parts hinfo;refine wp_append_own w s x t ho base e i0 zv sz bytes ht hi hz0 hz1 hz2 hzv hpos v l.length (flat enc l) hs hown ad 1 c (enc y) hx (by rw [hlen];omega) hnews hone (by unfold maxLen;omega) ?_ hbase ?_
 ·have:(l.length+1)*bytes<=1000000000*100:=Nat.mul_le_mul hl hbb
  omega
 ·intro v' w' h1 h2 _
  have e1:flat enc l++enc y=flat enc (l++[y]):=by rw [ZaH];simp [flat]
  rw [e1] at h1;exact h v' w' (by simpa using h1) h2
theorem ZhO (v:Value)(h:List Int)(w:World)(hn:h.length<=1048576)(hv:ZaM w v h w.heap.size):
  Calls Tryz.prog 145 #[v] w fun e w'=>∃ u,e=.returned u/\w'.ownsRow w.heap.size 168 2 u (ZaJ h).length (flat heE (ZaJ h))/\Below w.heap.size w w':=by
 obtain⟨a,cap,rfl⟩:=hv.shape;have HV:=hide hv;have hpl:=ZeZ h;have HPL:=hide hpl;clear hv hpl
 go_enter Tryz.func145,Tryz.ntmps145
 go_wp2
 go_loopw [4,3] (fun i o wr=>∃ (k:Nat) (u:Value),2*k<=h.length/\i=.int .i64 (2*(k:Int)+1)/\o=u/\wr.ownsRow w.heap.size 168 2 u ((ZaJ h).take k).length (flat heE ((ZaJ h).take k))/\Below w.heap.size w wr) (fun i _ _=>h.length+2-(intOf i).toNat)
 case atStart=>exact ⟨0,_,by omega,by simp,rfl,World.ownsRow_nil _ _ _ _,Below.refl _ _⟩
 case round=>
  obtain⟨k,u,hk,rfl,rfl,hown,hb⟩:=hrel;have hsz:=hb.size;obtain⟨ua,uc,hue⟩:=Zac hown;have htl:((ZaJ h).take k).length=k:=by rw [List.length_take,HPL.out];omega
  by_cases hlt:2*k+1<h.length
  ·have hj0:(2*(k:Int)+1)<(h.length:Int):=by omega
   obtain⟨x,hx⟩:∃ x,h[2*k]? = some x:=⟨h[2*k],List.getElem?_eq_getElem (by omega)⟩
   obtain⟨y,hy⟩:∃ y,h[2*k+1]? = some y:=⟨h[2*k+1],List.getElem?_eq_getElem hlt⟩;obtain⟨b,off,cap',hve,hbb,c0⟩:=HV.out.cell (2*k) x hx;cases hve
   obtain⟨b',off',cap2,hve2,hbb2,d0⟩:=HV.out.cell (2*k+1) y hy;cases hve2
   rw [<-hb.cell (p:=⟨b,off+2*k,none⟩) hbb] at c0;rw [<-hb.cell (p:=⟨b,off+(2*k+1),none⟩) hbb] at d0;have HST:=hide (ZlT h k x y hx hy);have hbr:b<wr.heap.size:=by omega
   have e1:(2*(k:Int)+1)-1=((2*k:Nat):Int):=by omega
   have e2:(2*(k:Int)+1)=((2*k+1:Nat):Int):=by omega
   have hw1:IntKind.i64.wrap (2*(k:Int)+1-1)=2*(k:Int)+1-1:=ZaK _ (by omega) (by omega)
   subst hue;clear hx hy;have HOW:=hide hown;have HVV:=hide HV;clear hown HV;have q1:(0:Int)<=2*(k:Int):=by omega
   have q2:2*(k:Int)<(h.length:Int):=by omega
   have q3:(0:Int)<=2*(k:Int)+1:=by omega
   have q4:(2*(k:Int)).toNat=2*k:=by omega
   have q5:(2*(k:Int)+1).toNat=2*k+1:=by omega
   have q6:2*(k:Int)+1-1=2*(k:Int):=by omega
   rw [q6] at hw1;rw [htl] at HOW |-;clear e1 e2;have HNE:some b≠(Value.slice ua k uc).ownBlock:=fun e=>by have:=(HOW.out.lt b e.symm).1;omega
   go_wp2
   go_region_held3 (fun W=>W.cell? ⟨b,off+2*k,none⟩=some (.int .i64 x)/\W.cell? ⟨b,off+(2*k+1),none⟩=some (.int .i64 y)) (first | go_keep | exact ⟨hgrow.cell ((((Below.refl wr.heap.size wr).alloc (Nat.le_refl _) _).drew.cell hbr).trans c0) HNE,hgrow.cell ((((Below.refl wr.heap.size wr).alloc (Nat.le_refl _) _).drew.cell hbr).trans d0) HNE⟩) (first | (refine Ze2 ZmH (by omega) (by omega) rfl _ _ 165 rfl w.heap.size 168 Tryz.underlying165 (.agg #[.int .i64 0,.int .i64 0]) rfl Tryz.infoEnd (.slice ua k uc) ((ZaJ h).take k) (x,y) (ZpF _) rfl ?_ ⟨wr.heap.size,0,none⟩ 1 rfl ?_ ?_ ?_ ?_;(rw [htl];exact (HOW.out.alloc _).drew);(exact Zay (cs:=heE (x,y)));(omega);(simp;omega);intro v' w1 hown' hgrow))
   have hgs:=hgrow.size;simp at hgs
   have BF:Below w.heap.size w w1:=(hb.alloc hsz _).drew.grown hgrow (by simp;omega) (fun k hk=>(HOW.out.lt k hk).1)
   have HO:=hide hown';clear hown' hgrow
   go_wp2
   go_roundw
   case rel=>exact ⟨k+1,v',by omega,by go_num,rfl,by rw [HST.out];exact HO.out,BF⟩
   case measure=>simp [intOf];omega
  ·have hj0:¬(2*(k:Int)+1)<(h.length:Int):=by omega
   have KN:=hide (show (ZaJ h).take k=ZaJ h by rw [List.take_of_length_le];rw [HPL.out];omega)
   subst hue;have OW:=hide hown;clear hown
   go_wp2
   go_ret
   have h1:=OW.out;rw [KN.out] at h1;exact⟨_,by rw [<-KN.out,htl];rfl,h1,hb⟩
theorem ZiW {f r u:Int}{l:Lk}:u∈hits f r l↔Zbx f u r l=true:=by
 simp only [hits,hit1,hit2,Zbx,List.mem_append]
 by_cases h1:l.a=f/\l.r=r <;> by_cases h2:l.b=f/\l.r=r <;> simp [h1,h2] <;> grind
theorem ZkF {ls:List Lk}{f r u:Int}:u∈gath ls f r ls.length↔∃ l∈ls,Zbx f u r l=true:=by
 unfold gath;rw [List.take_length,List.mem_flatMap];exact⟨fun ⟨l,hl,hu⟩=>⟨l,hl,ZiW.1 hu⟩,fun ⟨l,hl,hu⟩=>⟨l,hl,ZiW.2 hu⟩⟩
theorem ZiC {n:Int}{ls:List Lk}(h:∀ l∈ls,ZaY n l=true)(f t r:Int):0<Zcw ls f t r↔∃ l∈ls,Zbx f t r l=true:=by
 constructor
 ·intro hc
  exact Zmx (by omega)
 ·rintro ⟨l,hl,hh⟩
  unfold Zcw;cases hf:ls.find? (Zbx f t r) with
  | none=>exact absurd hh (by simpa using List.find?_eq_none.1 hf l hl)
  | some m=>
   have:=h m (List.mem_of_find?_eq_some hf);unfold ZaY inB at this;simp only [Bool.and_eq_true,decide_eq_true_eq] at this
   simp
   omega
theorem Znc {n:Int}{ls:List Lk}(h:∀ l∈ls,ZaY n l=true)(f r:Int):decide (0<(Zfz ls f r).length)=decide (0<(ZdF ls f r).length):=by
 rw [ZkY,decide_eq_decide,List.length_pos_iff_exists_mem,List.length_pos_iff_exists_mem]
 constructor
 ·rintro ⟨u,hu⟩
  obtain⟨l,hl,hh⟩:=ZkF.1 hu;have h1:=h l hl;unfold ZaY inB at h1;simp only [Bool.and_eq_true,decide_eq_true_eq] at h1
  have h2:=hh;unfold Zbx at h2;simp only [Bool.and_eq_true,Bool.or_eq_true,beq_iff_eq] at h2
  refine⟨u,?_⟩
  unfold ZdF;refine List.mem_filter.2 ⟨?_,decide_eq_true ((ZiC h f u r).2 ⟨l,hl,hh⟩)⟩
  have:1<=u/\u<=6:=by omega
  have:u=1\/u=2\/u=3\/u=4\/u=5\/u=6:=by omega
  simpa using this
 ·rintro ⟨u,hu⟩
  unfold ZdF at hu;obtain⟨l,hl,hh⟩:=(ZiC h f u r).1 (by simpa using (List.mem_filter.1 hu).2)
  exact⟨u,ZkF.2 ⟨l,hl,hh⟩⟩
theorem ZdP {n:Int}{ls:List Lk}(h:∀ l∈ls,ZaY n l=true)(f:Int):ZbK ls f=ZaB ls f:=by
 unfold ZbK ZaB
 congr 1
 funext r
 exact Znc h f r
theorem Zmq {n:Int}{ls:List Lk}(h:∀ l∈ls,ZaY n l=true)(f:Int):ZhB ls f=Ze9 ls f:=by
 unfold ZhB Ze9;rw [ZdP h]
end Go.Proofs.YtadokhjefnkajaaGreat
