/-
  IBefM PlaceK InstK PlaceJ PutS ListKit
-/
import Derived.Test.YtgdgkgmjpnbbcaaGreatOn2
import Derived.Test.YtgdgkgmjpnbbcaaGreatOn1
namespace Go.Proofs.YtgdgkgmjpnbbcaaGreat
open Go.RowKit
set_option linter.unusedSimpArgs false
set_option linter.unusedVariables false
set_option maxRecDepth 100000
set_option maxHeartbeats 8000000
def cmpK (a b c d:Int):Int:=if a=0 then (if b=0 then (if c=0 then d else c) else b) else a
theorem Znr (x y:RecD):decide (cmpK (cmpN x.area y.area) (cmpN x.kind y.kind) (cmpN x.owner y.owner) (cmpN x.key y.key)<0)=Zas x y:=by
 unfold cmpK Zas;by_cases h1:x.area=y.area
 ·rw [if_pos (Zbc.2 h1)]
  by_cases h2:x.kind=y.kind
  ·rw [if_pos (Zbc.2 h2)]
   by_cases h3:x.owner=y.owner
   ·rw [if_pos (Zbc.2 h3)]
    simp [ZdA,h1,h2,h3]
   ·rw [if_neg (fun h=>h3 (Zbc.1 h))]
    simp [ZdA,h1,h2,h3]
  ·rw [if_neg (fun h=>h2 (Zbc.1 h))]
   simp [ZdA,h1,h2]
 ·rw [if_neg (fun h=>h1 (Zbc.1 h))]
  simp [ZdA,h1]
theorem Zja (p q:Nat)(a b c d a' b' c' d':Int)(w:World)(h:Zej w p a b c d)(h':Zej w q a' b' c' d'):
  Calls Tryz.prog 116 #[.slice (some ⟨p,0,none⟩) 4 4,.slice (some ⟨q,0,none⟩) 4 4] w fun e w'=>e=.returned (.int .i64 (cmpK (cmpN a a') (cmpN b b') (cmpN c c') (cmpN d d')))/\w=w':=by
 obtain⟨⟨h0,h1,h2,h3⟩,_⟩:=h;obtain⟨⟨g0,g1,g2,g3⟩,_⟩:=h';have C0:=hide (Zbt a a');have C1:=hide (Zbt b b');have C2:=hide (Zbt c c');have C3:=hide (Zbt d d');generalize cmpN a a'=k0 at C0 |-;generalize cmpN b b'=k1 at C1 |-;generalize cmpN c c'=k2 at C2 |-;generalize cmpN d d'=k3 at C3 |-
 go_enter Tryz.func116,Tryz.ntmps116
 go_wp2
 refine wp_loop_rounds 5 ?_
 rw [rounds_succ]
 go_wp2_with fail
 refine (C0.out _).mono ?_
 rintro e w1 ⟨rfl,rfl⟩;by_cases z0:k0=0
 case neg=>
  have hd:(k0 != 0)=true:=by simpa using z0
  have E0:=hide (show cmpK k0 k1 k2 k3=k0 by unfold cmpK;rw [if_neg z0])
  clear z0
  go_wp2
  go_ret
  exact⟨Zi9 E0.out,rfl⟩
 subst z0
 go_wp2
 rw [rounds_succ]
 go_wp2_with fail
 refine (C1.out _).mono ?_
 rintro e w1 ⟨rfl,rfl⟩;by_cases z1:k1=0
 case neg=>
  have hd:(k1 != 0)=true:=by simpa using z1
  have E0:=hide (show cmpK 0 k1 k2 k3=k1 by unfold cmpK;rw [if_pos rfl,if_neg z1])
  clear z1
  go_wp2
  go_ret
  exact⟨Zi9 E0.out,rfl⟩
 subst z1
 go_wp2
 rw [rounds_succ]
 go_wp2_with fail
 refine (C2.out _).mono ?_
 rintro e w1 ⟨rfl,rfl⟩;by_cases z2:k2=0
 case neg=>
  have hd:(k2 != 0)=true:=by simpa using z2
  have E0:=hide (show cmpK 0 0 k2 k3=k2 by unfold cmpK;rw [if_pos rfl,if_pos rfl,if_neg z2])
  clear z2
  go_wp2
  go_ret
  exact⟨Zi9 E0.out,rfl⟩
 subst z2
 go_wp2
 rw [rounds_succ]
 go_wp2_with fail
 refine (C3.out _).mono ?_
 rintro e w1 ⟨rfl,rfl⟩;by_cases z3:k3=0
 case neg=>
  have hd:(k3 != 0)=true:=by simpa using z3
  have E0:=hide (show cmpK 0 0 0 k3=k3 by unfold cmpK;rfl)
  clear z3
  go_wp2
  go_ret
  exact⟨Zi9 E0.out,rfl⟩
 subst z3
 go_wp2
 rw [rounds_succ]
 go_wp2
 go_ret
 exact⟨Zi9 rfl,rfl⟩
theorem Zib (a b c d a' b' c' d':Int)(w:World):Calls Tryz.prog 95 #[.agg #[.int .i64 a,.int .i64 b,.int .i64 c,.int .i64 d],.agg #[.int .i64 a',.int .i64 b',.int .i64 c',.int .i64 d']] w fun e w'=>e=.returned (.int .i64 (cmpK (cmpN a a') (cmpN b b') (cmpN c c') (cmpN d d')))/\Below w.heap.size w w':=by
 obtain⟨r,hr⟩:∃ r,r=cmpK (cmpN a a') (cmpN b b') (cmpN c c') (cmpN d d'):=⟨_,rfl⟩;obtain⟨w1,hw1⟩:∃ w1,w1=(w.alloc (.cells #[.int .i64 a,.int .i64 b,.int .i64 c,.int .i64 d] 145)).alloc (.cells #[.int .i64 a',.int .i64 b',.int .i64 c',.int .i64 d'] 145):=⟨_,rfl⟩;have B1:Below w.heap.size w w1:=by rw [hw1];exact Za6 _ _
 have p0:w1.heap[w.heap.size]? = some (.cells #[.int .i64 a,.int .i64 b,.int .i64 c,.int .i64 d] 145):=by rw [hw1,Below.heap_alloc _ _ _ (by simp),heap_alloc_new]
 have q0:w1.heap[w.heap.size+1]? = some (.cells #[.int .i64 a',.int .i64 b',.int .i64 c',.int .i64 d'] 145):=by
  rw [hw1];have:=heap_alloc_new (w.alloc (.cells #[.int .i64 a,.int .i64 b,.int .i64 c,.int .i64 d] 145)) (.cells #[.int .i64 a',.int .i64 b',.int .i64 c',.int .i64 d'] 145)
  simpa using this
 have kp:Zej w1 w.heap.size a b c d:=⟨⟨Zaa p0 0,Zaa p0 1,Zaa p0 2,Zaa p0 3⟩,Zae p0 0,Zae p0 1,Zae p0 2,Zae p0 3⟩;have kq:Zej w1 (w.heap.size+1) a' b' c' d':=⟨⟨Zaa q0 0,Zaa q0 1,Zaa q0 2,Zaa q0 3⟩,Zae q0 0,Zae q0 1,Zae q0 2,Zae q0 3⟩;have HC:=hide (fun W' (h:w1.heap=W'.heap)=>Zja w.heap.size (w.heap.size+1) a b c d a' b' c' d' W' (kp.same h) (kq.same h))
 rw [<-hr] at HC |-;clear kp kq p0 q0 hr
 go_enter Tryz.func95,Tryz.ntmps95
 go_wp2
 rw [<-hw1];clear hw1
 go_region_held3 (fun W'=>w1.heap=W'.heap) (first | rfl | assumption | go_keep) (first | (go_at_call 116;refine (HC.out _ ?_).mono ?_;(first | rfl | assumption);rintro e w3 ⟨rfl,rfl⟩))
 go_wp2
 go_ret
 exact⟨rfl,B1.drew⟩
def atZ (xs:List RecD)(r:RecD):Int:=match xs.findIdx? (fun x=>ZaN x r) with
 | some i=>(i:Int)
 | none => -1
theorem ZlQ {xs:List RecD}{r x:RecD}{k:Nat}(hk:xs[k]? = some x)(hs:ZaN x r=true)(hall:∀ j,j<k->∀ y,xs[j]? = some y->ZaN y r=false):atZ xs r=(k:Int):=by
 obtain⟨h1,e1⟩:=List.getElem?_eq_some_iff.1 hk;have:xs.findIdx? (fun x=>ZaN x r)=some k:=by
  rw [List.findIdx?_eq_some_iff_getElem];refine⟨h1,by rw [e1];exact hs,fun j hj=>?_⟩
  have:=hall j hj xs[j] (List.getElem?_eq_getElem (by omega))
  simp [this]
 unfold atZ;rw [this]
theorem Znn {xs:List RecD}{r:RecD}(hall:∀ j,j<xs.length->∀ y,xs[j]? = some y->ZaN y r=false):atZ xs r = -1:=by
 have:xs.findIdx? (fun x=>ZaN x r)=none:=by
  rw [List.findIdx?_eq_none_iff];intro x hx;obtain⟨i,hi,e⟩:=List.getElem_of_mem hx;exact hall i hi x (by rw [<-e];exact List.getElem?_eq_getElem hi)
 unfold atZ;rw [this]
theorem ZeQ (xs:List RecD)(r:RecD):atZ xs r = -1\/∃ (k:Nat) (x:RecD),atZ xs r=(k:Int)/\xs[k]? = some x/\ZaN x r=true:=by
 unfold atZ;cases h:xs.findIdx? (fun x=>ZaN x r) with
 | none=>exact .inl rfl
 | some i=>
  obtain⟨h1,h2,_⟩:=List.findIdx?_eq_some_iff_getElem.1 h;exact .inr ⟨i,xs[i],rfl,List.getElem?_eq_getElem h1,h2⟩
structure RecsIn (W:World) (hi:Nat) (v:Value) (ps:List RP):Prop where
 row:W.ownsRow 0 59 8 v ps.length (flat encP ps)
 top:∀ k,v.ownBlock=some k->k<hi
 nears:∀ p∈ps,ZaJ W 0 hi p
theorem RecsOwn.in {W:World}{lo hi:Nat}{v:Value}{ps:List RP}(h:RecsOwn W lo hi v ps):RecsIn W hi v ps:=⟨Zah h.row (Nat.zero_le _),h.top,fun p hp=>(h.nears p hp).wide (Nat.zero_le _) (Nat.le_refl _)⟩
theorem RecsIn.keep {W W':World}{hi:Nat}{v:Value}{ps:List RP}(h:RecsIn W hi v ps)(hk:∀ k,k<hi->k<W.heap.size->W'.heap[k]? = W.heap[k]?):RecsIn W' hi v ps where
 row:=Zao h.row (fun k e=>hk k (h.top k e) (h.row.lt k e).2)
 top:=h.top
 nears:=fun p hp=>(h.nears p hp).keep (fun k _ h2 h3=>hk k h2 h3)
theorem RecsIn.below {W W':World}{hi B:Nat}{v:Value}{ps:List RP}(h:RecsIn W hi v ps)(hb:Below B W W')(hB:hi<=B):RecsIn W' hi v ps:=h.keep (fun k h2 _=>hb.block k (by omega))
theorem RecsIn.wide {W:World}{hi hi':Nat}{v:Value}{ps:List RP}(h:RecsIn W hi v ps)(hh:hi<=hi'):RecsIn W hi' v ps:=⟨h.row,fun k e=>Nat.lt_of_lt_of_le (h.top k e) hh,fun p hp=>(h.nears p hp).wide (Nat.le_refl _) hh⟩
theorem RecsIn.at {W:World}{hi:Nat}{v:Value}{ps:List RP}(h:RecsIn W hi v ps):ZbK W v ps hi:=by
 refine⟨?_,fun p hp=>(h.nears p hp).at⟩
 have h1:=Zar h.row;obtain⟨a,cap,hv,h2⟩:=h1;refine⟨a,cap,hv,?_⟩
 rcases h2 with h0 | ⟨b,off,ha,hb1,hx⟩
 ·exact .inl h0
 ·exact .inr ⟨b,off,ha,h.top b (by rw [hv,ha];rfl),hx⟩
theorem ZiE (v:Value)(ps:List RP)(hi:Nat)(w:World)(hv:RecsIn w hi v ps)(hhi:hi<=w.heap.size)(hn:tot ps<=1048576):
  Calls Tryz.prog 22 #[v] w fun e w'=>∃ x qs,e=.returned x/\fsts qs=fsts ps/\RecsOwn w' w.heap.size w'.heap.size x qs/\Below w.heap.size w w':=by
 have hnl:=ZbI ps;obtain⟨a1,c1,rfl⟩:=Zac hv.row;have HV:=hide hv;clear hv;have R0:=hide (Zfg w w.heap.size (Nat.le_refl _));have B0:Below w.heap.size w (w.alloc (.cells #[] 59)):=(Below.refl _ _).alloc (Nat.le_refl _) _
 go_enter Tryz.func22,Tryz.ntmps22
 go_wp2
 generalize w.alloc (.cells #[] 59)=w0 at *
 go_loopw [4,3] (fun i o wr=>∃ (k:Nat) (qs:List RP) (u:Value),k<=ps.length/\i=.int .i64 k/\o=u/\fsts qs=fsts (ps.take k)/\RecsOwn wr w.heap.size wr.heap.size u qs/\Below w.heap.size w wr) (fun i _ _=>ps.length-(intOf i).toNat)
 case atStart=>exact ⟨0,[],_,by omega,rfl,rfl,by simp [fsts],R0.out,B0⟩
 case round=>
  obtain⟨k,qs,u,hk,rfl,rfl,hmap,hown,hnx⟩:=hrel;obtain⟨ua,uc,rfl⟩:=Zac hown.row;have hsz:=hnx.size;by_cases hlt:k<ps.length
  ·obtain ⟨p,hp⟩:∃ p,ps[k]? = some p:=⟨ps[k],List.getElem?_eq_getElem hlt⟩
   have hat:=HV.out.at;obtain⟨b,off,cap',hve,hbb,c0,c1,c2,c3,c4,c5,c6,c7,_⟩:=hat.cells k p hp;cases hve
   rw [<-hnx.cell (p:=⟨b,off+k*8,none⟩) (Nat.lt_of_lt_of_le hbb hhi)] at c0;rw [<-hnx.cell (p:=⟨b,off+k*8+1,none⟩) (Nat.lt_of_lt_of_le hbb hhi)] at c1;rw [<-hnx.cell (p:=⟨b,off+k*8+2,none⟩) (Nat.lt_of_lt_of_le hbb hhi)] at c2;rw [<-hnx.cell (p:=⟨b,off+k*8+3,none⟩) (Nat.lt_of_lt_of_le hbb hhi)] at c3;rw [<-hnx.cell (p:=⟨b,off+k*8+4,none⟩) (Nat.lt_of_lt_of_le hbb hhi)] at c4;rw [<-hnx.cell (p:=⟨b,off+k*8+5,none⟩) (Nat.lt_of_lt_of_le hbb hhi)] at c5;rw [<-hnx.cell (p:=⟨b,off+k*8+6,none⟩) (Nat.lt_of_lt_of_le hbb hhi)] at c6;rw [<-hnx.cell (p:=⟨b,off+k*8+7,none⟩) (Nat.lt_of_lt_of_le hbb hhi)] at c7;have hno:=(HV.out.nears p (List.mem_of_getElem? hp)).keep (W':=wr) (fun j _ h2 _=>hnx.block j (by omega))
   obtain⟨pa,pc,hpn⟩:=Zac hno.1;have HC:=ZlZ p.1 p.2 0 wr hno.1 (by have:=ZgX (List.mem_of_getElem? hp);omega)
   unfold recC at HC;rw [hpn] at c5 HC;have HCP:=hide HC;have HP:=hide hp;have HM:=hide hmap;have OW:=hide hown;have HQL:=hide (show qs.length<=1048576 by
    have h1:=congrArg List.length hmap;simp [fsts] at h1
    omega)
   clear hp hmap hown hno hpn HC hat;have hki:(0:Int)<=(k:Int):=by omega
   have hkj:(k:Int)<(ps.length:Int):=by omega
   go_wp2_with fail
   refine HCP.out.mono ?_
   rintro e w2 ⟨v1,rfl,hn2,b2⟩;obtain⟨n1a,n1c,rfl⟩:=Zac hn2;have b2s:=b2.size
   go_wp2_with (first
    | (at_builtin;refine ZaG Zbb (by omega) (by omega) _ rfl _ _ 33 rfl w.heap.size 59 Tryz.underlying33 (.agg (recC ZbM (.slice none 0 0))) rfl Tryz.infoRec _ qs (p.1,.slice n1a p.1.near.length n1c) (Zca _ _ _ _) rfl ((Zaf OW.out.row b2 (Nat.le_refl _)).alloc _) ⟨w2.heap.size,0,none⟩ 1 rfl (Zap (cs:=encP (p.1,.slice n1a p.1.near.length n1c))) (by have:=HQL.out;omega) (by simp;omega) ?_))
   intro v' w4 hown' hgrow;have ow4:=OW.out.push (p:=(p.1,.slice n1a p.1.near.length n1c)) (b2.alloc b2.size _) (by omega) (ZaJ.wide (ZaJ.keep ⟨hn2,fun k hk=>(hn2.lt k hk).2⟩ (fun j _ _ h3=>Below.heap_alloc _ _ _ h3)) (Nat.le_refl _) (by simp)) hown' hgrow
   obtain⟨va,vc,rfl⟩:=Zac hown';have B4:Below w.heap.size w w4:=((hnx.trans (b2.mono hsz)).alloc (by omega) _).grown hgrow (by simp;omega) (fun k hk=>(OW.out.row.lt k hk).1)
   have OW4:=hide ow4;clear ow4 hown' hgrow hn2
   go_wp2
   go_roundw
   case rel=>exact ⟨k+1,qs++[(p.1,.slice n1a p.1.near.length n1c)],_,by omega,by go_num,rfl,by rw [show fsts (ps.take (k+1))=fsts (ps.take k)++[p.1] from map_take HP.out, <-HM.out];simp [fsts],OW4.out,B4⟩
   case measure=>simp [intOf];omega
  ·have hkn:k=ps.length:=by omega
   have KN:=hide hkn;have OW:=hide hown;have HM:=hide hmap;clear hkn hown hmap
   go_wp2
   go_ret
   have h1:=HM.out;rw [KN.out,List.take_length] at h1
   first
    | exact ⟨_,qs,rfl,h1,OW.out,hnx⟩
    | exact ⟨_,rfl,qs,h1,OW.out,hnx⟩
theorem Zom (v:Value)(ps:List RP)(hi:Nat)(r:RP)(w:World)(hv:RecsIn w hi v ps)(hhi:hi<=w.heap.size)(hn:tot ps<=1048576):
  Calls Tryz.prog 73 #[v,.agg (recC r.1 r.2)] w fun e w'=>e=.returned (.int .i64 (atZ (fsts ps) r.1))/\Below w.heap.size w w':=by
 have hnl:=ZbI ps;obtain⟨a1,c1,rfl⟩:=Zac hv.row;have HV:=hide hv;clear hv;have BX:=(Below.refl w.heap.size w).alloc (Nat.le_refl _) (.cells (recC r.1 r.2) 59);have hx:=heap_alloc_new w (.cells (recC r.1 r.2) 59);obtain⟨wx,hwx⟩:∃ wx,wx=w.alloc (.cells (recC r.1 r.2) 59):=⟨_,rfl⟩;rw [<-hwx] at BX hx;unfold recC at *
 go_enter Tryz.func73,Tryz.ntmps73
 go_wp2
 rw [<-hwx];have HX:=hide hx;clear hwx hx
 go_loopw [5] (fun i wr=>∃ (k:Nat),k<=ps.length/\i=.int .i64 k/\(∀ j,j<k->∀ y,(fsts ps)[j]? = some y->ZaN y r.1=false)/\Below wx.heap.size wx wr) (fun i _=>ps.length-(intOf i).toNat)
 case atStart=>exact ⟨0,by omega,rfl,by omega,Below.refl _ _⟩
 case round=>
  obtain⟨k,hk,rfl,hall,hnx⟩:=hrel;have HALL:=hide hall;clear hall;have hsz:=hnx.size;have hsx:=Zab HX.out;have BWR:Below w.heap.size w wr:=BX.trans (hnx.mono (by omega))
  by_cases hlt:k<ps.length
  ·obtain ⟨p,hp⟩:∃ p,ps[k]? = some p:=⟨ps[k],List.getElem?_eq_getElem hlt⟩
   have hat:=HV.out.at;obtain⟨b,off,cap',hve,hbb,c0,c1,c2,c3,c4,c5,c6,c7,_⟩:=hat.cells k p hp;cases hve
   rw [<-BWR.cell (p:=⟨b,off+k*8,none⟩) (Nat.lt_of_lt_of_le hbb hhi)] at c0;rw [<-BWR.cell (p:=⟨b,off+k*8+1,none⟩) (Nat.lt_of_lt_of_le hbb hhi)] at c1;rw [<-BWR.cell (p:=⟨b,off+k*8+2,none⟩) (Nat.lt_of_lt_of_le hbb hhi)] at c2;rw [<-BWR.cell (p:=⟨b,off+k*8+3,none⟩) (Nat.lt_of_lt_of_le hbb hhi)] at c3;rw [<-BWR.cell (p:=⟨b,off+k*8+4,none⟩) (Nat.lt_of_lt_of_le hbb hhi)] at c4;rw [<-BWR.cell (p:=⟨b,off+k*8+5,none⟩) (Nat.lt_of_lt_of_le hbb hhi)] at c5;rw [<-BWR.cell (p:=⟨b,off+k*8+6,none⟩) (Nat.lt_of_lt_of_le hbb hhi)] at c6;rw [<-BWR.cell (p:=⟨b,off+k*8+7,none⟩) (Nat.lt_of_lt_of_le hbb hhi)] at c7;have hxx:=(hnx.block _ hsx).trans HX.out;have d0:=Zaa hxx 0;have d1:=Zaa hxx 1;have d2:=Zaa hxx 2;have d3:=Zaa hxx 3;have d4:=Zaa hxx 4;have d5:=Zaa hxx 5;have d6:=Zaa hxx 6;have d7:=Zaa hxx 7;simp at d0 d1 d2 d3 d4 d5 d6 d7
   have hb1:b<wr.heap.size:=by omega
   have hb2:w.heap.size<wr.heap.size:=by omega
   have hki:(0:Int)<=(k:Int):=by omega
   have hkj:(k:Int)<(ps.length:Int):=by omega
   have hq:=fun W=>Zjd p.2 r.2 p.1 r.1 W
   unfold recC at hq;obtain⟨q,hqq⟩:∃ q,q=ZaN p.1 r.1:=⟨_,rfl⟩;rw [<-hqq] at hq;have HK:=hide hq;have HQQ:=hide hqq;have HPP:=hide (Zbo hp);clear hq hqq hp hat hxx;cases q
   ·go_wp2
    go_region_held3 (fun W=>W.cell? ⟨b,off+k*8,none⟩=some (.int .i64 p.1.area)/\W.cell? ⟨b,off+k*8+1,none⟩=some (.int .i64 p.1.kind)/\W.cell? ⟨b,off+k*8+2,none⟩=some (.int .i64 p.1.owner)/\W.cell? ⟨b,off+k*8+3,none⟩=some (.int .i64 p.1.key)/\W.cell? ⟨b,off+k*8+4,none⟩=some (.int .i64 p.1.seq)/\W.cell? ⟨b,off+k*8+5,none⟩=some (p.2)/\W.cell? ⟨b,off+k*8+6,none⟩=some (.int .i64 p.1.cost)/\W.cell? ⟨b,off+k*8+7,none⟩=some (.bool p.1.far)/\W.cell? ⟨w.heap.size,0,none⟩=some (.int .i64 r.1.area)/\W.cell? ⟨w.heap.size,1,none⟩=some (.int .i64 r.1.kind)/\W.cell? ⟨w.heap.size,2,none⟩=some (.int .i64 r.1.owner)/\W.cell? ⟨w.heap.size,3,none⟩=some (.int .i64 r.1.key)/\W.cell? ⟨w.heap.size,4,none⟩=some (.int .i64 r.1.seq)/\W.cell? ⟨w.heap.size,5,none⟩=some (r.2)/\W.cell? ⟨w.heap.size,6,none⟩=some (.int .i64 r.1.cost)/\W.cell? ⟨w.heap.size,7,none⟩=some (.bool r.1.far)) (first | go_keep | (refine ⟨?_,?_,?_,?_,?_,?_,?_,?_,?_,?_,?_,?_,?_,?_,?_,?_⟩ <;> (rw [hbc.cell (by assumption)];assumption))) (first | (go_at_call 103;refine (HK.out _).mono ?_;rintro e w1 ⟨rfl,hbc⟩))
    go_wp2
    go_roundw
    case rel=>exact ⟨k+1,by omega,by go_num,(fun j hj y hy=>by
     by_cases e:j=k
     ·subst e;rw [HPP.out] at hy;cases hy;exact HQQ.out.symm
     ·exact HALL.out j (by omega) y hy),hnx.trans ((Below.refl _ _).drew.trans (hbc.mono hsz))⟩
    case measure=>simp [intOf];omega
   ·go_wp2
    go_region_held3 (fun W=>W.cell? ⟨b,off+k*8,none⟩=some (.int .i64 p.1.area)/\W.cell? ⟨b,off+k*8+1,none⟩=some (.int .i64 p.1.kind)/\W.cell? ⟨b,off+k*8+2,none⟩=some (.int .i64 p.1.owner)/\W.cell? ⟨b,off+k*8+3,none⟩=some (.int .i64 p.1.key)/\W.cell? ⟨b,off+k*8+4,none⟩=some (.int .i64 p.1.seq)/\W.cell? ⟨b,off+k*8+5,none⟩=some (p.2)/\W.cell? ⟨b,off+k*8+6,none⟩=some (.int .i64 p.1.cost)/\W.cell? ⟨b,off+k*8+7,none⟩=some (.bool p.1.far)/\W.cell? ⟨w.heap.size,0,none⟩=some (.int .i64 r.1.area)/\W.cell? ⟨w.heap.size,1,none⟩=some (.int .i64 r.1.kind)/\W.cell? ⟨w.heap.size,2,none⟩=some (.int .i64 r.1.owner)/\W.cell? ⟨w.heap.size,3,none⟩=some (.int .i64 r.1.key)/\W.cell? ⟨w.heap.size,4,none⟩=some (.int .i64 r.1.seq)/\W.cell? ⟨w.heap.size,5,none⟩=some (r.2)/\W.cell? ⟨w.heap.size,6,none⟩=some (.int .i64 r.1.cost)/\W.cell? ⟨w.heap.size,7,none⟩=some (.bool r.1.far)) (first | go_keep | (refine ⟨?_,?_,?_,?_,?_,?_,?_,?_,?_,?_,?_,?_,?_,?_,?_,?_⟩ <;> (rw [hbc.cell (by assumption)];assumption))) (first | (go_at_call 103;refine (HK.out _).mono ?_;rintro e w1 ⟨rfl,hbc⟩))
    go_wp2
    go_ret
    exact⟨Zgb (by rw [ZlQ HPP.out HQQ.out.symm HALL.out]),BWR.trans ((Below.refl _ _).drew.trans (hbc.mono (show w.heap.size<=wr.heap.size by omega)))⟩
  ·have hkn:k=ps.length:=by omega
   have KN:=hide hkn;clear hkn
   go_wp2
   go_ret
   exact⟨Zgb (by rw [Znn (by have h:=HALL.out;rw [KN.out] at h;simpa [fsts] using h)]),BWR⟩
def putL (ps:List RP)(r:RP):List RP:=ps.filter (fun p=>Zas p.1 r.1)++[r]++ps.filter (fun p=>Zas r.1 p.1)
theorem ZdP {ps:List RP}{k:Nat}{p:RP}(f:RP->Bool)(h:ps[k]? = some p):(ps.take (k+1)).filter f=(ps.take k).filter f++(if f p then [p] else []):=by
 obtain⟨hk,e⟩:=List.getElem?_eq_some_iff.1 h;rw [List.take_succ_eq_append_getElem hk,List.filter_append,e]
 congr 1
 by_cases hf:f p <;> simp [hf]
theorem Zoj (v:Value)(ps:List RP)(hi:Nat)(r:RP)(w:World)(hv:RecsIn w hi v ps)(hhi:hi<=w.heap.size)(hn:tot ps<=1048576)(hr:ZaJ w 0 hi r):
  Calls Tryz.prog 19 #[v,.agg (recC r.1 r.2)] w fun e w'=>∃ x,e=.returned x/\RecsIn w' w'.heap.size x (putL ps r)/\Below w.heap.size w w'/\∀ k,x.ownBlock=some k->w.heap.size<=k:=by
 unfold putL;have hnl:=ZbI ps;obtain⟨a1,c1,rfl⟩:=Zac hv.row;obtain⟨ra,rc,hrn⟩:=Zac hr.1;have HRN:=hide hrn;have HR:=hide hr;have HV:=hide hv;unfold recC;rw [hrn];clear hv hr hrn;have BX:Below w.heap.size w (w.alloc (.cells #[.int .i64 r.1.area,.int .i64 r.1.kind,.int .i64 r.1.owner,.int .i64 r.1.key,.int .i64 r.1.seq,.slice ra r.1.near.length rc,.int .i64 r.1.cost,.bool r.1.far] 59)):=(Below.refl _ _).alloc (Nat.le_refl _) _;have hx:=heap_alloc_new w (.cells #[.int .i64 r.1.area,.int .i64 r.1.kind,.int .i64 r.1.owner,.int .i64 r.1.key,.int .i64 r.1.seq,.slice ra r.1.near.length rc,.int .i64 r.1.cost,.bool r.1.far] 59);obtain⟨w0,hw0⟩:∃ w0,w0=w.alloc (.cells #[.int .i64 r.1.area,.int .i64 r.1.kind,.int .i64 r.1.owner,.int .i64 r.1.key,.int .i64 r.1.seq,.slice ra r.1.near.length rc,.int .i64 r.1.cost,.bool r.1.far] 59):=⟨_,rfl⟩;have hs0:w0.heap.size=w.heap.size+1:=by rw [hw0];simp
 rw [<-hw0] at BX hx;have R0:=hide (World.ownsRow_lit (e:=59) (size:=8) w0 #[] 0 (show w.heap.size+1<=w0.heap.size by omega) (by unfold maxLen;omega) (by simp))
 have B0:=hide (show Below w0.heap.size w0 (w0.alloc (.cells #[] 59)) from (Below.refl _ _).alloc (Nat.le_refl _) _)
 have HX:=hide hx;clear hx
 go_enter Tryz.func19,Tryz.ntmps19
 go_wp2
 rw [<-hw0];rw [hs0] at R0;have hs0l:w.heap.size+1<=w0.heap.size:=by omega
 have hs0r:w0.heap.size<=w.heap.size+1:=by omega
 clear hs0 hw0;generalize w0.alloc (.cells #[] 59)=wL at *
 go_loopw [6,5] (fun i o wr=>∃ (k:Nat) (u:Value) (l:List RP),k<=ps.length/\i=.int .i64 k/\o=u/\Hid (l=(ps.take k).filter (fun p=>Zas p.1 r.1))/\wr.ownsRow (w.heap.size+1) 59 8 u l.length (flat encP l)/\Below w0.heap.size w0 wr) (fun i _ _=>ps.length-(intOf i).toNat)
 case atStart=>exact ⟨0,_,[],by omega,rfl,rfl,rfl,by simpa [flat] using R0.out,B0.out⟩
 case round=>
  obtain⟨k,u,l,hk,rfl,rfl,HL,hown,hnx⟩:=hrel;obtain⟨ua,uc,rfl⟩:=Zac hown;have hsz:=hnx.size;have BWR:Below w.heap.size w wr:=BX.trans (hnx.mono (by omega))
  have HQL:=hide (show l.length<=2097153 by rw [(HL).out];have h2:=List.length_filter_le (fun p:RP=>Zas p.1 r.1) (ps.take k);simp at h2 |-;omega)
  by_cases hlt:k<ps.length
  ·obtain ⟨p,hp⟩:∃ p,ps[k]? = some p:=⟨ps[k],List.getElem?_eq_getElem hlt⟩
   have hat:=HV.out.at;obtain⟨b,off,cap',hve,hbb,c0,c1,c2,c3,c4,c5,c6,c7,hnr⟩:=hat.cells k p hp;cases hve
   obtain⟨pa,pc,hpn⟩:=ZaB.shape hnr;rw [hpn] at c5;rw [<-BWR.cell (p:=⟨b,off+k*8,none⟩) (Nat.lt_of_lt_of_le hbb hhi)] at c0;rw [<-BWR.cell (p:=⟨b,off+k*8+1,none⟩) (Nat.lt_of_lt_of_le hbb hhi)] at c1;rw [<-BWR.cell (p:=⟨b,off+k*8+2,none⟩) (Nat.lt_of_lt_of_le hbb hhi)] at c2;rw [<-BWR.cell (p:=⟨b,off+k*8+3,none⟩) (Nat.lt_of_lt_of_le hbb hhi)] at c3;rw [<-BWR.cell (p:=⟨b,off+k*8+4,none⟩) (Nat.lt_of_lt_of_le hbb hhi)] at c4;rw [<-BWR.cell (p:=⟨b,off+k*8+5,none⟩) (Nat.lt_of_lt_of_le hbb hhi)] at c5;rw [<-BWR.cell (p:=⟨b,off+k*8+6,none⟩) (Nat.lt_of_lt_of_le hbb hhi)] at c6;rw [<-BWR.cell (p:=⟨b,off+k*8+7,none⟩) (Nat.lt_of_lt_of_le hbb hhi)] at c7;have hxx:=(hnx.block _ (Zab HX.out)).trans HX.out;have d0:=Zaa hxx 0;have d1:=Zaa hxx 1;have d2:=Zaa hxx 2;have d3:=Zaa hxx 3;have d4:=Zaa hxx 4;have d5:=Zaa hxx 5;have d6:=Zaa hxx 6;have d7:=Zaa hxx 7;simp at d0 d1 d2 d3 d4 d5 d6 d7
   have hb1:b<wr.heap.size:=by omega
   have hb2:w.heap.size<wr.heap.size:=by omega
   have hki:(0:Int)<=(k:Int):=by omega
   have hkj:(k:Int)<(ps.length:Int):=by omega
   have hq:=fun W=>ZeK p.2 r.2 p.1 r.1 W
   unfold recC at hq;rw [hpn,HRN.out] at hq;have hpe:p=(p.1,.slice pa p.1.near.length pc):=Prod.ext rfl hpn;obtain⟨q,hqq⟩:∃ q,q=Zas p.1 r.1:=⟨_,rfl⟩;rw [<-hqq] at hq;have HK:=hide hq;have hft:=ZdP (fun p=>Zas p.1 r.1) hp
   rw [<-hqq] at hft;have HFT:=hide hft;have HPE:=hide hpe;have OW:=hide hown;clear hq hqq hp hat hxx hnr hpn hft hpe hown;cases q
   ·go_wp2
    go_region_held3 (fun W=>W.cell? ⟨b,off+k*8,none⟩=some (.int .i64 p.1.area)/\W.cell? ⟨b,off+k*8+1,none⟩=some (.int .i64 p.1.kind)/\W.cell? ⟨b,off+k*8+2,none⟩=some (.int .i64 p.1.owner)/\W.cell? ⟨b,off+k*8+3,none⟩=some (.int .i64 p.1.key)/\W.cell? ⟨b,off+k*8+4,none⟩=some (.int .i64 p.1.seq)/\W.cell? ⟨b,off+k*8+5,none⟩=some (.slice pa p.1.near.length pc)/\W.cell? ⟨b,off+k*8+6,none⟩=some (.int .i64 p.1.cost)/\W.cell? ⟨b,off+k*8+7,none⟩=some (.bool p.1.far)/\W.cell? ⟨w.heap.size,0,none⟩=some (.int .i64 r.1.area)/\W.cell? ⟨w.heap.size,1,none⟩=some (.int .i64 r.1.kind)/\W.cell? ⟨w.heap.size,2,none⟩=some (.int .i64 r.1.owner)/\W.cell? ⟨w.heap.size,3,none⟩=some (.int .i64 r.1.key)/\W.cell? ⟨w.heap.size,4,none⟩=some (.int .i64 r.1.seq)/\W.cell? ⟨w.heap.size,5,none⟩=some (.slice ra r.1.near.length rc)/\W.cell? ⟨w.heap.size,6,none⟩=some (.int .i64 r.1.cost)/\W.cell? ⟨w.heap.size,7,none⟩=some (.bool r.1.far)) (first | go_keep | (refine ⟨?_,?_,?_,?_,?_,?_,?_,?_,?_,?_,?_,?_,?_,?_,?_,?_⟩ <;> (rw [hbc.cell (by assumption)];assumption))) (first | (go_at_call 51;refine (HK.out _).mono ?_;rintro e w1 ⟨rfl,hbc⟩))
    have B1:Below w0.heap.size w0 w1:=hnx.trans ((Below.refl _ _).drew.trans (hbc.mono hsz));have OW1:=hide (Zaf OW.out ((Below.refl wr.heap.size wr).drew.trans hbc) (Nat.le_refl _));have HFT2:=hide (show l=(ps.take (k+1)).filter (fun p=>Zas p.1 r.1) by rw [(HL).out,HFT.out];simp)
    go_wp2
    go_roundw
    case rel=>exact ⟨k+1,_,_,by omega,by go_num,rfl,HFT2,OW1.out,B1⟩
    case measure=>simp [intOf];omega
   ·go_wp2
    go_region_held3 (fun W=>W.cell? ⟨b,off+k*8,none⟩=some (.int .i64 p.1.area)/\W.cell? ⟨b,off+k*8+1,none⟩=some (.int .i64 p.1.kind)/\W.cell? ⟨b,off+k*8+2,none⟩=some (.int .i64 p.1.owner)/\W.cell? ⟨b,off+k*8+3,none⟩=some (.int .i64 p.1.key)/\W.cell? ⟨b,off+k*8+4,none⟩=some (.int .i64 p.1.seq)/\W.cell? ⟨b,off+k*8+5,none⟩=some (.slice pa p.1.near.length pc)/\W.cell? ⟨b,off+k*8+6,none⟩=some (.int .i64 p.1.cost)/\W.cell? ⟨b,off+k*8+7,none⟩=some (.bool p.1.far)/\W.cell? ⟨w.heap.size,0,none⟩=some (.int .i64 r.1.area)/\W.cell? ⟨w.heap.size,1,none⟩=some (.int .i64 r.1.kind)/\W.cell? ⟨w.heap.size,2,none⟩=some (.int .i64 r.1.owner)/\W.cell? ⟨w.heap.size,3,none⟩=some (.int .i64 r.1.key)/\W.cell? ⟨w.heap.size,4,none⟩=some (.int .i64 r.1.seq)/\W.cell? ⟨w.heap.size,5,none⟩=some (.slice ra r.1.near.length rc)/\W.cell? ⟨w.heap.size,6,none⟩=some (.int .i64 r.1.cost)/\W.cell? ⟨w.heap.size,7,none⟩=some (.bool r.1.far)) (first | go_keep | (refine ⟨?_,?_,?_,?_,?_,?_,?_,?_,?_,?_,?_,?_,?_,?_,?_,?_⟩ <;> (rw [hbc.cell (by assumption)];assumption))) (first | (go_at_call 51;refine (HK.out _).mono ?_;rintro e w1 ⟨rfl,hbc⟩))
    have B1:Below w0.heap.size w0 w1:=hnx.trans ((Below.refl _ _).drew.trans (hbc.mono hsz));have OW1:=hide (Zaf OW.out ((Below.refl wr.heap.size wr).drew.trans hbc) (Nat.le_refl _));have b1s:=B1.size;have m0:=(hbc.cell (p:=⟨b,off+k*8,none⟩) hb1).trans c0;have m1:=(hbc.cell (p:=⟨b,off+k*8+1,none⟩) hb1).trans c1;have m2:=(hbc.cell (p:=⟨b,off+k*8+2,none⟩) hb1).trans c2;have m3:=(hbc.cell (p:=⟨b,off+k*8+3,none⟩) hb1).trans c3;have m4:=(hbc.cell (p:=⟨b,off+k*8+4,none⟩) hb1).trans c4;have m5:=(hbc.cell (p:=⟨b,off+k*8+5,none⟩) hb1).trans c5;have m6:=(hbc.cell (p:=⟨b,off+k*8+6,none⟩) hb1).trans c6;have m7:=(hbc.cell (p:=⟨b,off+k*8+7,none⟩) hb1).trans c7;have HFT2:=hide (show l++[(p.1,.slice pa p.1.near.length pc)]=(ps.take (k+1)).filter (fun p=>Zas p.1 r.1) by rw [(HL).out,HFT.out, <-HPE.out];simp)
    go_wp2_with (first
     | (at_builtin;refine ZaG Zbb (by omega) (by omega) _ rfl _ _ 33 rfl (w.heap.size+1) 59 Tryz.underlying33 (.agg (recC ZbM (.slice none 0 0))) rfl Tryz.infoRec _ (l) (p.1,.slice pa p.1.near.length pc) (Zca _ _ _ _) rfl (OW1.out.alloc _) ⟨w1.heap.size,0,none⟩ 1 rfl (Zap (cs:=encP (p.1,.slice pa p.1.near.length pc))) (by have:=HQL.out;omega) (by simp;omega) ?_))
    intro v' w4 hown' hgrow;obtain⟨va,vc,rfl⟩:=Zac hown';have B4:Below w0.heap.size w0 w4:=(B1.alloc b1s _).grown hgrow (by simp;omega) (fun j hj=>by have:=(OW1.out.lt j hj).1;omega)
    have OW4:=hide hown';clear hown' hgrow
    go_wp2
    go_roundw
    case rel=>exact ⟨k+1,_,_,by omega,by go_num,rfl,HFT2,by simpa using OW4.out,B4⟩
    case measure=>simp [intOf];omega
  ·have hkn:k=ps.length:=by omega
   have htk:ps.take k=ps:=by rw [hkn,List.take_length]
   rw [htk] at HL;have OW:=hide hown;clear hown hkn htk;have hxx:=(hnx.block _ (Zab HX.out)).trans HX.out;have d0:=Zaa hxx 0;have d1:=Zaa hxx 1;have d2:=Zaa hxx 2;have d3:=Zaa hxx 3;have d4:=Zaa hxx 4;have d5:=Zaa hxx 5;have d6:=Zaa hxx 6;have d7:=Zaa hxx 7;simp at d0 d1 d2 d3 d4 d5 d6 d7
   clear hxx
   go_wp2_with (first
    | (at_builtin;refine ZaG Zbb (by omega) (by omega) _ rfl _ _ 33 rfl (w.heap.size+1) 59 Tryz.underlying33 (.agg (recC ZbM (.slice none 0 0))) rfl Tryz.infoRec _ (l) (r.1,.slice ra r.1.near.length rc) (Zca _ _ _ _) rfl (OW.out.alloc _) ⟨wr.heap.size,0,none⟩ 1 rfl (Zap (cs:=encP (r.1,.slice ra r.1.near.length rc))) (by have:=HQL.out;omega) (by simp;omega) ?_))
   intro v' w4 hown' hgrow;obtain⟨va,vc,rfl⟩:=Zac hown';have B2:=hide ((hnx.alloc hsz _).grown hgrow (by simp;omega) (fun j hj=>by have:=(OW.out.lt j hj).1;omega))
   have HRE:=hide (show r=(r.1,.slice ra r.1.near.length rc) from Prod.ext rfl HRN.out)
   have R2:=hide hown';clear hown' hgrow HQL d0 d1 d2 d3 d4 d5 d6 d7 OW hnx hsz BWR
   go_wp2
   go_loopw [7,5] (fun i o wr=>∃ (k:Nat) (u:Value) (l:List RP),k<=ps.length/\i=.int .i64 k/\o=u/\Hid (l=ps.filter (fun p=>Zas p.1 r.1)++[r]++(ps.take k).filter (fun p=>Zas r.1 p.1))/\wr.ownsRow (w.heap.size+1) 59 8 u l.length (flat encP l)/\Below w0.heap.size w0 wr) (fun i _ _=>ps.length-(intOf i).toNat)
   case atStart=>exact ⟨0,_,l++[(r.1,.slice ra r.1.near.length rc)],by omega,rfl,rfl,(hide (by rw [HL.out, <-HRE.out];simp)),by simpa using R2.out,B2.out⟩
   case round=>
    obtain⟨k,u,m,hk,rfl,rfl,HM,hown,hnx⟩:=hrel;obtain⟨ua,uc,rfl⟩:=Zac hown;have hsz:=hnx.size;have BWR:Below w.heap.size w wr:=BX.trans (hnx.mono (by omega))
    have HQL:=hide (show m.length<=2097153 by rw [(HM).out];have h1:=List.length_filter_le (fun p:RP=>Zas p.1 r.1) ps;have h2:=List.length_filter_le (fun p:RP=>Zas r.1 p.1) (ps.take k);simp at h1 h2 |-;omega)
    by_cases hlt:k<ps.length
    ·obtain ⟨p,hp⟩:∃ p,ps[k]? = some p:=⟨ps[k],List.getElem?_eq_getElem hlt⟩
     have hat:=HV.out.at;obtain⟨b,off,cap',hve,hbb,c0,c1,c2,c3,c4,c5,c6,c7,hnr⟩:=hat.cells k p hp;cases hve
     obtain⟨pa,pc,hpn⟩:=ZaB.shape hnr;rw [hpn] at c5;rw [<-BWR.cell (p:=⟨b,off+k*8,none⟩) (Nat.lt_of_lt_of_le hbb hhi)] at c0;rw [<-BWR.cell (p:=⟨b,off+k*8+1,none⟩) (Nat.lt_of_lt_of_le hbb hhi)] at c1;rw [<-BWR.cell (p:=⟨b,off+k*8+2,none⟩) (Nat.lt_of_lt_of_le hbb hhi)] at c2;rw [<-BWR.cell (p:=⟨b,off+k*8+3,none⟩) (Nat.lt_of_lt_of_le hbb hhi)] at c3;rw [<-BWR.cell (p:=⟨b,off+k*8+4,none⟩) (Nat.lt_of_lt_of_le hbb hhi)] at c4;rw [<-BWR.cell (p:=⟨b,off+k*8+5,none⟩) (Nat.lt_of_lt_of_le hbb hhi)] at c5;rw [<-BWR.cell (p:=⟨b,off+k*8+6,none⟩) (Nat.lt_of_lt_of_le hbb hhi)] at c6;rw [<-BWR.cell (p:=⟨b,off+k*8+7,none⟩) (Nat.lt_of_lt_of_le hbb hhi)] at c7;have hxx:=(hnx.block _ (Zab HX.out)).trans HX.out;have d0:=Zaa hxx 0;have d1:=Zaa hxx 1;have d2:=Zaa hxx 2;have d3:=Zaa hxx 3;have d4:=Zaa hxx 4;have d5:=Zaa hxx 5;have d6:=Zaa hxx 6;have d7:=Zaa hxx 7;simp at d0 d1 d2 d3 d4 d5 d6 d7
     have hb1:b<wr.heap.size:=by omega
     have hb2:w.heap.size<wr.heap.size:=by omega
     have hki:(0:Int)<=(k:Int):=by omega
     have hkj:(k:Int)<(ps.length:Int):=by omega
     have hq:=fun W=>ZeK r.2 p.2 r.1 p.1 W
     unfold recC at hq;rw [hpn,HRN.out] at hq;have hpe:p=(p.1,.slice pa p.1.near.length pc):=Prod.ext rfl hpn;obtain⟨q,hqq⟩:∃ q,q=Zas r.1 p.1:=⟨_,rfl⟩;rw [<-hqq] at hq;have HK:=hide hq;have hft:=ZdP (fun p=>Zas r.1 p.1) hp
     rw [<-hqq] at hft;have HFT:=hide hft;have HPE:=hide hpe;have OW:=hide hown;clear hq hqq hp hat hxx hnr hpn hft hpe hown;cases q
     ·go_wp2
      go_region_held3 (fun W=>W.cell? ⟨b,off+k*8,none⟩=some (.int .i64 p.1.area)/\W.cell? ⟨b,off+k*8+1,none⟩=some (.int .i64 p.1.kind)/\W.cell? ⟨b,off+k*8+2,none⟩=some (.int .i64 p.1.owner)/\W.cell? ⟨b,off+k*8+3,none⟩=some (.int .i64 p.1.key)/\W.cell? ⟨b,off+k*8+4,none⟩=some (.int .i64 p.1.seq)/\W.cell? ⟨b,off+k*8+5,none⟩=some (.slice pa p.1.near.length pc)/\W.cell? ⟨b,off+k*8+6,none⟩=some (.int .i64 p.1.cost)/\W.cell? ⟨b,off+k*8+7,none⟩=some (.bool p.1.far)/\W.cell? ⟨w.heap.size,0,none⟩=some (.int .i64 r.1.area)/\W.cell? ⟨w.heap.size,1,none⟩=some (.int .i64 r.1.kind)/\W.cell? ⟨w.heap.size,2,none⟩=some (.int .i64 r.1.owner)/\W.cell? ⟨w.heap.size,3,none⟩=some (.int .i64 r.1.key)/\W.cell? ⟨w.heap.size,4,none⟩=some (.int .i64 r.1.seq)/\W.cell? ⟨w.heap.size,5,none⟩=some (.slice ra r.1.near.length rc)/\W.cell? ⟨w.heap.size,6,none⟩=some (.int .i64 r.1.cost)/\W.cell? ⟨w.heap.size,7,none⟩=some (.bool r.1.far)) (first | go_keep | (refine ⟨?_,?_,?_,?_,?_,?_,?_,?_,?_,?_,?_,?_,?_,?_,?_,?_⟩ <;> (rw [hbc.cell (by assumption)];assumption))) (first | (go_at_call 51;refine (HK.out _).mono ?_;rintro e w1 ⟨rfl,hbc⟩))
      have B1:Below w0.heap.size w0 w1:=hnx.trans ((Below.refl _ _).drew.trans (hbc.mono hsz));have OW1:=hide (Zaf OW.out ((Below.refl wr.heap.size wr).drew.trans hbc) (Nat.le_refl _));have HFT2:=hide (show m=ps.filter (fun p=>Zas p.1 r.1)++[r]++(ps.take (k+1)).filter (fun p=>Zas r.1 p.1) by rw [(HM).out,HFT.out];simp)
      go_wp2
      go_roundw
      case rel=>exact ⟨k+1,_,_,by omega,by go_num,rfl,HFT2,OW1.out,B1⟩
      case measure=>simp [intOf];omega
     ·go_wp2
      go_region_held3 (fun W=>W.cell? ⟨b,off+k*8,none⟩=some (.int .i64 p.1.area)/\W.cell? ⟨b,off+k*8+1,none⟩=some (.int .i64 p.1.kind)/\W.cell? ⟨b,off+k*8+2,none⟩=some (.int .i64 p.1.owner)/\W.cell? ⟨b,off+k*8+3,none⟩=some (.int .i64 p.1.key)/\W.cell? ⟨b,off+k*8+4,none⟩=some (.int .i64 p.1.seq)/\W.cell? ⟨b,off+k*8+5,none⟩=some (.slice pa p.1.near.length pc)/\W.cell? ⟨b,off+k*8+6,none⟩=some (.int .i64 p.1.cost)/\W.cell? ⟨b,off+k*8+7,none⟩=some (.bool p.1.far)/\W.cell? ⟨w.heap.size,0,none⟩=some (.int .i64 r.1.area)/\W.cell? ⟨w.heap.size,1,none⟩=some (.int .i64 r.1.kind)/\W.cell? ⟨w.heap.size,2,none⟩=some (.int .i64 r.1.owner)/\W.cell? ⟨w.heap.size,3,none⟩=some (.int .i64 r.1.key)/\W.cell? ⟨w.heap.size,4,none⟩=some (.int .i64 r.1.seq)/\W.cell? ⟨w.heap.size,5,none⟩=some (.slice ra r.1.near.length rc)/\W.cell? ⟨w.heap.size,6,none⟩=some (.int .i64 r.1.cost)/\W.cell? ⟨w.heap.size,7,none⟩=some (.bool r.1.far)) (first | go_keep | (refine ⟨?_,?_,?_,?_,?_,?_,?_,?_,?_,?_,?_,?_,?_,?_,?_,?_⟩ <;> (rw [hbc.cell (by assumption)];assumption))) (first | (go_at_call 51;refine (HK.out _).mono ?_;rintro e w1 ⟨rfl,hbc⟩))
      have B1:Below w0.heap.size w0 w1:=hnx.trans ((Below.refl _ _).drew.trans (hbc.mono hsz));have OW1:=hide (Zaf OW.out ((Below.refl wr.heap.size wr).drew.trans hbc) (Nat.le_refl _));have b1s:=B1.size;have m0:=(hbc.cell (p:=⟨b,off+k*8,none⟩) hb1).trans c0;have m1:=(hbc.cell (p:=⟨b,off+k*8+1,none⟩) hb1).trans c1;have m2:=(hbc.cell (p:=⟨b,off+k*8+2,none⟩) hb1).trans c2;have m3:=(hbc.cell (p:=⟨b,off+k*8+3,none⟩) hb1).trans c3;have m4:=(hbc.cell (p:=⟨b,off+k*8+4,none⟩) hb1).trans c4;have m5:=(hbc.cell (p:=⟨b,off+k*8+5,none⟩) hb1).trans c5;have m6:=(hbc.cell (p:=⟨b,off+k*8+6,none⟩) hb1).trans c6;have m7:=(hbc.cell (p:=⟨b,off+k*8+7,none⟩) hb1).trans c7;have HFT2:=hide (show m++[(p.1,.slice pa p.1.near.length pc)]=ps.filter (fun p=>Zas p.1 r.1)++[r]++(ps.take (k+1)).filter (fun p=>Zas r.1 p.1) by rw [(HM).out,HFT.out, <-HPE.out];simp)
      go_wp2_with (first
       | (at_builtin;refine ZaG Zbb (by omega) (by omega) _ rfl _ _ 33 rfl (w.heap.size+1) 59 Tryz.underlying33 (.agg (recC ZbM (.slice none 0 0))) rfl Tryz.infoRec _ (m) (p.1,.slice pa p.1.near.length pc) (Zca _ _ _ _) rfl (OW1.out.alloc _) ⟨w1.heap.size,0,none⟩ 1 rfl (Zap (cs:=encP (p.1,.slice pa p.1.near.length pc))) (by have:=HQL.out;omega) (by simp;omega) ?_))
      intro v' w4 hown' hgrow;obtain⟨va,vc,rfl⟩:=Zac hown';have B4:Below w0.heap.size w0 w4:=(B1.alloc b1s _).grown hgrow (by simp;omega) (fun j hj=>by have:=(OW1.out.lt j hj).1;omega)
      have OW4:=hide hown';clear hown' hgrow
      go_wp2
      go_roundw
      case rel=>exact ⟨k+1,_,_,by omega,by go_num,rfl,HFT2,by simpa using OW4.out,B4⟩
      case measure=>simp [intOf];omega
    ·have hkn:k=ps.length:=by omega
     have htk:ps.take k=ps:=by rw [hkn,List.take_length]
     rw [htk] at HM;have OW:=hide hown;clear hown hkn htk
     go_wp2
     go_ret
     refine⟨_,rfl,⟨?_,fun j hj=>(OW.out.lt j hj).2,?_⟩,BWR,fun j hj=>by have:=(OW.out.lt j hj).1;omega⟩
     ·rw [<-HM.out];exact Zah OW.out (Nat.zero_le _)
     intro q hq;have hmem:q∈ps\/q=r:=by
      rcases List.mem_append.1 hq with h | h
      ·rcases List.mem_append.1 h with h | h
       ·exact .inl ((List.mem_filter.1 h).1)
       ·exact .inr (by simpa using h)
      ·exact .inl ((List.mem_filter.1 h).1)
     have hno:ZaJ w 0 hi q:=by
      rcases hmem with h | h
      ·exact HV.out.nears q h
      ·rw [h];exact HR.out
     exact (hno.keep (W':=wr) (fun j _ h2 _=>BWR.block j (by omega))).wide (Nat.le_refl _) (by omega)
theorem Zie (v:Value)(ps:List RP)(hi:Nat)(r:RP)(w:World)(hv:RecsIn w hi v ps)(hhi:hi<=w.heap.size)(hn:tot ps<=1048576)(hr:ZaJ w 0 hi r):
  Calls Tryz.prog 19 #[v,.agg (recC r.1 r.2)] w fun e w'=>∃ x,e=.returned x/\RecsIn w' w'.heap.size x (putL ps r)/\Below w.heap.size w w':=by
 refine (Zoj v ps hi r w hv hhi hn hr).mono ?_
 rintro e w' ⟨x,h1,h2,h3,_⟩;exact⟨x,h1,h2,h3⟩
def ZcF {α:Type}(ord:α->α->Int)(ls:List α):Nat->Bool
 | 0=>true
 | k+1=>match ls[k]?,ls[k+1]? with
  | some p,some l=>decide (ord p l<0)
  | _,_=>true
theorem ZbF {α:Type}{ord:α->α->Int}{ls:List α}{j:Nat}{p l:α}(hp:ls[j]? = some p)(hl:ls[j+1]? = some l):ZcF ord ls (j+1)=decide (ord p l<0):=by
 simp only [ZcF,hp,hl]
def ascB {α:Type}(ord:α->α->Int)(ls:List α):Bool:=(List.range ls.length).all (ZcF ord ls)
theorem Zbe {n k:Nat}{p:Nat->Bool}(hk:k<n)(h:p k=false):(List.range n).all p=false:=by
 cases e:(List.range n).all p with
 | false=>rfl
 | true=>rw [List.all_eq_true.1 e k (List.mem_range.2 hk)] at h;cases h
theorem Zbf {n:Nat}{p:Nat->Bool}(h:∀ j,j<n->p j=true):(List.range n).all p=true:=List.all_eq_true.2 fun j hj=>h j (List.mem_range.1 hj)
theorem ZaZ {k:Nat}{p:Nat->Bool}(h:∀ j,j<k->p j=true)(hk:p k=true):∀ j,j<k+1->p j=true:=fun j hj=>by
 by_cases e:j=k
 ·subst e;exact hk
 ·exact h j (by omega)
def okAt {α:Type}(ok:α->Bool)(ls:List α)(k:Nat):Bool:=match ls[k]? with
 | some l=>ok l
 | none=>true
theorem Zcz {α:Type}{ok:α->Bool}{ls:List α}{k:Nat}{l:α}(h:ls[k]? = some l):okAt ok ls k=ok l:=by simp only [okAt,h]
def Zce {α:Type}(ok:α->Bool)(ls:List α):Bool:=(List.range ls.length).all (okAt ok ls)
end Go.Proofs.YtgdgkgmjpnbbcaaGreat
