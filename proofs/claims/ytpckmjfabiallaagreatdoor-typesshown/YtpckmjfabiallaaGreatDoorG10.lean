/- Texts of ours, joined. -/
import Derived.Test.YtpckmjfabiallaaGreatDoorG06
import Derived.Deep.CutRange
set_option linter.unusedVariables false
set_option linter.unusedSimpArgs false
set_option maxRecDepth 100000
set_option maxHeartbeats 16000000
namespace Go.Proofs.YtpckmjfabiallaaGreatDoor
variable{T:TypeId}{b d g ga ge gp m p pl sz:Nat}{cs:List Value}{sl:Value}{w w' w1:World}
open List
open Tryz
section
open Go.RowKit
def K6(q:Px.P Px.Ex)(x:Px.Ex)(l1:List Lx.Tok):Px.R Px.Ex:=
 match l1 with
 | t :: r=>if (Px.levelOf t).1=3 then Px.bind (q r) λ y l2=>.inl (.mk 15 (Px.levelOf t).2 0 [] [x,y] t.place,l2) else .inl (x,t :: r)
 | []=>.inr (0,0)
theorem Ah3{q:Px.P Px.Ex}(hd:d<=30)(c0:Px.Ok q)(b6:Hu 3 d q):Hu 2 d (Px.cmp q):=by
 intro b ga l w h;obtain⟨res,a0⟩:∃res,Aside (res=Px.cmp q l):=⟨_,rfl⟩;rw[<-a0.out];have ar:w.heap.size≠b:=by have:=h.there;omega
 have au:w.heap.size≠ga:=by have:=h.gl;omega
 have h0:=h.alloc zeroE;have bd:=Ec w;have am:Fo b w.heap.size w (w.alloc zeroE):=(AV _ _ _).alloc (AD _) _;have b9:w.heap.size<(w.alloc zeroE).heap.size:=by simp
 have ag:∀(l:List Lx.Tok) (w:World),Ps b ga l w->AA 191 #[pt b 0,iv 3,iv d] w λ e w'=>Dc b ga w (q l) e w':=λ l w h=>b6 b ga l w h
 go_enter func191,ntmps191;go_wp2_with fail;generalize w.alloc zeroE=w0 at *;refine (ag l w0 h0).mono ?_;rcases hq:q l with⟨x,l1⟩ | ⟨a,er⟩
 .rintro e w1 ⟨v,rfl,⟨k,o,nn,t,ao,an,ac,p,rfl,hx⟩,h1,al⟩;replace a0:Aside (res=K6 q x l1):=by
   show _=_;rw[a0.out,Px.cmp,hq];rfl
  have bc:w.heap.size<w1.heap.size:=by have:=al.size;omega
  have hA:BinAt b ga w1.heap.size w x l1 (w1.alloc (eO k o nn t (.slice ao an ac) p)):=by
   refine⟨h1.alloc _,⟨k,o,nn,t,ao,an,ac,p,heap_new w1 _,?_⟩,(Al bc).trans ((al.block _ b9 ar).trans bd),(am.call al am.size).alloc (Nat.le_of_lt bc) _⟩;exact (hx.plow (λ g hg hlt=>⟨AL b9 hg,Nat.ne_of_lt hlt⟩)).since (Since.of_below ((AF _ _).alloc (AD _) _))
  have av:w1.heap.size≠b:=by have:=h1.there;omega
  have bl:w1.heap.size≠ga:=by have:=h1.gl;omega
  clear hq bd am al h0 hx h1;go_wp2_with fail;generalize w1.alloc (eO k o nn t (.slice ao an ac) p)=w2 at *;generalize w1.heap.size=g7 at *
  go_loopg [] 1 (λ m wr=>∃(acc:Px.Ex) (l4:List Lx.Tok),m=1/\BinAt b ga g7 w acc l4 wr/\Aside (res=K6 q acc l4))
  case atStart=>exact⟨x,l1,rfl,hA,a0⟩
  case round=>
   clear a0 hA;obtain⟨acc,l4,rfl,hA,a0⟩:=hrel;obtain⟨u,rr,rfl,_⟩:=hA.ps.head;have hO:=Ht hA.ps 2 (by omega);by_cases hlv:(Px.levelOf u).1=3
   .have aw:opAt 2 u=(Px.levelOf u).2:=by unfold opAt;rw[if_pos hlv]
    have bt:=Xe u (by omega);have bh:=(Qe u).2;rw[aw] at hO;replace a0:Aside (res=Px.bind (q rr) λ y l2=>.inl (.mk 15 (Px.levelOf u).2 0 [] [acc,y] u.place,l2)):=by
     show _=_;rw[a0.out];simp only[K6];rw[if_pos hlv]
    have bs:u.kind≠5:=by have:=Px.level_kind (t:=u) (by omega);omega
    clear aw hlv;generalize (Px.levelOf u).2=op at *;have bg:((op:Int) == 0)=false:=by simp;omega
    go_wp2_with fail
    refine hO.mono ?_;rintro e w3 ⟨rfl,a3⟩;have bi:=hA.ps.below a3;have bo:=Sf;go_wp2_with fail;refine (ptake_any bi bs).mono ?_;rintro e w4 ⟨rfl,bf,ak⟩;have bq:Fo b w3.heap.size w3 w4:=ak;have b3:w.heap.size<wr.heap.size:=(AB hA.out).1;obtain⟨k,o,nn,t,ao,an,ac,p,a4,a8⟩:=hA.box;have b5:g7<wr.heap.size:=(AB a4).1;have a6:=(ak.block g7 (by have:=a3.size;omega) av).trans ((a3.block g7 b5).trans a4);have a7:=(ak.block _ (by have:=a3.size;omega) ar).trans ((a3.block _ b3).trans hA.out);have bj:¬(w.heap.size<b/\b≠g7):=by have:=h.there;omega
    have ae:=(a8.since (Since.of_below a3)).since (ak.sinceB bj);have aq:=(hA.fo.below a3 hA.fo.size).call ak (by have:=a3.size;have:=hA.fo.size;omega);clear a3 ak bq a4 a8 hO bi hA;go_wp2_with fail;refine (ag rr w4 bf).mono ?_;rcases hqr:q rr with⟨y,l6⟩ | ⟨a,er⟩
    .rintro e w5 ⟨v,rfl,⟨k2,o2,n2,t2,b7,az,b0,p2,rfl,hy⟩,ax,ai⟩;replace a0:Aside (res=.inl (.mk 15 op 0 [] [acc,y] u.place,l6)):=by
      show _=_;rw[a0.out,hqr];rfl
     have b8:g7<w4.heap.size:=(AB a6).1;have b4:w.heap.size<w4.heap.size:=(AB a7).1;have a5:=(ai.block g7 b8 av).trans a6;have a9:=(ai.block _ b4 ar).trans a7;have ah:=ae.since (ai.sinceB bj);have bb:=hy.plow (B':=λ g=>w.heap.size<g/\g≠g7) (λ g hg _=>by have c1:w4.heap.size<=g:=hg;omega);have ba:=aq.call ai aq.size;have bw:g7<w5.heap.size:=(AB a5).1;have ay:w.heap.size<w5.heap.size:=(AB a9).1;obtain⟨y0,y1,y2,y3,y4,y5,y6,y7,j0,j1,j2,j3,j4,j5,j6,j7⟩:=Ab a5;clear ai hqr ae a6 a7 hy aq bf
     go_upto_region 10 with fail
     generalize hw9:((eS w5 g7 15 op 0 [] (sL (w5.heap.size+1) 0 2 2) u.place).alloc (eO k2 o2 n2 t2 (.slice b7 az b0) p2)).alloc (.cells #[iv k,iv o,iv nn,.string ⟨t.toArray⟩,iv 0,sE,.slice ao an ac,iv p,iv k2,iv o2,iv n2,.string ⟨t2.toArray⟩,iv 0,sE,.slice b7 az b0,iv p2] 48)=w9 at *;obtain⟨be,aa,c2,bk⟩:=Xf (P:=λ g=>w.heap.size<g/\g≠g7) (kk:=15) (op:=op) (pl:=u.place) (k2:=k2) (o2:=o2) (n2:=n2) (p2:=p2) (t2:=t2) (sl2:=.slice b7 az b0) (by omega) (λ hh=>hh.2 rfl) a5 hw9.symm;have af:=(aa.block _ ay (by omega)).trans a9;have bp:Ps b ga l6 w9:=ax.keep (aa.block _ ax.there (by omega)) (aa.block _ ax.gl (by omega)) aa.size;have bu:Fo b w.heap.size w w9:=ba.trans ⟨aa.os,aa.tape,aa.output,aa.size,λ j h1 h2=>aa.block j (by omega) (by omega)⟩;have aj:=D8 bp bu ar au (bk acc y ah bb) (λ g hg=>hg.1);have bx:g7<w9.heap.size:=(AB be).1;have br:w.heap.size<w9.heap.size:=(AB af).1;obtain⟨z0,z1,z2,z3,z4,z5,z6,z7,_⟩:=Ab be;obtain⟨e0,e1,e2,e3,e4,e5,e6,e7,m0,m1,m2,m3,m4,m5,m6,m7⟩:=Ab af;clear hw9 y0 y1 y2 y3 y4 y5 y6 y7 j0 j1 j2 j3 j4 j5 j6 j7 bk aa a5 a9 ah bb ba ax;go_wp2;rw[a0.out];exact bodyPost_ret (by simp[results,results191,go_sem,e0,e1,e2,e3,e4,e5,e6,e7]) rfl aj
    .rintro e w5 ⟨rfl,ai⟩;refine⟨rfl,?_⟩;rw[a0.out,hqr];exact⟨rfl,aq.call ai aq.size⟩
   .have aw:opAt 2 u=0:=by unfold opAt;rw[if_neg hlv]
    rw[aw] at hO;replace a0:Aside (res=.inl (acc,u :: rr)):=by
     show _=_;rw[a0.out];simp only[K6];rw[if_neg hlv]
    clear aw hlv;go_wp2_with fail;refine hO.mono ?_;rintro e w3 ⟨rfl,a3⟩;have b3:w.heap.size<wr.heap.size:=(AB hA.out).1;obtain⟨k,o,nn,t,ao,an,ac,p,a4,a8⟩:=hA.box;have b5:g7<wr.heap.size:=(AB a4).1;have ab:=(a3.block g7 b5).trans a4;have ad:=(a3.block _ b3).trans hA.out;have bv:g7<w3.heap.size:=(AB ab).1;have bn:w.heap.size<w3.heap.size:=(AB ad).1;have aj:=D8 (hA.ps.below a3) (hA.fo.below a3 hA.fo.size) ar au (a8.since (Since.of_below a3)) (λ g hg=>hg.1);obtain⟨y0,y1,y2,y3,y4,y5,y6,y7,_⟩:=Ab ab;obtain⟨e0,e1,e2,e3,e4,e5,e6,e7,m0,m1,m2,m3,m4,m5,m6,m7⟩:=Ab ad;clear a3 a4 a8 hO hA;go_wp2;rw[a0.out];exact bodyPost_ret (by simp[results,results191,go_sem,e0,e1,e2,e3,e4,e5,e6,e7]) rfl aj
 .rintro e w1 ⟨rfl,al⟩;refine⟨rfl,?_⟩;rw[a0.out,Px.cmp,hq];exact⟨rfl,am.call al am.size⟩
def Ek(d:Nat)(q:Px.P Px.Ex):Prop:=∀(b ga:Nat) (l:List Lx.Tok) (w:World),Ps b ga l w->AA 164 #[pt b 0,iv d] w λ e w'=>Dc b ga w (q l) e w'
theorem Y2{q:Px.P Px.Ex}(hu:Hu 0 d q):Ek d q:=by
 intro b ga l w h;obtain⟨res,a0⟩:∃res,Aside (res=q l):=⟨_,rfl⟩;rw[<-a0.out];have a8:w.heap.size≠b:=by have:=h.there;omega
 have a6:w.heap.size≠ga:=by have:=h.gl;omega
 have h0:=h.alloc zeroE;have a9:=Ec w;have a4:Fo b w.heap.size w (w.alloc zeroE):=(AV _ _ _).alloc (AD _) _;have a7:w.heap.size<(w.alloc zeroE).heap.size:=by simp
 have hC:=hu b ga l _ h0;go_enter func164,ntmps164;go_wp2_with fail;generalize w.alloc zeroE=w0 at *;refine hC.mono ?_;rcases hq:q l with⟨x,l1⟩ | ⟨a,er⟩
 .rintro e w1 ⟨v,rfl,⟨k,o,n,t,ao,an,ac,p,rfl,hx⟩,h1,a3⟩;have ab:=(a3.block _ a7 a8).trans a9;have ad:w.heap.size<w1.heap.size:=by have:=a3.size;omega
  have aa:=a4.call a3 a4.size;obtain⟨e0,e1,e2,e3,e4,e5,e6,e7,m0,m1,m2,m3,m4,m5,m6,m7⟩:=Ab ab;have a5:=D8 h1 aa a8 a6 hx (λ g hg=>AL a7 hg);rw[<-a0.out] at hq;replace hq:=(show Aside _ from hq);clear hC;go_wp2;rw[hq.out];exact bodyPost_ret (by simp[results,results164,go_sem,e0,e1,e2,e3,e4,e5,e6,e7]) rfl a5
 .rintro e w1 ⟨rfl,a3⟩;refine⟨rfl,?_⟩;rw[a0.out,hq];exact⟨rfl,a4.call a3 a4.size⟩
theorem Og{q:Px.P Px.Ex}(hd:d<=30)(a0:Px.Ok q)(hu:Y0 d q):Ek d (Px.lvl' q):=by
 have o5:=Px.level_ok a0 (n:=5) (by decide);have o4:=Px.level_ok o5 (n:=4) (by decide);have o3:=Px.cmp_ok o4;have o2:=Px.level_ok o3 (n:=2) (by decide);have b5:=Y1 hu;have b4:Hu 4 d (Px.level 5 q):=Fv (by decide) (by decide) hd a0 b5;have b3:Hu 3 d (Px.level 4 (Px.level 5 q)):=Fv (by decide) (by decide) hd o5 b4;have b2:=Ah3 hd o4 b3;have b1:Hu 1 d (Px.level 2 (Px.cmp (Px.level 4 (Px.level 5 q)))):=Fv (by decide) (by decide) hd o3 b2;have b0:Hu 0 d (Px.level 1 (Px.level 2 (Px.cmp (Px.level 4 (Px.level 5 q))))):=Fv (by decide) (by decide) hd o2 b1;exact Y2 b0
theorem Sv:(prog.info? 48).map (λ i=>(i.zero,i.size,i.bytes))=some (some (eV 0 0 0 [] sZ 0),8,96):=by kernel_rfl
abbrev Fw(d:Nat):Obj:=.cells #[iv d] 3 (0,0)
abbrev F1:List Value:=eL 0 0 0 [] sZ 0
def F5(m:Nat)(w:World)(sl:Value)(acc:List Px.Ex):Prop:=∃row,w.ownsRow m 48 8 sl acc.length row/\Ai (λ k=>m<=k/\sl.ownBlock≠some k) w acc row
theorem F5.nil(m:Nat)(w:World):F5 m w sZ []:=⟨[],⟨rfl,AI ⟨rfl,rfl⟩⟩,by rw[Ai]⟩
theorem F5.fo{acc:List Px.Ex}(h:F5 m w sl acc)(f:Fo b w.heap.size w w')(hb:b<m):F5 m w' sl acc:=by
 obtain⟨row,h1,h2⟩:=h;exact⟨row,Bu h1 f hb,h2.since (f.sinceB (λ hh=>by omega))⟩
theorem F5.rows{acc:List Px.Ex}{B:AS}(h:F5 m w sl acc)(hB:∀k,m<=k->k<w.heap.size->B k):∃row,SlRow B w 8 sl acc.length row/\Ai B w acc row:=by
 obtain⟨row,h1,h2⟩:=h;exact⟨row,Dv h1 hB,h2.plow (λ k hk hl=>hB k hk.1 hl)⟩
structure Grew(w4 w5:World)(sl:Value)(g:Nat):Prop where
 os:w5.os=w4.os
 tape:w5.tape=w4.tape
 output:w5.output=w4.output
 size:w4.heap.size<=w5.heap.size
 block:∀k,k<w4.heap.size->some k≠sl.ownBlock->w5.heap[k]?=w4.heap[k]?
 place:sl.ownBlock=some g\/w4.heap.size<=g
theorem At6{w4 w5:World}(a0:w4.grownBy w5 sl.ownBlock)(a3:sl.ownBlock=some g\/g=w4.heap.size):Grew w4 w5 sl g:=
 ⟨a0.os,a0.tape,a0.output,a0.size,a0.block,a3.imp id (λ h=>by omega)⟩
theorem Oh{w4 w5:World}{o:Obj}(a0:(w4.alloc o).grownBy w5 sl.ownBlock)(a3:sl.ownBlock=some g\/g=w4.heap.size+1):Grew w4 w5 sl g:=
 ⟨a0.os,a0.tape,a0.output,by have:=a0.size;simp at this;omega,λ k h1 h2=>(a0.block k (by simp;omega) h2).trans (Al h1),a3.imp id (λ h=>by omega)⟩
def Fe(w:World)(g:Nat):Nat->List Value->World
 | _,[]=>w
 | o,v :: vs=>Fe (w.setCell ⟨g,o,none⟩ v) g (o+1) vs
theorem El{g k:Nat}(hk:k≠g):∀(vs:AR) (w:World) (o:Nat),(Fe w g o vs).heap[k]?=w.heap[k]?
 | [],w,o=>rfl
 | v :: vs,w,o=>(El hk vs _ _).trans (AG _ _ _ _ hk)
theorem Qg{g n:Nat}:∀(vs:AR) (w:World) (o:Nat),Fo g n w (Fe w g o vs)
 | [],w,o=>AV _ _ _
 | v :: vs,w,o=>(Fo.set o v).trans (Qg vs _ _)
theorem J0{g:Nat}:∀(vs:AR) (w:World) (o:Nat),(Fe w g o vs).heap.size=w.heap.size
 | [],w,o=>rfl
 | v :: vs,w,o=>(J0 vs _ _).trans (by simp[World.setCell])
theorem Sw{g:Nat}{T:TypeId}:∀(vs:AR) (w:World) (o:Nat) (cur:Array Value),w.heap[g]?=some (.cells cur T (0,0))->o+vs.length<=cur.size ->
  ∃a0:Array Value,(Fe w g o vs).heap[g]?=some (.cells a0 T (0,0))/\a0.size=cur.size/\a0.toList=cur.toList.take o ++ vs ++ cur.toList.drop (o+vs.length)
 | [],w,o,cur,h,hs=>⟨cur,h,rfl,by simp⟩
 | v :: vs,w,o,cur,h,hs=>by
  simp only[length_cons] at hs;have h1:(w.setCell ⟨g,o,none⟩ v).heap[g]?=some (.cells (cur.setIfInBounds o v) T (0,0)):=by
   simp[World.setCell,Array.getElem?_modify,h]
  obtain⟨a0,h2,h3,h4⟩:=Sw vs _ (o+1) _ h1 (by simp;omega);refine⟨a0,h2,by simpa using h3,?_⟩;rw[h4];have a3:o<cur.toList.length:=by simp;omega
  simp only[Array.toList_setIfInBounds,length_cons];rw[take_succ_eq_append_getElem (by simpa using a3),take_set_of_le (Nat.le_refl _),List.getElem_set_self,drop_set_of_lt (by omega)];simp[Nat.add_assoc,Nat.add_comm,Nat.add_left_comm]
theorem Oi{n cap:Nat}{row old:AR}(h:w.ownsRow m T sz (sL g 0 (n+1) cap) (n+1) (row ++ old))(hr:row.length=n*sz)(ho:old.length=sz)(hc:cs.length=sz) :
  (Fe w g (n*sz) cs).ownsRow m T sz (sL g 0 (n+1) cap) (n+1) (row ++ cs):=by
 obtain⟨h1,h2⟩:=h;rcases h2 with⟨hv,_⟩ | ⟨g',a4,cur,hv,hg,hh,hn,hm,hs,ht⟩
 .simp at hv
 .simp only[Value.slice.injEq,Option.some.injEq,Addr.mk.injEq,and_true,true_and] at hv;obtain⟨rfl,rfl⟩:=hv;have a6:(n+1)*sz<=cur.size:=by rw[hs];exact Nat.mul_le_mul_right _ hn
  have a5:(n+1)*sz=n*sz+sz:=by rw[Nat.add_mul,Nat.one_mul]
  obtain⟨a3,k1,k2,k3⟩:=Sw cs w (n*sz) cur hh (by omega);refine⟨by simp;omega,AJ ⟨g,cap,a3,rfl,hg,k1,hn,hm,by omega,?_⟩⟩;have a0:cur.toList.take (n*sz)=row:=by
   have:=congrArg (List.take (n*sz)) ht;rw[take_take,Nat.min_eq_left (by omega),take_left' hr] at this;exact this
  rw[k3,a0,take_left' (by simp;omega)]
theorem Oj{n cap:Nat}{row old:AR}(h:w.ownsRow m T sz (sL g 0 (n+1) cap) (n+1) (row ++ old))(hr:row.length=n*sz):∀(j:Nat) (u:Value),old[j]?=some u->w.cell? ⟨g,n*sz+j,none⟩=some u/\w.frozen? ⟨g,n*sz+j,none⟩=false:=by
 obtain⟨h1,h2⟩:=h;rcases h2 with⟨hv,_⟩ | ⟨g',a0,cur,hv,hg,hh,hn,hm,hs,ht⟩
 .simp at hv
 .simp only[Value.slice.injEq,Option.some.injEq,Addr.mk.injEq,and_true,true_and] at hv;obtain⟨rfl,rfl⟩:=hv;intro j u hj;have hx:(row ++ old)[n*sz+j]?=some u:=by rw[List.getElem?_append_right (by omega),hr,Nat.add_sub_cancel_left];exact hj
  rw[<-ht,List.getElem?_take] at hx;split at hx
  .exact⟨by rw[Lib.cell_of_heap hh];simpa using hx,by simp[World.frozen?,hh]⟩
  .simp at hx
theorem Y3{w4 w5 w6:World}{a3:Nat}{acc:List Px.Ex}{row:AR}{x:Px.Ex}(a7:w4.ownsRow m 48 8 sl acc.length row)(a6:Ai (λ k=>m<=k/\sl.ownBlock≠some k) w4 acc row)(hx:IsEx (λ k=>m<=k/\sl.ownBlock≠some k) w4 x cs)
  (hG:Grew w4 w5 sl g) (hown6:w6.ownsRow m 48 8 (sL g 0 (acc.length+1) a3) (acc.length+1) (row ++ cs)) (h56:∀k,k<w5.heap.size->m<=k->k≠g->w6.heap[k]?=w5.heap[k]?) (hs:w5.heap.size<=w6.heap.size) :
  F5 m w6 (sL g 0 (acc.length+1) a3) (acc ++ [x]):=by
 have a8:∀k,m<=k/\sl.ownBlock≠some k->k<w4.heap.size->k≠g:=by
  intro k hk hl he;subst he;rcases hG.place with h | h
  .exact hk.2 h
  .omega
 have a4:Since (λ k=>m<=k/\sl.ownBlock≠some k) w4 w6:=⟨AP hG.size hs,λ k h1 h2=>(h56 k (AL h2 hG.size) h1.1 (a8 k h1 h2)).trans (hG.block k h2 (λ e=>h1.2 e.symm))⟩;refine⟨row ++ cs,by simpa using hown6,?_⟩;have a5:∀k,(m<=k/\sl.ownBlock≠some k)->k<w4.heap.size->m<=k/\(sL g 0 (acc.length+1) a3).ownBlock≠some k:=λ k h1 h2=>⟨h1.1,λ e=>a8 k h1 h2 (by simpa [Value.ownBlock] using e.symm)⟩
 have a0:Since (λ k=>m<=k/\(sL g 0 (acc.length+1) a3).ownBlock≠some k/\(m<=k/\sl.ownBlock≠some k)) w4 w6:=⟨a4.size,λ k h1 h2=>a4.block k h1.2.2 h2⟩;exact ((a6.plow (B':=λ k=>m<=k/\(sL g 0 (acc.length+1) a3).ownBlock≠some k/\(m<=k/\sl.ownBlock≠some k)) (λ k h1 h2=>⟨h1.1,(a5 k h1 h2).2,h1⟩)).since a0 |>.base (λ k h=>⟨h.1,h.2.1⟩)).snoc
  ((hx.plow (B':=λ k=>m<=k/\(sL g 0 (acc.length+1) a3).ownBlock≠some k/\(m<=k/\sl.ownBlock≠some k)) (λ k h1 h2=>⟨h1.1,(a5 k h1 h2).2,h1⟩)).since a0 |>.base (λ k h=>⟨h.1,h.2.1⟩))
end
section
abbrev wpE:=@Vv.wpE
abbrev wpE_any:=@Vv.wpE_any
abbrev wpE_first:=@Vv.wpE_first
abbrev lateWait:=@Vv.lateWait
abbrev lateWait_spec:=@Vv.lateWait_spec
abbrev wpE_take:=@Vv.wpE_take
abbrev wpE_takeL:=@Vv.wpE_takeL
abbrev wpE_one:=@Vv.wpE_one
abbrev wpE_two:=@Vv.wpE_two
abbrev wpE_done:=@Vv.wpE_done
abbrev wpE_begin:=@Vv.wpE_begin
end
section
open Go.RowKit
theorem Me(w:World)(p:Addr)(v:Value):(w.setCell p v).os=w.os:=rfl
theorem I8(w:World)(p:Addr)(v:Value):(w.setCell p v).tape=w.tape:=rfl
theorem Gl(w:World)(p:Addr)(v:Value):(w.setCell p v).output=w.output:=rfl
theorem Sx{n gx F a0:Nat}{w4 w5 w7:World}{acc:List Px.Ex}{row:AR}{x:Px.Ex}{l':List Lx.Tok}{k o nn a5 a7:Nat}{t:Lx.B}{a6:Option Addr}{O:Value->Obj}
  (hset:∀w':World,w'.heap[gx]?=some (O sl)->∀v,(w'.setCell ⟨gx,F,none⟩ v).heap[gx]?=some (O v))
  (hm:gx<m) (hmw:m<=w.heap.size) (hb:b<gx) (hga:ga<gx) (hnx:n<=gx) (hnw:n<=w.heap.size) (hx:w.heap[gx]?=some (O sl)) (hown:w.ownsRow m 48 8 sl acc.length row) (hall:Ai (λ k=>m<=k/\sl.ownBlock≠some k) w acc row)
  (hxx:IsEx (From w.heap.size) w4 x (eL k o nn t (.slice a6 a5 a7) p)) (h4:Ps b ga l' w4) (fo4:Fo b w.heap.size w w4) (hG:Grew w4 w5 sl g) (hown5:w5.ownsRow m 48 8 (sL g 0 (acc.length+1) a0) (acc.length+1) (row ++ F1))
  (h7:w7=(Fe w5 g (acc.length*8) (eL k o nn t (.slice a6 a5 a7) p)).setCell ⟨gx,F,none⟩ (sL g 0 (acc.length+1) a0)\/w7=Fe (w5.setCell ⟨gx,F,none⟩ (sL g 0 (acc.length+1) a0)) g (acc.length*8) (eL k o nn t (.slice a6 a5 a7) p)) :
  F5 m w7 (sL g 0 (acc.length+1) a0) (acc ++ [x])/\w7.heap[gx]?=some (O (sL g 0 (acc.length+1) a0))/\Fo b n w w7/\Ps b ga l' w7/\∀k,k<m->k≠b->k≠gx->w7.heap[k]?=w.heap[k]?:=by
 have ae:gx<w.heap.size:=(AB hx).1;have a4:=Bu hown fo4 (by omega);have ad:gx<w4.heap.size:=AL ae fo4.size;have al:=hown5.lt g rfl;have ab:∀k,k<m->some k≠sl.ownBlock:=λ k hk e=>by have:=(a4.lt k e.symm).1;omega
 have af:w5.heap[gx]?=some (O sl):=(hG.block gx ad (ab gx hm)).trans ((fo4.block gx ae (by omega)).trans hx);have ag:=hown.1;have ah:(eL k o nn t (.slice a6 a5 a7) p).length=8:=rfl;have hz:F1.length=8:=rfl;have a3:∀j,j≠g->j≠gx->w7.heap[j]?=w5.heap[j]?:=by
  intro j h1 h2;rcases h7 with rfl | rfl
  .exact (AG _ _ _ _ h2).trans (El h1 _ _ _)
  .exact (El h1 _ _ _).trans (AG _ _ _ _ h2)
 have ak:w7.heap.size=w5.heap.size:=by
  rcases h7 with rfl | rfl
  .simp[World.setCell,J0]
  .rw[J0];simp[World.setCell]
 have hq:w7.os=w5.os/\w7.tape=w5.tape/\w7.output=w5.output:=by
  rcases h7 with rfl | rfl
  .have f:=Qg (g:=g) (n:=0) (eL k o nn t (.slice a6 a5 a7) p) w5 (acc.length*8);exact⟨(Me _ _ _).trans f.os,(I8 _ _ _).trans f.tape,(Gl _ _ _).trans f.output⟩
  .have f:=Qg (g:=g) (n:=0) (eL k o nn t (.slice a6 a5 a7) p) (w5.setCell ⟨gx,F,none⟩ (sL g 0 (acc.length+1) a0)) (acc.length*8);exact⟨f.os.trans (Me _ _ _),f.tape.trans (I8 _ _ _),f.output.trans (Gl _ _ _)⟩
 have ai:w7.heap[gx]?=some (O (sL g 0 (acc.length+1) a0)):=by
  rcases h7 with rfl | rfl
  .exact hset _ ((El (by omega) _ _ _).trans af) _
  .exact (El (by omega) _ _ _).trans (hset _ af _)
 have aa:w7.ownsRow m 48 8 (sL g 0 (acc.length+1) a0) (acc.length+1) (row ++ eL k o nn t (.slice a6 a5 a7) p):=by
  rcases h7 with rfl | rfl
  .exact ownsRow_setCell_below (Oi hown5 ag hz ah) (by show gx<m;omega) _
  .exact Oi (ownsRow_setCell_below hown5 (a:=⟨gx,F,none⟩) (by show gx<m;omega) _) ag hz ah
 clear h7;have aj:=fo4.size;have a8:∀k,k<m->k≠b->k≠gx->w7.heap[k]?=w.heap[k]?:=λ k h1 h2 h3=>(a3 k (by omega) h3).trans ((hG.block k (by omega) (ab k h1)).trans (fo4.block k (by omega) h2))
 have a9:=hall.since (fo4.sinceB (λ hh=>by omega));refine⟨Y3 a4 a9 (hxx.plow (λ k hk _=>⟨by have:w.heap.size<=k:=hk;omega,λ e=>by have:=(hown.lt k e).2;have:w.heap.size<=k:=hk;omega⟩)) hG aa (λ k h1 h2 h3=>a3 k h3 (by omega)) (by omega),ai,⟨hq.1.trans (hG.os.trans fo4.os),hq.2.1.trans (hG.tape.trans fo4.tape),hq.2.2.trans (hG.output.trans fo4.output),by have:=hG.size;have:=fo4.size;omega,λ k h1 h2=>a8 k (by omega) h2 (by omega)⟩,?_,λ k h1 h2 h3=>a8 k h1 h2 h3⟩;exact h4.keep ((a3 b (by omega) (by omega)).trans (hG.block b (by omega) (ab b (by omega)))) ((a3 ga (by omega) (by omega)).trans (hG.block ga (by omega) (ab ga (by omega)))) (by have:=hG.size;omega)
structure ArgBox(b gp gd gx d:Nat)(nm:Lx.B)(pl:Nat)(acc:List Px.Ex)(w:World):Prop where
 ptr:w.heap[gp]?=some (Db b)
 dep:w.heap[gd]?=some (Fw d)
 box:∃sl,w.heap[gx]?=some (eO 7 0 0 nm sl pl)/\F5 (gx+1) w sl acc
theorem ArgBox.fo{gd gx:Nat}{nm:Lx.B}{acc:List Px.Ex}(h:ArgBox b gp gd gx d nm pl acc w)(f:Fo b w.heap.size w w')(h1:b<gp)(h2:gp<gd)(h3:gd<gx):ArgBox b gp gd gx d nm pl acc w':=by
 obtain⟨hp,hd,sl,hx,hg⟩:=h;exact⟨(f.block gp (AB hp).1 (by omega)).trans hp,(f.block gd (AB hd).1 (by omega)).trans hd,sl,(f.block gx (AB hx).1 (by omega)).trans hx,hg.fo f (by omega)⟩
theorem Ah4{n gd gx:Nat}{nm:Lx.B}{q:Px.P Px.Ex}(hd:d<=30)(al:Ek (d+1) q)(h1:b<gp)(h2:gp<gd)(h3:gd<gx)(bg:ga<gp)(bd:n<=gx)(acc:List Px.Ex)(l:List Lx.Tok)(w:World)(h:Ps b ga l w)(hi:ArgBox b gp gd gx d nm pl acc w)(hn:n<=w.heap.size)(bf:acc.length+l.length<=4096) :
  AA 232 #[pt gx 0,pt gp 0,pt gd 0] w λ e w'=>Dq b ga n (ArgBox b gp gd gx d nm pl) acc w (q l) e w':=by
 obtain⟨i0,aw,aq,ay,av⟩:=info_parts Sv;obtain⟨hp,ai,sl,hx,row,aa,aj⟩:=hi;have b0:gp<w.heap.size:=(AB hp).1;have am:gd<w.heap.size:=(AB ai).1;have af:gx<w.heap.size:=(AB hx).1;have c0:=cell_of_one hp;have d0:=cell_of_one ai;have c6:w.cell? ⟨gx,6,none⟩=some sl:=by simp[World.cell?,hx]
 have k6:w.frozen? ⟨gx,6,none⟩=false:=by simp[World.frozen?,hx]
 obtain⟨ao,cap,rfl⟩:=A5 aa;have hC:∀w',Ps b ga l w'->AA 164 #[pt b 0,iv ((d:Int)+1)] w' λ e w''=>Dc b ga w' (q l) e w'':=λ w' h'=>al b ga l w' h'
 have bi:(d:Int)<=30:=by omega
 have bh:IntKind.i64.wrap ((d:Int)+1)=(d:Int)+1:=IntWalk.i64_in _ (by omega);have ax:Ps b ga l w.drew:=h.keep rfl rfl (AD _);have au:∀o,Ps b ga l (w.alloc o).drew:=λ o=>(h.alloc o).keep rfl rfl (AD _)
 have az:∀o,(w.alloc o).drew.cell? ⟨gp,0,none⟩=some (pt b 0)/\(w.alloc o).drew.cell? ⟨gd,0,none⟩=some (iv d)/\(w.alloc o).drew.cell? ⟨gx,6,none⟩=some (.slice ao acc.length cap):=λ o=>⟨(World.cell?_of_block (w:=w) (Al b0)).trans c0,(World.cell?_of_block (w:=w) (Al am)).trans d0,(World.cell?_of_block (w:=w) (Al af)).trans c6⟩
 have ba:(acc.length:Int)<(acc.length:Int)+1:=by omega
 have bj:acc.length<=4096:=by omega
 rcases hq:q l with⟨x,l'⟩ | ⟨a,er⟩
 .rw[hq] at hC;have bc:AA 164 #[pt b 0,iv ((d:Int)+1)] w.drew λ e w''=>∃k o nn t a5 a3 a4 p,e=.returned (eV k o nn t (.slice a5 a3 a4) p)/\IsEx (From w.heap.size) w'' x (eL k o nn t (.slice a5 a3 a4) p)/\Ps b ga l' w''/\Fo b w.heap.size w w'':=by
   refine (hC _ ax).mono ?_;rintro e w'' ⟨v,rfl,⟨k,o,nn,t,a5,a3,a4,p,rfl,a8⟩,h4,a0⟩;exact⟨k,o,nn,t,a5,a3,a4,p,rfl,a8,h4,(AX b _ w).trans a0⟩
  have b8:∀o,AA 164 #[pt b 0,iv ((d:Int)+1)] (w.alloc o).drew λ e w''=>∃k o1 nn t a5 a3 a4 p,e=.returned (eV k o1 nn t (.slice a5 a3 a4) p)/\IsEx (From w.heap.size) w'' x (eL k o1 nn t (.slice a5 a3 a4) p)/\Ps b ga l' w''/\Fo b w.heap.size w w''/\w''.heap[w.heap.size]?=some o:=by
   intro o;refine (hC _ (au o)).mono ?_;rintro e w'' ⟨v,rfl,⟨k,o1,nn,t,a5,a3,a4,p,rfl,a8⟩,h4,a0⟩;have be:(w.alloc o).drew.heap.size=w.heap.size+1:=by show (w.alloc o).heap.size=_;simp
   refine⟨k,o1,nn,t,a5,a3,a4,p,rfl,a8.base (Cd (by omega)),h4,(((AV b _ w).alloc (AD _) o).trans (AX _ _ _)).trans (a0.mono (by omega)),?_⟩;rw[a0.block _ (by omega) (by have:=h.there;omega)];exact heap_new w o
  have ad:∀w4,Fo b w.heap.size w w4->w4.cell? ⟨gp,0,none⟩=some (pt b 0)/\w4.cell? ⟨gd,0,none⟩=some (iv d)/\w4.cell? ⟨gx,6,none⟩=some (.slice ao acc.length cap)/\gx<w4.heap.size/\w4.ownsRow (gx+1) 48 8 (.slice ao acc.length cap) acc.length row:=λ w4 f=>⟨(f.cell b0 (by omega)).trans c0,(f.cell am (by omega)).trans d0,(f.cell af (by omega)).trans c6,AL af f.size,Bu aa f (by omega)⟩
  have ag:∀(w4:World) (o:Obj),Fo b w.heap.size w w4->(w4.cell? ⟨gp,0,none⟩=some (pt b 0)/\w4.cell? ⟨gd,0,none⟩=some (iv d)/\w4.cell? ⟨gx,6,none⟩=some (.slice ao acc.length cap))->(w4.alloc o).cell? ⟨gp,0,none⟩=some (pt b 0)/\(w4.alloc o).cell? ⟨gd,0,none⟩=some (iv d)/\(w4.alloc o).cell? ⟨gx,6,none⟩=some (.slice ao acc.length cap):=λ w4 o f hh=>by
   have:=f.size;exact⟨(World.cell?_of_block (w:=w4) (Al (by show gp<_;omega))).trans hh.1,(World.cell?_of_block (w:=w4) (Al (by show gd<_;omega))).trans hh.2.1,(World.cell?_of_block (w:=w4) (Al (by show gx<_;omega))).trans hh.2.2⟩
  clear hC hq;have ae:∀(w4 w5:World) (g cap5:Nat),Fo b w.heap.size w w4->Grew w4 w5 (.slice ao acc.length cap) g->w5.ownsRow (gx+1) 48 8 (sL g 0 (acc.length+1) cap5) (acc.length+1) (row ++ F1) ->
    w5.cell? ⟨gx,6,none⟩=some (.slice ao acc.length cap)/\w5.frozen? ⟨gx,6,none⟩=false/\gx<g/\g<w5.heap.size/\acc.length+1<=cap5:=by
   intro w4 w5 g cap5 f hG ho;obtain⟨f1,f2,f3,f4,f5⟩:=ad w4 f;have b3:∀k,k<=gx->some k≠(Value.slice ao acc.length cap).ownBlock:=λ k hk e=>by have:=(f5.lt k e.symm).1;omega
   have ar:w5.heap[gx]?=w.heap[gx]?:=(hG.block gx f4 (b3 gx (AD _))).trans (f.block gx af (by omega));have b6:=(ho.lt g rfl);refine⟨(World.cell?_of_block (w:=w) ar).trans c6,(World.frozen?_of_block (w:=w) ar).trans k6,by omega,b6.2,?_⟩;rcases ho.2 with⟨hv,_⟩ | ⟨g',b7,cur,hv,_,_,bk,_⟩
   .simp at hv
   .simp at hv;omega
  have b9:=aa.1;have ab:∀(w5:World) (g cap5:Nat),w5.ownsRow (gx+1) 48 8 (sL g 0 (acc.length+1) cap5) (acc.length+1) (row ++ F1) ->
    w5.cell? ⟨g,acc.length*8,none⟩=some (iv 0)/\w5.cell? ⟨g,acc.length*8+1,none⟩=some (iv 0)/\w5.cell? ⟨g,acc.length*8+2,none⟩=some (iv 0)/\w5.cell? ⟨g,acc.length*8+3,none⟩=some sE/\w5.cell? ⟨g,acc.length*8+4,none⟩=some (iv 0)/\w5.cell? ⟨g,acc.length*8+5,none⟩=some sE/\w5.cell? ⟨g,acc.length*8+6,none⟩=some sZ/\w5.cell? ⟨g,acc.length*8+7,none⟩=some (iv 0)/\w5.frozen? ⟨g,acc.length*8,none⟩=false/\w5.frozen? ⟨g,acc.length*8+1,none⟩=false/\w5.frozen? ⟨g,acc.length*8+2,none⟩=false/\w5.frozen? ⟨g,acc.length*8+3,none⟩=false/\w5.frozen? ⟨g,acc.length*8+4,none⟩=false/\w5.frozen? ⟨g,acc.length*8+5,none⟩=false/\w5.frozen? ⟨g,acc.length*8+6,none⟩=false/\w5.frozen? ⟨g,acc.length*8+7,none⟩=false:=by
   intro w5 g cap5 ho;have o8:=Oj ho b9;exact⟨(o8 0 _ rfl).1,(o8 1 _ rfl).1,(o8 2 _ rfl).1,(o8 3 _ rfl).1,(o8 4 _ rfl).1,(o8 5 _ rfl).1,(o8 6 _ rfl).1,(o8 7 _ rfl).1,(o8 0 _ rfl).2,(o8 1 _ rfl).2,(o8 2 _ rfl).2,(o8 3 _ rfl).2,(o8 4 _ rfl).2,(o8 5 _ rfl).2,(o8 6 _ rfl).2,(o8 7 _ rfl).2⟩
  have a9:∀(w4 w5 w7:World) (g cap5 k o nn:Nat) (t:Lx.B) (a5:Option Addr) (a3 a4 p:Nat),IsEx (From w.heap.size) w4 x (eL k o nn t (.slice a5 a3 a4) p)->Ps b ga l' w4->Fo b w.heap.size w w4->Grew w4 w5 (.slice ao acc.length cap) g->w5.ownsRow (gx+1) 48 8 (sL g 0 (acc.length+1) cap5) (acc.length+1) (row ++ F1) ->
    (w7=(Fe w5 g (acc.length*8) (eL k o nn t (.slice a5 a3 a4) p)).setCell ⟨gx,6,none⟩ (sL g 0 (acc.length+1) cap5)\/w7=Fe (w5.setCell ⟨gx,6,none⟩ (sL g 0 (acc.length+1) cap5)) g (acc.length*8) (eL k o nn t (.slice a5 a3 a4) p)) ->
    Dq b ga n (ArgBox b gp gd gx d nm pl) acc w (.inl (x,l')) (.returned (.tuple #[])) w7:=by
   intro w4 w5 w7 g cap5 k o nn t a5 a3 a4 p a8 h4 a0 hG hown5 h7;obtain⟨r1,r2,r3,r4,r5⟩:=Sx (O:=λ v=>eO 7 0 0 nm v pl) (F:=6) (n:=n) (λ w' hw v=>by simp[World.setCell,Array.getElem?_modify,hw]) (Nat.lt_succ_self gx) af (by omega) (by omega) (by omega) hn hx aa aj a8 h4 a0 hG hown5 h7;exact⟨rfl,⟨(r5 gp (by omega) (by omega) (by omega)).trans hp,(r5 gd (by omega) (by omega) (by omega)).trans ai,_,r2,r1⟩,r4,r3⟩
  go_enter func232,ntmps232;go_wp2_with fail;refine wpE_begin (S:=λ w'=>w'.cell? ⟨gp,0,none⟩=some (pt b 0)/\w'.cell? ⟨gd,0,none⟩=some (iv d)/\w'.cell? ⟨gx,6,none⟩=some (.slice ao acc.length cap)) (N:=λ j=>decide (j<8)) (by kernel_rfl) ?_;have a6:w.drew.cell? ⟨gp,0,none⟩=some (pt b 0)/\w.drew.cell? ⟨gd,0,none⟩=some (iv d)/\w.drew.cell? ⟨gx,6,none⟩=some (.slice ao acc.length cap):=⟨c0,d0,c6⟩;refine wpE_take (i:=0) (v:=pt gx 6) rfl (by kernel_rfl) (by kernel_rfl) (by kernel_rfl) (by kernel_rfl) (λ _ _ _ h=>h) rfl (λ w' hS=>by obtain⟨s1,s2,s3⟩:=hS;go_simp) a6 ?_
  try simp only[aP]
  refine wpE_take (i:=2) (v:=pt b 0) rfl (by kernel_rfl) (by kernel_rfl) (by kernel_rfl) (by kernel_rfl) (λ _ _ _ h=>h) rfl (λ w' hS=>by obtain⟨s1,s2,s3⟩:=hS;go_simp) a6 ?_
  try simp only[aP]
  refine wpE_take (i:=3) (v:=iv d) rfl (by kernel_rfl) (by kernel_rfl) (by kernel_rfl) (by kernel_rfl) (λ _ _ _ h=>h) rfl (λ w' hS=>by obtain⟨s1,s2,s3⟩:=hS;go_simp) a6 ?_
  try simp only[aP]
  refine wpE_take (i:=1) (v:=.slice ao acc.length cap) rfl (by kernel_rfl) (by kernel_rfl) (by kernel_rfl) (by kernel_rfl) (λ _ _ _ h=>h) rfl (λ w' hS=>by obtain⟨s1,s2,s3⟩:=hS;go_simp) a6 ?_
  try simp only[aP]
  refine wpE_take (i:=4) (v:=iv ((d:Int)+1)) rfl (by kernel_rfl) (by kernel_rfl) (by kernel_rfl) (by kernel_rfl) (λ _ _ _ h=>h) rfl (λ w' hS=>by obtain⟨s1,s2,s3⟩:=hS;go_simp) a6 ?_
  try simp only[aP]
  refine wpE_take (i:=6) (v:=iv acc.length) rfl (by kernel_rfl) (by kernel_rfl) (by kernel_rfl) (by kernel_rfl) (λ _ _ _ h=>h) rfl (λ w' hS=>by obtain⟨s1,s2,s3⟩:=hS;go_simp) a6 ?_
  try simp only[aP]
  refine wpE_two (i:=5) (j:=7) (by kernel_rfl) rfl rfl rfl rfl (λ K hK=>?_) (λ K hK=>?_)
  .go_simp;refine bc.mono ?_;rintro e w4 ⟨k,o,nn,t,a5,a3,a4,p,rfl,a8,h4,a0⟩;obtain⟨yp,yd,y6,ak,a7⟩:=ad w4 a0;refine hK _ _ (λ _=>⟨yp,yd,y6⟩) ?_;clear hK K
   try simp only[aP]
   refine wpE_one (i:=7) (by kernel_rfl) rfl rfl (λ K hK=>?_);go_simp;refine hK _ _ (λ _=>ag w4 _ a0 ⟨yp,yd,y6⟩) ?_;clear hK K
   try simp only[aP]
   refine wpE_one (i:=8) (by kernel_rfl) rfl rfl (λ K hK=>?_);refine wp_append_lies _ (.tmp 4) (.tmp 10) 44 rfl (gx+1) 48 i0 _ 8 96 underlying44 aw aq ay av rfl (by omega) (.slice ao acc.length cap) acc.length row rfl (a7.alloc _) ⟨w4.heap.size,0,none⟩ 1 1 F1 rfl rfl (World.news_of_block (heap_new w4 _)) (by simp[Value.oneCell']) (by omega) (by unfold maxLen;omega) (by omega) (by simp;omega) (w4.heap.size+1) (by simp) ?_;intro g cap5 w5 hown5 hgrow hat hlt5;have hG:=Oh hgrow hat;obtain⟨z6,zf,b4,b5,ah⟩:=ae w4 w5 g cap5 a0 hG hown5;obtain⟨q0,q1,q2,q3,q4,q5,q6,q7,r0,r1,r2,r3,r4,r5,r6,r7⟩:=ab w5 g cap5 hown5;refine hK _ _ (λ h=>absurd h (by decide)) ?_;clear hK K
   try simp only[aP]
   refine wpE_takeL (i:=9) (v:=pt g (acc.length*8)) rfl (by kernel_rfl) (by kernel_rfl) (by kernel_rfl) rfl (λ _ _ _ h=>h) rfl (λ w'=>by go_simp) ?_
   try simp only[aP]
   refine wpE_takeL (i:=11) (v:=pt gx 6) rfl (by kernel_rfl) (by kernel_rfl) (by kernel_rfl) rfl (λ _ _ _ h=>h) rfl (λ w'=>by go_simp) ?_
   try simp only[aP]
   refine wpE_two (i:=10) (j:=12) (by kernel_rfl) rfl rfl rfl rfl (λ K hK=>?_) (λ K hK=>?_)
   .go_simp;refine hK _ _ (λ h=>absurd h (by decide)) ?_;clear hK K;refine wpE_one (i:=12) (by kernel_rfl) rfl rfl (λ K hK=>?_);go_simp;refine hK _ _ (λ h=>absurd h (by decide)) (wpE_done (by kernel_rfl) ?_);go_wp2
    go_end0
    exact a9 w4 w5 _ g cap5 k o nn t a5 a3 a4 p a8 h4 a0 hG hown5 (AI (by simp only[Fe,Nat.add_assoc,Nat.reduceAdd]))
   .go_simp;refine hK _ _ (λ h=>absurd h (by decide)) ?_;clear hK K;refine wpE_one (i:=10) (by kernel_rfl) rfl rfl (λ K hK=>?_);go_simp;refine hK _ _ (λ h=>absurd h (by decide)) (wpE_done (by kernel_rfl) ?_);go_wp2
    go_end0
    exact a9 w4 w5 _ g cap5 k o nn t a5 a3 a4 p a8 h4 a0 hG hown5 (AJ (by simp only[Fe,Nat.add_assoc,Nat.reduceAdd]))
  .go_simp;refine hK _ _ (λ _=>az _) ?_;clear hK K
   try simp only[aP]
   refine wpE_one (i:=5) (by kernel_rfl) rfl rfl (λ K hK=>?_);go_simp;refine (b8 _).mono ?_;rintro e w4 ⟨k,o,nn,t,a5,a3,a4,p,rfl,a8,h4,a0,bb⟩;obtain⟨yp,yd,y6,ak,a7⟩:=ad w4 a0;refine hK _ _ (λ _=>⟨yp,yd,y6⟩) ?_;clear hK K
   try simp only[aP]
   refine wpE_one (i:=8) (by kernel_rfl) rfl rfl (λ K hK=>?_);refine wp_append_lies _ (.tmp 4) (.tmp 10) 44 rfl (gx+1) 48 i0 _ 8 96 underlying44 aw aq ay av rfl (by omega) (.slice ao acc.length cap) acc.length row rfl a7 ⟨w.heap.size,0,none⟩ 1 1 F1 rfl rfl (World.news_of_block bb) (by simp[Value.oneCell']) (by omega) (by unfold maxLen;omega) (by omega) (by omega) w4.heap.size rfl ?_;intro g cap5 w5 hown5 hgrow hat hlt5;have hG:=At6 hgrow hat;obtain⟨z6,zf,b4,b5,ah⟩:=ae w4 w5 g cap5 a0 hG hown5;obtain⟨q0,q1,q2,q3,q4,q5,q6,q7,r0,r1,r2,r3,r4,r5,r6,r7⟩:=ab w5 g cap5 hown5;refine hK _ _ (λ h=>absurd h (by decide)) ?_;clear hK K
   try simp only[aP]
   refine wpE_takeL (i:=9) (v:=pt g (acc.length*8)) rfl (by kernel_rfl) (by kernel_rfl) (by kernel_rfl) rfl (λ _ _ _ h=>h) rfl (λ w'=>by go_simp) ?_
   try simp only[aP]
   refine wpE_takeL (i:=11) (v:=pt gx 6) rfl (by kernel_rfl) (by kernel_rfl) (by kernel_rfl) rfl (λ _ _ _ h=>h) rfl (λ w'=>by go_simp) ?_
   try simp only[aP]
   refine wpE_two (i:=10) (j:=12) (by kernel_rfl) rfl rfl rfl rfl (λ K hK=>?_) (λ K hK=>?_)
   .go_simp;refine hK _ _ (λ h=>absurd h (by decide)) ?_;clear hK K;refine wpE_one (i:=12) (by kernel_rfl) rfl rfl (λ K hK=>?_);go_simp;refine hK _ _ (λ h=>absurd h (by decide)) (wpE_done (by kernel_rfl) ?_);go_wp2
    go_end0
    exact a9 w4 w5 _ g cap5 k o nn t a5 a3 a4 p a8 h4 a0 hG hown5 (AI (by simp only[Fe,Nat.add_assoc,Nat.reduceAdd]))
   .go_simp;refine hK _ _ (λ h=>absurd h (by decide)) ?_;clear hK K;refine wpE_one (i:=10) (by kernel_rfl) rfl rfl (λ K hK=>?_);go_simp;refine hK _ _ (λ h=>absurd h (by decide)) (wpE_done (by kernel_rfl) ?_);go_wp2
    go_end0
    exact a9 w4 w5 _ g cap5 k o nn t a5 a3 a4 p a8 h4 a0 hG hown5 (AJ (by simp only[Fe,Nat.add_assoc,Nat.reduceAdd]))
 .rw[hq] at hC;replace hC:∀w',Ps b ga l w'->AA 164 #[pt b 0,iv ((d:Int)+1)] w' λ e w''=>e=.panicked (Bs a er)/\Fo b w'.heap.size w' w'':=hC
  clear hq;go_enter func232,ntmps232;go_wp2_with fail;refine wpE_begin (S:=λ w'=>w'.cell? ⟨gp,0,none⟩=some (pt b 0)/\w'.cell? ⟨gd,0,none⟩=some (iv d)/\w'.cell? ⟨gx,6,none⟩=some (.slice ao acc.length cap)) (N:=λ j=>decide (j<8)) (by kernel_rfl) ?_;have a6:w.drew.cell? ⟨gp,0,none⟩=some (pt b 0)/\w.drew.cell? ⟨gd,0,none⟩=some (iv d)/\w.drew.cell? ⟨gx,6,none⟩=some (.slice ao acc.length cap):=⟨c0,d0,c6⟩;refine wpE_take (i:=0) (v:=pt gx 6) rfl (by kernel_rfl) (by kernel_rfl) (by kernel_rfl) (by kernel_rfl) (λ _ _ _ h=>h) rfl (λ w' hS=>by obtain⟨s1,s2,s3⟩:=hS;go_simp) a6 ?_
  try simp only[aP]
  refine wpE_take (i:=2) (v:=pt b 0) rfl (by kernel_rfl) (by kernel_rfl) (by kernel_rfl) (by kernel_rfl) (λ _ _ _ h=>h) rfl (λ w' hS=>by obtain⟨s1,s2,s3⟩:=hS;go_simp) a6 ?_
  try simp only[aP]
  refine wpE_take (i:=3) (v:=iv d) rfl (by kernel_rfl) (by kernel_rfl) (by kernel_rfl) (by kernel_rfl) (λ _ _ _ h=>h) rfl (λ w' hS=>by obtain⟨s1,s2,s3⟩:=hS;go_simp) a6 ?_
  try simp only[aP]
  refine wpE_take (i:=1) (v:=.slice ao acc.length cap) rfl (by kernel_rfl) (by kernel_rfl) (by kernel_rfl) (by kernel_rfl) (λ _ _ _ h=>h) rfl (λ w' hS=>by obtain⟨s1,s2,s3⟩:=hS;go_simp) a6 ?_
  try simp only[aP]
  refine wpE_take (i:=4) (v:=iv ((d:Int)+1)) rfl (by kernel_rfl) (by kernel_rfl) (by kernel_rfl) (by kernel_rfl) (λ _ _ _ h=>h) rfl (λ w' hS=>by obtain⟨s1,s2,s3⟩:=hS;go_simp) a6 ?_
  try simp only[aP]
  refine wpE_take (i:=6) (v:=iv acc.length) rfl (by kernel_rfl) (by kernel_rfl) (by kernel_rfl) (by kernel_rfl) (λ _ _ _ h=>h) rfl (λ w' hS=>by obtain⟨s1,s2,s3⟩:=hS;go_simp) a6 ?_
  try simp only[aP]
  refine wpE_two (i:=5) (j:=7) (by kernel_rfl) rfl rfl rfl rfl (λ K hK=>?_) (λ K hK=>?_)
  .go_simp;refine (hC _ ax).mono ?_;rintro e w4 ⟨rfl,a0⟩;exact⟨rfl,rfl,(AX b n w).trans (a0.mono hn)⟩
  .go_simp;refine hK _ _ (λ _=>az _) ?_;clear hK K
   try simp only[aP]
   refine wpE_one (i:=5) (by kernel_rfl) rfl rfl (λ K hK=>?_);go_simp;refine (hC _ (au _)).mono ?_;rintro e w4 ⟨rfl,a0⟩;exact⟨rfl,rfl,(((AV b n w).alloc hn _).trans (AX _ _ _)).trans (a0.mono (by show n<=(w.alloc _).heap.size;simp;omega))⟩
abbrev sO(k:Nat)(nm:Lx.B)(es b1 b2:Value)(pl:Nat):Obj:=.cells #[iv k,.string ⟨nm.toArray⟩,iv 0,.bool false,iv 0,es,b1,b2,iv pl] 46 (0,0)
abbrev Sy(gs gp gd:Nat):Obj:=.cells #[.func (.func 163) #[] #[pt gs 0,pt gp 0,pt gd 0]] 1 (0,0)
structure PStBox(b gp gd gx ge d k:Nat)(nm:Lx.B)(b1 b2:Value)(pl:Nat)(acc:List Px.Ex)(w:World):Prop where
 ptr:w.heap[gp]?=some (Db b)
 dep:w.heap[gd]?=some (Fw d)
 fe:w.heap[ge]?=some (Sy gx gp gd)
 box:∃sl,w.heap[gx]?=some (sO k nm sl b1 b2 pl)/\F5 (ge+1) w sl acc
theorem PStBox.fo{gd gx k:Nat}{nm:Lx.B}{b1 b2:Value}{acc:List Px.Ex}(h:PStBox b gp gd gx ge d k nm b1 b2 pl acc w)(f:Fo b w.heap.size w w')(h1:b<gp)(h2:gp<gd)(h3:gd<gx)(h4:gx<ge):PStBox b gp gd gx ge d k nm b1 b2 pl acc w':=by
 obtain⟨hp,hd,he,sl,hx,hg⟩:=h;exact⟨(f.block gp (AB hp).1 (by omega)).trans hp,(f.block gd (AB hd).1 (by omega)).trans hd,(f.block ge (AB he).1 (by omega)).trans he,sl,(f.block gx (AB hx).1 (by omega)).trans hx,hg.fo f (by omega)⟩
theorem Ff{n gd gx:Nat}{k0:Nat}{nm:Lx.B}{b1 b2:Value}{q:Px.P Px.Ex}(hd:d<=30)(al:Ek (d+1) q)(h1:b<gp)(h2:gp<gd)(h3:gd<gx)(h5:gx<ge)(bi:ga<gp)(bf:n<=gx)(acc:List Px.Ex)(l:List Lx.Tok)(w:World)(h:Ps b ga l w)(hi:PStBox b gp gd gx ge d k0 nm b1 b2 pl acc w)(hn:n<=w.heap.size)(bh:acc.length+l.length<=4096) :
  AA 163 #[pt gx 0,pt gp 0,pt gd 0] w λ e w'=>Dq b ga n (PStBox b gp gd gx ge d k0 nm b1 b2 pl) acc w (q l) e w':=by
 obtain⟨i0,ax,aq,az,aw⟩:=info_parts Sv;obtain⟨hp,ah,b3,sl,hx,row,aa,aj⟩:=hi;have au:ge<w.heap.size:=(AB b3).1;have b4:gp<w.heap.size:=(AB hp).1;have am:gd<w.heap.size:=(AB ah).1;have ai:gx<w.heap.size:=(AB hx).1;have c0:=cell_of_one hp;have d0:=cell_of_one ah;have c6:w.cell? ⟨gx,5,none⟩=some sl:=by simp[World.cell?,hx]
 have k6:w.frozen? ⟨gx,5,none⟩=false:=by simp[World.frozen?,hx]
 obtain⟨ao,cap,rfl⟩:=A5 aa;have hC:∀w',Ps b ga l w'->AA 164 #[pt b 0,iv ((d:Int)+1)] w' λ e w''=>Dc b ga w' (q l) e w'':=λ w' h'=>al b ga l w' h'
 have bk:(d:Int)<=30:=by omega
 have bj:IntKind.i64.wrap ((d:Int)+1)=(d:Int)+1:=IntWalk.i64_in _ (by omega);have ay:Ps b ga l w.drew:=h.keep rfl rfl (AD _);have av:∀o,Ps b ga l (w.alloc o).drew:=λ o=>(h.alloc o).keep rfl rfl (AD _)
 have b0:∀o,(w.alloc o).drew.cell? ⟨gp,0,none⟩=some (pt b 0)/\(w.alloc o).drew.cell? ⟨gd,0,none⟩=some (iv d)/\(w.alloc o).drew.cell? ⟨gx,5,none⟩=some (.slice ao acc.length cap):=λ o=>⟨(World.cell?_of_block (w:=w) (Al b4)).trans c0,(World.cell?_of_block (w:=w) (Al am)).trans d0,(World.cell?_of_block (w:=w) (Al ai)).trans c6⟩
 have bc:(acc.length:Int)<(acc.length:Int)+1:=by omega
 have bl:acc.length<=4096:=by omega
 rcases hq:q l with⟨x,l'⟩ | ⟨a,er⟩
 .rw[hq] at hC;have be:AA 164 #[pt b 0,iv ((d:Int)+1)] w.drew λ e w''=>∃k o nn t a5 a3 a4 p,e=.returned (eV k o nn t (.slice a5 a3 a4) p)/\IsEx (From w.heap.size) w'' x (eL k o nn t (.slice a5 a3 a4) p)/\Ps b ga l' w''/\Fo b w.heap.size w w'':=by
   refine (hC _ ay).mono ?_;rintro e w'' ⟨v,rfl,⟨k,o,nn,t,a5,a3,a4,p,rfl,a8⟩,h4,a0⟩;exact⟨k,o,nn,t,a5,a3,a4,p,rfl,a8,h4,(AX b _ w).trans a0⟩
  have ba:∀o,AA 164 #[pt b 0,iv ((d:Int)+1)] (w.alloc o).drew λ e w''=>∃k o1 nn t a5 a3 a4 p,e=.returned (eV k o1 nn t (.slice a5 a3 a4) p)/\IsEx (From w.heap.size) w'' x (eL k o1 nn t (.slice a5 a3 a4) p)/\Ps b ga l' w''/\Fo b w.heap.size w w''/\w''.heap[w.heap.size]?=some o:=by
   intro o;refine (hC _ (av o)).mono ?_;rintro e w'' ⟨v,rfl,⟨k,o1,nn,t,a5,a3,a4,p,rfl,a8⟩,h4,a0⟩;have bg:(w.alloc o).drew.heap.size=w.heap.size+1:=by show (w.alloc o).heap.size=_;simp
   refine⟨k,o1,nn,t,a5,a3,a4,p,rfl,a8.base (Cd (by omega)),h4,(((AV b _ w).alloc (AD _) o).trans (AX _ _ _)).trans (a0.mono (by omega)),?_⟩;rw[a0.block _ (by omega) (by have:=h.there;omega)];exact heap_new w o
  have ad:∀w4,Fo b w.heap.size w w4->w4.cell? ⟨gp,0,none⟩=some (pt b 0)/\w4.cell? ⟨gd,0,none⟩=some (iv d)/\w4.cell? ⟨gx,5,none⟩=some (.slice ao acc.length cap)/\ge<w4.heap.size/\w4.ownsRow (ge+1) 48 8 (.slice ao acc.length cap) acc.length row:=λ w4 f=>⟨(f.cell b4 (by omega)).trans c0,(f.cell am (by omega)).trans d0,(f.cell ai (by omega)).trans c6,AL au f.size,Bu aa f (by omega)⟩
  have af:∀(w4:World) (o:Obj),Fo b w.heap.size w w4->(w4.cell? ⟨gp,0,none⟩=some (pt b 0)/\w4.cell? ⟨gd,0,none⟩=some (iv d)/\w4.cell? ⟨gx,5,none⟩=some (.slice ao acc.length cap))->(w4.alloc o).cell? ⟨gp,0,none⟩=some (pt b 0)/\(w4.alloc o).cell? ⟨gd,0,none⟩=some (iv d)/\(w4.alloc o).cell? ⟨gx,5,none⟩=some (.slice ao acc.length cap):=λ w4 o f hh=>by
   have:=f.size;exact⟨(World.cell?_of_block (w:=w4) (Al (by show gp<_;omega))).trans hh.1,(World.cell?_of_block (w:=w4) (Al (by show gd<_;omega))).trans hh.2.1,(World.cell?_of_block (w:=w4) (Al (by show gx<_;omega))).trans hh.2.2⟩
  clear hC hq;have ae:∀(w4 w5:World) (g cap5:Nat),Fo b w.heap.size w w4->Grew w4 w5 (.slice ao acc.length cap) g->w5.ownsRow (ge+1) 48 8 (sL g 0 (acc.length+1) cap5) (acc.length+1) (row ++ F1) ->
    w5.cell? ⟨gx,5,none⟩=some (.slice ao acc.length cap)/\w5.frozen? ⟨gx,5,none⟩=false/\gx<g/\g<w5.heap.size/\acc.length+1<=cap5:=by
   intro w4 w5 g cap5 f hG ho;obtain⟨f1,f2,f3,f4,f5⟩:=ad w4 f;have b5:∀k,k<=gx->some k≠(Value.slice ao acc.length cap).ownBlock:=λ k hk e=>by have:=(f5.lt k e.symm).1;omega
   have ar:w5.heap[gx]?=w.heap[gx]?:=(hG.block gx (by omega) (b5 gx (AD _))).trans (f.block gx ai (by omega));have b8:=(ho.lt g rfl);refine⟨(World.cell?_of_block (w:=w) ar).trans c6,(World.frozen?_of_block (w:=w) ar).trans k6,by omega,b8.2,?_⟩;rcases ho.2 with⟨hv,_⟩ | ⟨g',b9,cur,hv,_,_,bn,_⟩
   .simp at hv
   .simp at hv;omega
  have bb:=aa.1;have ab:∀(w5:World) (g cap5:Nat),w5.ownsRow (ge+1) 48 8 (sL g 0 (acc.length+1) cap5) (acc.length+1) (row ++ F1) ->
    w5.cell? ⟨g,acc.length*8,none⟩=some (iv 0)/\w5.cell? ⟨g,acc.length*8+1,none⟩=some (iv 0)/\w5.cell? ⟨g,acc.length*8+2,none⟩=some (iv 0)/\w5.cell? ⟨g,acc.length*8+3,none⟩=some sE/\w5.cell? ⟨g,acc.length*8+4,none⟩=some (iv 0)/\w5.cell? ⟨g,acc.length*8+5,none⟩=some sE/\w5.cell? ⟨g,acc.length*8+6,none⟩=some sZ/\w5.cell? ⟨g,acc.length*8+7,none⟩=some (iv 0)/\w5.frozen? ⟨g,acc.length*8,none⟩=false/\w5.frozen? ⟨g,acc.length*8+1,none⟩=false/\w5.frozen? ⟨g,acc.length*8+2,none⟩=false/\w5.frozen? ⟨g,acc.length*8+3,none⟩=false/\w5.frozen? ⟨g,acc.length*8+4,none⟩=false/\w5.frozen? ⟨g,acc.length*8+5,none⟩=false/\w5.frozen? ⟨g,acc.length*8+6,none⟩=false/\w5.frozen? ⟨g,acc.length*8+7,none⟩=false:=by
   intro w5 g cap5 ho;have o8:=Oj ho bb;exact⟨(o8 0 _ rfl).1,(o8 1 _ rfl).1,(o8 2 _ rfl).1,(o8 3 _ rfl).1,(o8 4 _ rfl).1,(o8 5 _ rfl).1,(o8 6 _ rfl).1,(o8 7 _ rfl).1,(o8 0 _ rfl).2,(o8 1 _ rfl).2,(o8 2 _ rfl).2,(o8 3 _ rfl).2,(o8 4 _ rfl).2,(o8 5 _ rfl).2,(o8 6 _ rfl).2,(o8 7 _ rfl).2⟩
  have a9:∀(w4 w5 w7:World) (g cap5 k o nn:Nat) (t:Lx.B) (a5:Option Addr) (a3 a4 p:Nat),IsEx (From w.heap.size) w4 x (eL k o nn t (.slice a5 a3 a4) p)->Ps b ga l' w4->Fo b w.heap.size w w4->Grew w4 w5 (.slice ao acc.length cap) g->w5.ownsRow (ge+1) 48 8 (sL g 0 (acc.length+1) cap5) (acc.length+1) (row ++ F1) ->
    (w7=(Fe w5 g (acc.length*8) (eL k o nn t (.slice a5 a3 a4) p)).setCell ⟨gx,5,none⟩ (sL g 0 (acc.length+1) cap5)\/w7=Fe (w5.setCell ⟨gx,5,none⟩ (sL g 0 (acc.length+1) cap5)) g (acc.length*8) (eL k o nn t (.slice a5 a3 a4) p)) ->
    Dq b ga n (PStBox b gp gd gx ge d k0 nm b1 b2 pl) acc w (.inl (x,l')) (.returned (.tuple #[])) w7:=by
   intro w4 w5 w7 g cap5 k o nn t a5 a3 a4 p a8 h4 a0 hG hown5 h7;obtain⟨r1,r2,r3,r4,r5⟩:=Sx (O:=λ v=>sO k0 nm v b1 b2 pl) (F:=5) (n:=n) (λ w' hw v=>by simp[World.setCell,Array.getElem?_modify,hw]) (by omega) au (by omega) (by omega) (by omega) hn hx aa aj a8 h4 a0 hG hown5 h7;exact⟨rfl,⟨(r5 gp (by omega) (by omega) (by omega)).trans hp,(r5 gd (by omega) (by omega) (by omega)).trans ah,(r5 ge (by omega) (by omega) (by omega)).trans b3,_,r2,r1⟩,r4,r3⟩
  go_enter func163,ntmps163;go_wp2_with fail;refine wpE_begin (S:=λ w'=>w'.cell? ⟨gp,0,none⟩=some (pt b 0)/\w'.cell? ⟨gd,0,none⟩=some (iv d)/\w'.cell? ⟨gx,5,none⟩=some (.slice ao acc.length cap)) (N:=λ j=>decide (j<8)) (by kernel_rfl) ?_;have a6:w.drew.cell? ⟨gp,0,none⟩=some (pt b 0)/\w.drew.cell? ⟨gd,0,none⟩=some (iv d)/\w.drew.cell? ⟨gx,5,none⟩=some (.slice ao acc.length cap):=⟨c0,d0,c6⟩;refine wpE_take (i:=0) (v:=pt gx 5) rfl (by kernel_rfl) (by kernel_rfl) (by kernel_rfl) (by kernel_rfl) (λ _ _ _ h=>h) rfl (λ w' hS=>by obtain⟨s1,s2,s3⟩:=hS;go_simp) a6 ?_
  try simp only[aP]
  refine wpE_take (i:=2) (v:=pt b 0) rfl (by kernel_rfl) (by kernel_rfl) (by kernel_rfl) (by kernel_rfl) (λ _ _ _ h=>h) rfl (λ w' hS=>by obtain⟨s1,s2,s3⟩:=hS;go_simp) a6 ?_
  try simp only[aP]
  refine wpE_take (i:=3) (v:=iv d) rfl (by kernel_rfl) (by kernel_rfl) (by kernel_rfl) (by kernel_rfl) (λ _ _ _ h=>h) rfl (λ w' hS=>by obtain⟨s1,s2,s3⟩:=hS;go_simp) a6 ?_
  try simp only[aP]
  refine wpE_take (i:=1) (v:=.slice ao acc.length cap) rfl (by kernel_rfl) (by kernel_rfl) (by kernel_rfl) (by kernel_rfl) (λ _ _ _ h=>h) rfl (λ w' hS=>by obtain⟨s1,s2,s3⟩:=hS;go_simp) a6 ?_
  try simp only[aP]
  refine wpE_take (i:=4) (v:=iv ((d:Int)+1)) rfl (by kernel_rfl) (by kernel_rfl) (by kernel_rfl) (by kernel_rfl) (λ _ _ _ h=>h) rfl (λ w' hS=>by obtain⟨s1,s2,s3⟩:=hS;go_simp) a6 ?_
  try simp only[aP]
  refine wpE_take (i:=6) (v:=iv acc.length) rfl (by kernel_rfl) (by kernel_rfl) (by kernel_rfl) (by kernel_rfl) (λ _ _ _ h=>h) rfl (λ w' hS=>by obtain⟨s1,s2,s3⟩:=hS;go_simp) a6 ?_
  try simp only[aP]
  refine wpE_two (i:=5) (j:=7) (by kernel_rfl) rfl rfl rfl rfl (λ K hK=>?_) (λ K hK=>?_)
  .go_simp;refine be.mono ?_;rintro e w4 ⟨k,o,nn,t,a5,a3,a4,p,rfl,a8,h4,a0⟩;obtain⟨yp,yd,y6,ak,a7⟩:=ad w4 a0;refine hK _ _ (λ _=>⟨yp,yd,y6⟩) ?_;clear hK K
   try simp only[aP]
   refine wpE_one (i:=7) (by kernel_rfl) rfl rfl (λ K hK=>?_);go_simp;refine hK _ _ (λ _=>af w4 _ a0 ⟨yp,yd,y6⟩) ?_;clear hK K
   try simp only[aP]
   refine wpE_one (i:=8) (by kernel_rfl) rfl rfl (λ K hK=>?_);refine wp_append_lies _ (.tmp 4) (.tmp 10) 44 rfl (ge+1) 48 i0 _ 8 96 underlying44 ax aq az aw rfl (by omega) (.slice ao acc.length cap) acc.length row rfl (a7.alloc _) ⟨w4.heap.size,0,none⟩ 1 1 F1 rfl rfl (World.news_of_block (heap_new w4 _)) (by simp[Value.oneCell']) (by omega) (by unfold maxLen;omega) (by omega) (by simp;omega) (w4.heap.size+1) (by simp) ?_;intro g cap5 w5 hown5 hgrow hat hlt5;have hG:=Oh hgrow hat;obtain⟨z6,zf,b6,b7,ag⟩:=ae w4 w5 g cap5 a0 hG hown5;obtain⟨q0,q1,q2,q3,q4,q5,q6,q7,r0,r1,r2,r3,r4,r5,r6,r7⟩:=ab w5 g cap5 hown5;refine hK _ _ (λ h=>absurd h (by decide)) ?_;clear hK K
   try simp only[aP]
   refine wpE_takeL (i:=9) (v:=pt g (acc.length*8)) rfl (by kernel_rfl) (by kernel_rfl) (by kernel_rfl) rfl (λ _ _ _ h=>h) rfl (λ w'=>by go_simp) ?_
   try simp only[aP]
   refine wpE_takeL (i:=11) (v:=pt gx 5) rfl (by kernel_rfl) (by kernel_rfl) (by kernel_rfl) rfl (λ _ _ _ h=>h) rfl (λ w'=>by go_simp) ?_
   try simp only[aP]
   refine wpE_two (i:=10) (j:=12) (by kernel_rfl) rfl rfl rfl rfl (λ K hK=>?_) (λ K hK=>?_)
   .go_simp;refine hK _ _ (λ h=>absurd h (by decide)) ?_;clear hK K;refine wpE_one (i:=12) (by kernel_rfl) rfl rfl (λ K hK=>?_);go_simp;refine hK _ _ (λ h=>absurd h (by decide)) (wpE_done (by kernel_rfl) ?_);go_wp2
    go_end0
    exact a9 w4 w5 _ g cap5 k o nn t a5 a3 a4 p a8 h4 a0 hG hown5 (AI (by simp only[Fe,Nat.add_assoc,Nat.reduceAdd]))
   .go_simp;refine hK _ _ (λ h=>absurd h (by decide)) ?_;clear hK K;refine wpE_one (i:=10) (by kernel_rfl) rfl rfl (λ K hK=>?_);go_simp;refine hK _ _ (λ h=>absurd h (by decide)) (wpE_done (by kernel_rfl) ?_);go_wp2
    go_end0
    exact a9 w4 w5 _ g cap5 k o nn t a5 a3 a4 p a8 h4 a0 hG hown5 (AJ (by simp only[Fe,Nat.add_assoc,Nat.reduceAdd]))
  .go_simp;refine hK _ _ (λ _=>b0 _) ?_;clear hK K
   try simp only[aP]
   refine wpE_one (i:=5) (by kernel_rfl) rfl rfl (λ K hK=>?_);go_simp;refine (ba _).mono ?_;rintro e w4 ⟨k,o,nn,t,a5,a3,a4,p,rfl,a8,h4,a0,bd⟩;obtain⟨yp,yd,y6,ak,a7⟩:=ad w4 a0;refine hK _ _ (λ _=>⟨yp,yd,y6⟩) ?_;clear hK K
   try simp only[aP]
   refine wpE_one (i:=8) (by kernel_rfl) rfl rfl (λ K hK=>?_);refine wp_append_lies _ (.tmp 4) (.tmp 10) 44 rfl (ge+1) 48 i0 _ 8 96 underlying44 ax aq az aw rfl (by omega) (.slice ao acc.length cap) acc.length row rfl a7 ⟨w.heap.size,0,none⟩ 1 1 F1 rfl rfl (World.news_of_block bd) (by simp[Value.oneCell']) (by omega) (by unfold maxLen;omega) (by omega) (by omega) w4.heap.size rfl ?_;intro g cap5 w5 hown5 hgrow hat hlt5;have hG:=At6 hgrow hat;obtain⟨z6,zf,b6,b7,ag⟩:=ae w4 w5 g cap5 a0 hG hown5;obtain⟨q0,q1,q2,q3,q4,q5,q6,q7,r0,r1,r2,r3,r4,r5,r6,r7⟩:=ab w5 g cap5 hown5;refine hK _ _ (λ h=>absurd h (by decide)) ?_;clear hK K
   try simp only[aP]
   refine wpE_takeL (i:=9) (v:=pt g (acc.length*8)) rfl (by kernel_rfl) (by kernel_rfl) (by kernel_rfl) rfl (λ _ _ _ h=>h) rfl (λ w'=>by go_simp) ?_
   try simp only[aP]
   refine wpE_takeL (i:=11) (v:=pt gx 5) rfl (by kernel_rfl) (by kernel_rfl) (by kernel_rfl) rfl (λ _ _ _ h=>h) rfl (λ w'=>by go_simp) ?_
   try simp only[aP]
   refine wpE_two (i:=10) (j:=12) (by kernel_rfl) rfl rfl rfl rfl (λ K hK=>?_) (λ K hK=>?_)
   .go_simp;refine hK _ _ (λ h=>absurd h (by decide)) ?_;clear hK K;refine wpE_one (i:=12) (by kernel_rfl) rfl rfl (λ K hK=>?_);go_simp;refine hK _ _ (λ h=>absurd h (by decide)) (wpE_done (by kernel_rfl) ?_);go_wp2
    go_end0
    exact a9 w4 w5 _ g cap5 k o nn t a5 a3 a4 p a8 h4 a0 hG hown5 (AI (by simp only[Fe,Nat.add_assoc,Nat.reduceAdd]))
   .go_simp;refine hK _ _ (λ h=>absurd h (by decide)) ?_;clear hK K;refine wpE_one (i:=10) (by kernel_rfl) rfl rfl (λ K hK=>?_);go_simp;refine hK _ _ (λ h=>absurd h (by decide)) (wpE_done (by kernel_rfl) ?_);go_wp2
    go_end0
    exact a9 w4 w5 _ g cap5 k o nn t a5 a3 a4 p a8 h4 a0 hG hown5 (AJ (by simp only[Fe,Nat.add_assoc,Nat.reduceAdd]))
 .rw[hq] at hC;replace hC:∀w',Ps b ga l w'->AA 164 #[pt b 0,iv ((d:Int)+1)] w' λ e w''=>e=.panicked (Bs a er)/\Fo b w'.heap.size w' w'':=hC
  clear hq;go_enter func163,ntmps163;go_wp2_with fail;refine wpE_begin (S:=λ w'=>w'.cell? ⟨gp,0,none⟩=some (pt b 0)/\w'.cell? ⟨gd,0,none⟩=some (iv d)/\w'.cell? ⟨gx,5,none⟩=some (.slice ao acc.length cap)) (N:=λ j=>decide (j<8)) (by kernel_rfl) ?_;have a6:w.drew.cell? ⟨gp,0,none⟩=some (pt b 0)/\w.drew.cell? ⟨gd,0,none⟩=some (iv d)/\w.drew.cell? ⟨gx,5,none⟩=some (.slice ao acc.length cap):=⟨c0,d0,c6⟩;refine wpE_take (i:=0) (v:=pt gx 5) rfl (by kernel_rfl) (by kernel_rfl) (by kernel_rfl) (by kernel_rfl) (λ _ _ _ h=>h) rfl (λ w' hS=>by obtain⟨s1,s2,s3⟩:=hS;go_simp) a6 ?_
  try simp only[aP]
  refine wpE_take (i:=2) (v:=pt b 0) rfl (by kernel_rfl) (by kernel_rfl) (by kernel_rfl) (by kernel_rfl) (λ _ _ _ h=>h) rfl (λ w' hS=>by obtain⟨s1,s2,s3⟩:=hS;go_simp) a6 ?_
  try simp only[aP]
  refine wpE_take (i:=3) (v:=iv d) rfl (by kernel_rfl) (by kernel_rfl) (by kernel_rfl) (by kernel_rfl) (λ _ _ _ h=>h) rfl (λ w' hS=>by obtain⟨s1,s2,s3⟩:=hS;go_simp) a6 ?_
  try simp only[aP]
  refine wpE_take (i:=1) (v:=.slice ao acc.length cap) rfl (by kernel_rfl) (by kernel_rfl) (by kernel_rfl) (by kernel_rfl) (λ _ _ _ h=>h) rfl (λ w' hS=>by obtain⟨s1,s2,s3⟩:=hS;go_simp) a6 ?_
  try simp only[aP]
  refine wpE_take (i:=4) (v:=iv ((d:Int)+1)) rfl (by kernel_rfl) (by kernel_rfl) (by kernel_rfl) (by kernel_rfl) (λ _ _ _ h=>h) rfl (λ w' hS=>by obtain⟨s1,s2,s3⟩:=hS;go_simp) a6 ?_
  try simp only[aP]
  refine wpE_take (i:=6) (v:=iv acc.length) rfl (by kernel_rfl) (by kernel_rfl) (by kernel_rfl) (by kernel_rfl) (λ _ _ _ h=>h) rfl (λ w' hS=>by obtain⟨s1,s2,s3⟩:=hS;go_simp) a6 ?_
  try simp only[aP]
  refine wpE_two (i:=5) (j:=7) (by kernel_rfl) rfl rfl rfl rfl (λ K hK=>?_) (λ K hK=>?_)
  .go_simp;refine (hC _ ay).mono ?_;rintro e w4 ⟨rfl,a0⟩;exact⟨rfl,rfl,(AX b n w).trans (a0.mono hn)⟩
  .go_simp;refine hK _ _ (λ _=>b0 _) ?_;clear hK K
   try simp only[aP]
   refine wpE_one (i:=5) (by kernel_rfl) rfl rfl (λ K hK=>?_);go_simp;refine (hC _ (av _)).mono ?_;rintro e w4 ⟨rfl,a0⟩;exact⟨rfl,rfl,(((AV b n w).alloc hn _).trans (AX _ _ _)).trans (a0.mono (by show n<=(w.alloc _).heap.size;simp;omega))⟩
theorem Xg{gr:Nat}{x:Px.Ex}{l':List Lx.Tok}{k o n:Nat}{t:Lx.B}{ao:Option Addr}{an ac:Nat}{B:AS}(h1:Ps b ga l' w1)(hF:Fo b w.heap.size w w1)(hr:w.heap.size<=gr)(hg:gr≠b)(a0:gr≠ga)(hx:IsEx B w1 x (eL k o n t (.slice ao an ac) p))(hB:∀g,B g->w.heap.size<=g/\g≠gr) :
  Dc b ga w (.inl (x,l')) (.returned (eV k o n t (.slice ao an ac) p)) (eS w1 gr k o n t (.slice ao an ac) p):=
 ⟨_,rfl,⟨k,o,n,t,ao,an,ac,p,rfl,(hx.since (Since.set8' (λ h=>(hB _ h).2 rfl) _ _ _ _ _ _ _ _)).base (λ g h=>(hB g h).1)⟩,h1.set8 hg a0 _ _ _ _ _ _ _ _,hF.set8 hr _ _ _ _ _ _ _ _⟩
def namedR(e:Px.P Px.Ex)(l:List Lx.Tok):Px.R Px.Ex:=Px.bind (Px.name l) λ t l1=>if Px.sees 4 [40] l1 then Px.bind (Px.items e (l1.length+1) 0 [] l1.tail) λ xs l2=>.inl (.mk 7 0 0 t.text xs t.place,l2) else .inl (.mk 6 0 0 t.text [] t.place,l1)
def Aq9(d:Nat)(e:Px.P Px.Ex):Prop:=∀(b ga:Nat) (l:List Lx.Tok) (w:World),Ps b ga l w->AA 228 #[pt b 0,iv d] w λ r w'=>Dc b ga w (namedR e l) r w'
theorem Bd1(args:Array Value)(w:World):(callFunc 232 args).run prog w=.ok (.enter 232 args) w:=enters_of func232 (by kernel_rfl) rfl args w
abbrev Fx(w:World)(b d:Nat)(o:Obj):World:=((w.alloc (Db b)).alloc (Fw d)).alloc o
theorem Ol(w:World)(b d:Nat)(o:Obj):(Fx w b d o).heap[w.heap.size]?=some (Db b):=by
 rw[Al (by simp;omega),Al (by simp)];exact heap_new w _
theorem Om(w:World)(b d:Nat)(o:Obj):(Fx w b d o).heap[w.heap.size+1]?=some (Fw d):=by
 rw[Al (by simp)];have:=heap_new (w.alloc (Db b)) (Fw d);simpa using this
theorem On(w:World)(b d:Nat)(o:Obj):(Fx w b d o).heap[w.heap.size+1+1]?=some o:=by
 have:=heap_new ((w.alloc (Db b)).alloc (Fw d)) o;simpa using this
theorem Mf(w:World)(b d:Nat)(o:Obj):(Fx w b d o).heap.size=w.heap.size+3:=by simp
theorem Kl(w:World)(b d:Nat)(o:Obj):Below w.heap.size w (Fx w b d o):=(((AF _ _).alloc (AD _) _).alloc (by simp) _).alloc (by simp;omega) _
theorem Ax4{B:AS}{nm:Lx.B}{xs:List Px.Ex}(h:F5 m w sl xs)(hB:∀k,m<=k->k<w.heap.size->B k):IsEx B w (.mk 7 0 0 nm xs pl) (eL 7 0 0 nm sl pl):=by
 obtain⟨row,h1,h2⟩:=h.rows hB;rw[IsEx];exact⟨sl,row,rfl,h1,h2⟩
theorem U8{e:Px.P Px.Ex}(hd:d<=30)(ai:Px.Ok e)(af:Ek (d+1) e):Aq9 d e:=by
 intro b ga l w h;obtain⟨res,a0⟩:∃res,Aside (res=namedR e l):=⟨_,rfl⟩;rw[<-a0.out];have b8:∀(fn:Fn) (first cap:Array Value) (w:World),(Instr.makeFunc fn first cap).run prog w=.ok (.func fn first cap) w:=λ _ _ _ _=>rfl
 have ay:=h.there;have b3:=h.gl;have ae:=Kl w b d zeroE;have h0:=h.below ae;have p0:=Ol w b d zeroE;have d0:=Om w b d zeroE;have o0:=On w b d zeroE;have z0:=Mf w b d zeroE;have a8:Fo b w.heap.size w (Fx w b d zeroE):=AW ae;have c0:=cell_of_one p0;go_enter func228,ntmps228
 go_upto_region 1 with fail
 generalize aa:((w.alloc (Db b)).alloc (Fw d)).alloc zeroE=w0;replace aa:Fx w b d zeroE=w0:=aa;rw[aa] at ae h0 p0 d0 o0 z0 a8 c0;clear aa;have b5:w.heap.size<w0.heap.size:=by omega
 go_wp2_with fail
 refine (Ha h0).mono ?_;rcases hq:Px.name l with⟨t,l1⟩ | ⟨a,er⟩
 .rintro r w1 ⟨v,rfl,rfl,h1,a6⟩;replace a0:Aside (res=if Px.sees 4 [40] l1 then Px.bind (Px.items e (l1.length+1) 0 [] l1.tail) λ xs l2=>.inl (.mk 7 0 0 t.text xs t.place,l2) else .inl (.mk 6 0 0 t.text [] t.place,l1)):=by
   show _=_;rw[a0.out,namedR,hq];rfl
  have p1:=(a6.block _ (by omega) (by omega)).trans p0;have d1:=(a6.block _ (by omega) (by omega)).trans d0;have o1:=(a6.block _ (by omega) (by omega)).trans o0;have al:=a8.call a6 a8.size;have aw:=a6.size;clear hq p0 d0 o0 c0 a8 h0 a6;have a9:Below w1.heap.size w1 ((w1.alloc (tokB t)).alloc (eO 6 0 0 t.text sZ t.place)):=((AF _ _).alloc (AD _) _).alloc (by simp) _;have h3:=h1.below a9;have p3:=(a9.block _ (by omega)).trans p1;have d3:=(a9.block _ (by omega)).trans d1;have o3:=(a9.block _ (by omega)).trans o1;have ak:=al.below a9 (by omega);have x3:((w1.alloc (tokB t)).alloc (eO 6 0 0 t.text sZ t.place)).heap[w1.heap.size+1]?=some (eO 6 0 0 t.text sZ t.place):=by
   have:=heap_new (w1.alloc (tokB t)) (eO 6 0 0 t.text sZ t.place);simpa using this
  have z3:((w1.alloc (tokB t)).alloc (eO 6 0 0 t.text sZ t.place)).heap.size=w1.heap.size+2:=by simp
  have c3:=cell_of_one p3
  go_upto_region 3 with fail
  generalize (w1.alloc (tokB t)).alloc (eO 6 0 0 t.text sZ t.place)=w3 at *;obtain⟨gx,aj⟩:∃gx,gx=w1.heap.size+1:=⟨_,rfl⟩;rw[<-aj] at x3 ⊢;clear a9 al h1 p1 d1 o1;go_wp2_with fail;refine (G9 h3 [40]).mono ?_;rintro r w4 ⟨rfl,a5⟩;have h4:=h3.below a5;have p4:=(a5.block _ (by omega)).trans p3;have d4:=(a5.block _ (by omega)).trans d3;have o4:=(a5.block _ (by omega)).trans o3;have x4:=(a5.block _ (by omega)).trans x3;have ah:=ak.below a5 (by omega);have z4:=a5.size;clear a5 h3 p3 d3 o3 x3 ak c3;have b9:w.heap.size+4<=w4.heap.size:=by omega
  have az:gx<w4.heap.size:=by omega
  have ax:w.heap.size+3<gx:=by omega
  clear z4 z3 aw aj;rcases hs:Px.sees 4 [40] l1 with _ | _
  .replace a0:Aside (res=.inl (.mk 6 0 0 t.text [] t.place,l1)):=by
    show _=_;rw[a0.out,if_neg (by rw[hs];simp)]
   rw[show Px.sees (cls [40]) [40] l1=false from hs];obtain⟨y0,y1,y2,y3,y4,y5,y6,y7,_⟩:=Ab x4;obtain⟨e0,e1,e2,e3,e4,e5,e6,e7,m0,m1,m2,m3,m4,m5,m6,m7⟩:=Ab o4;have b0:w.heap.size+1+1<w4.heap.size:=by omega
   have a7:=Xg (gr:=w.heap.size+1+1) h4 ah (by omega) (by omega) (by omega) (I7 (λ _=>False) w4 6 0 0 t.text t.place) (λ g hg=>hg.elim);clear hs;generalize w.heap.size+1+1=gr at *;go_wp2;rw[a0.out];exact bodyPost_ret (by simp[results,results228,go_sem,e0,e1,e2,e3,e4,e5,e6,e7]) rfl a7
  .rw[show Px.sees (cls [40]) [40] l1=true from hs];have a3:Px.items e (l1.length+1) 0 [] l1.tail=Px.items e (l1.tail.length+1) 0 [] l1.tail:=items_fuel ai _ _ _ _ _ (Px.sees4 hs h4.good).good (by have:=(Px.sees4 hs h4.good).less;omega) (by omega);have a4:(Px.bind (Px.need [40] l1) λ _ l2=>Px.items e (l2.length+1) 0 [] l2)=Px.items e (l1.length+1) 0 [] l1.tail:=by
    rw[a3];unfold Px.need Px.needK;rw[if_pos hs];rfl
   replace a0:Aside (res=Px.bind (Px.items e (l1.length+1) 0 [] l1.tail) λ xs l2=>.inl (.mk 7 0 0 t.text xs t.place,l2)):=by
    show _=_;rw[a0.out,if_pos hs]
   have x5:(w4.setCell ⟨gx,0,none⟩ (iv 7)).heap[gx]?=some (eO 7 0 0 t.text sZ t.place):=by simp[World.setCell,Array.getElem?_modify,x4]
   have ad:∀k,k≠gx->(w4.setCell ⟨gx,0,none⟩ (iv 7)).heap[k]?=w4.heap[k]?:=λ k hk=>AG _ _ _ _ hk
   have h5:=h4.other (g:=gx) 0 (iv 7) (by omega) (by omega);have ag:=ah.fresh (g:=gx) (by omega) 0 (iv 7);have hA:ArgBox b w.heap.size (w.heap.size+1) gx d t.text t.place [] (w4.setCell ⟨gx,0,none⟩ (iv 7)):=⟨(ad _ (by omega)).trans p4,(ad _ (by omega)).trans d4,_,x5,F5.nil _ _⟩;have o5:=(ad (w.heap.size+1+1) (by omega)).trans o4;have z5:(w4.setCell ⟨gx,0,none⟩ (iv 7)).heap.size=w4.heap.size:=by simp[World.setCell]
   have hL:=Kk (n:=gx) (K:=232) (caps:=#[pt gx 0,pt w.heap.size 0,pt (w.heap.size+1) 0]) (Inv:=λ acc w'=>ArgBox b w.heap.size (w.heap.size+1) gx d t.text t.place acc w') h5 (by omega) ai Bd1
    (λ acc la wa ha hia hna hla=>Ah4 hd af (by omega) (by omega) (by omega) (by omega) (AD _) acc la wa ha hia hna hla)
    (λ acc wa wb hia hf=>hia.fo hf (by omega) (by omega) (by omega)) hA
   rw[a4] at hL;have c4:=cell_of_one p4;have b4:=(Ab x4).1;have b7:=(Ab x4).2.2.2.2.2.2.2.2.1;have c5:(w4.setCell ⟨gx,0,none⟩ (iv 7)).cell? ⟨w.heap.size,0,none⟩=some (pt b 0):=cell_of_one hA.ptr;have b6:w.heap.size<w4.heap.size:=by omega
   clear a4 a3 hs x5 hA
   go_upto_region 5 with fail
   generalize w4.setCell ⟨gx,0,none⟩ (iv 7)=w5 at *;go_wp2_with fail;refine hL.mono ?_;rcases hq:Px.items e (l1.length+1) 0 [] l1.tail with⟨xs,l2⟩ | ⟨a,er⟩
   .rintro r w6 ⟨rfl,au,h6,ab⟩;replace a0:Aside (res=.inl (.mk 7 0 0 t.text xs t.place,l2)):=by
     show _=_;rw[a0.out,hq];rfl
    obtain⟨p6,d6,sl,x6,am⟩:=au;have o6:=(ab.block (w.heap.size+1+1) (by omega) (by omega)).trans o5;have av:Fo b w.heap.size w w6:=ag.trans (ab.mono (by omega));have ar:gx<w6.heap.size:=(AB x6).1;have aq:w.heap.size+1+1<w6.heap.size:=by omega
    obtain⟨ao,ac,rfl⟩:=A5 am.choose_spec.1;have a7:=Xg (gr:=w.heap.size+1+1) (B:=λ k=>gx+1<=k) h6 av (by omega) (by omega) (by omega) (Ax4 (nm:=t.text) (pl:=t.place) am (λ k hk _=>hk)) (λ g hg=>by omega);obtain⟨y0,y1,y2,y3,y4,y5,y6,y7,_⟩:=Ab x6;obtain⟨e0,e1,e2,e3,e4,e5,e6,e7,m0,m1,m2,m3,m4,m5,m6,m7⟩:=Ab o6;clear hq hL;generalize w.heap.size+1+1=gr at *;go_wp2;rw[a0.out];exact bodyPost_ret (by simp[results,results228,go_sem,e0,e1,e2,e3,e4,e5,e6,e7]) rfl a7
   .rintro r w6 ⟨rfl,ab⟩;refine⟨rfl,?_⟩;rw[a0.out,hq];exact⟨rfl,ag.trans (ab.mono (by omega))⟩
 .rintro r w1 ⟨rfl,a6⟩;refine⟨rfl,?_⟩;rw[a0.out,namedR,hq];exact⟨rfl,a8.call a6 a8.size⟩
def Ax5(d:Nat)(e:Px.P Px.Ex):Prop:=∀(b ga:Nat) (l:List Lx.Tok) (w:World),Ps b ga l w->AA 225 #[pt b 0,iv d] w λ r w'=>Dc b ga w (Px.primary e l) r w'
theorem U9(e:Px.P Px.Ex)(t:Lx.Tok)(r:List Lx.Tok):Px.primary e (t :: r) =
  if t.kind=2 then .inl (.mk 1 0 t.num [] [] t.place,r)
  else if t.kind=3 then .inl (.mk 3 0 0 t.text [] t.place,r)
  else if Px.sees 1 [116,114,117,101] (t :: r) then .inl (.mk 2 0 1 [] [] t.place,r)
  else if Px.sees 1 [102,97,108,115,101] (t :: r) then .inl (.mk 2 0 0 [] [] t.place,r)
  else if Px.sees 4 [40] (t :: r) then Px.bind (e r) λ x l1=>Px.bind (Px.need [41] l1) λ _ l2=>.inl (x,l2)
  else namedR e (t :: r):=rfl
theorem Qh{e:Px.P Px.Ex}(hd:d<=30)(bj:Px.Ok e)(ar:Ek (d+1) e):Ax5 d e:=by
 intro b ga l w h;have al:=U8 hd bj ar;obtain⟨t,r,rfl,_⟩:=h.head;obtain⟨res,a0⟩:∃res,Aside (res=Px.primary e (t :: r)):=⟨_,rfl⟩;rw[<-a0.out];replace a0:Aside (res=_):=a0.out.trans (U9 e t r);have a5:w.heap.size≠b:=by have:=h.there;omega
 have a6:w.heap.size≠ga:=by have:=h.gl;omega
 have h0:=h.alloc zeroE;have be:=Ec w;have b6:Fo b w.heap.size w (w.alloc zeroE):=(AV _ _ _).alloc (AD _) _;have bh:w.heap.size<(w.alloc zeroE).heap.size:=by simp
 have hC:=Ce h0;have au:∀(l:List Lx.Tok) (w:World),Ps b ga l w->AA 164 #[pt b 0,iv ((d:Int)+1)] w λ r w'=>Dc b ga w (e l) r w':=λ l w h=>ar b ga l w h
 have c1:(d:Int)<=30:=by omega
 go_enter func225,ntmps225;go_wp2_with fail;generalize w.alloc zeroE=w0 at *;refine hC.mono ?_;rintro r1 w1 ⟨rfl,ae⟩;have h2:=(h0.below ae).alloc (tokB t);have ak:(w1.alloc (tokB t)).heap[w.heap.size]?=some zeroE:=(Al (by have:=ae.size;omega)).trans ((ae.block _ bh).trans be);have bc:=heap_new w1 (tokB t);have ah:=(b6.below ae b6.size).alloc (by have:=ae.size;omega) (tokB t);have a9:w.heap.size<(w1.alloc (tokB t)).heap.size:=by have:=ae.size;simp;omega
 have ag:w1.heap.size<(w1.alloc (tokB t)).heap.size:=by simp
 have b3:w1.heap.size≠b:=by have:=(h0.below ae).there;omega
 have bx:w.heap.size<w1.heap.size:=by have:=ae.size;omega
 clear hC be b6 ae h0
 go_upto_region 2 with fail
 generalize w1.alloc (tokB t)=w2 at *;generalize w1.heap.size=g5 at *;obtain⟨x0,x1,x2,x3,_⟩:=cells_of4 bc;have bv:g5≠w.heap.size:=by omega
 have bt:w.heap.size≠g5:=by omega
 by_cases hk2:t.kind=2
 .replace a0:Aside (res=.inl (.mk 1 0 t.num [] [] t.place,r)):=by
   show _=_;rw[a0.out,if_pos hk2]
  have bo:((t.kind:Int) == 2)=true:=by simp;omega
  have b8:t.kind≠5:=by omega
  have hT:∀w',Ps b ga (t :: r) w'->_:=λ w' h'=>ptake_any h' b8
  have c0:=At3;clear hk2
  go_upto_region 3 with fail
  go_region_held3 (λ w'=>w'.cell? ⟨g5,3,none⟩=some (iv t.place)) (go_keep)
   ((go_at_call 70;refine (hT w2.drew (h2.keep rfl rfl (AD _))).mono ?_;rintro e w4 ⟨rfl,h4,a4⟩;have y3:=(a4.cell (o:=3) ag b3).trans x3;have ab:w.heap.size<w4.heap.size:=AL a9 a4.size;have a7:=(a4.block _ a9 a5).trans ak;obtain⟨e0,e1,e2,e3,e4,e5,e6,e7,m0,m1,m2,m3,m4,m5,m6,m7⟩:=Ab a7))
  have a3:=D8 (x:=.mk 1 0 t.num [] [] t.place) (B:=λ _=>False) h4 ((ah.trans (AX _ _ _)).trans (a4.mono (Nat.le_of_lt a9))) a5 a6 (I7 _ w4 1 0 t.num [] t.place) (λ g hg=>hg.elim);go_wp2;rw[a0.out];exact bodyPost_ret (by simp[results,results225,go_sem,e0,e1,e2,e3,e4,e5,e6,e7]) rfl a3
 have bn:((t.kind:Int) == 2)=false:=by simp;omega
 by_cases hk3:t.kind=3
 .replace a0:Aside (res=.inl (.mk 3 0 0 t.text [] t.place,r)):=by
   show _=_;rw[a0.out,if_neg hk2,if_pos hk3]
  have bo:((t.kind:Int) == 3)=true:=by simp;omega
  have b8:t.kind≠5:=by omega
  have hT:∀w',Ps b ga (t :: r) w'->_:=λ w' h'=>ptake_any h' b8
  have c2:=W4;clear hk2 hk3
  go_upto_region 5 with fail
  go_region_held3 (λ w'=>w'.cell? ⟨g5,3,none⟩=some (iv t.place)) (go_keep)
   ((go_at_call 70;refine (hT w2.drew (h2.keep rfl rfl (AD _))).mono ?_;rintro e w4 ⟨rfl,h4,a4⟩;have y3:=(a4.cell (o:=3) ag b3).trans x3;have ab:w.heap.size<w4.heap.size:=AL a9 a4.size;have a7:=(a4.block _ a9 a5).trans ak;obtain⟨e0,e1,e2,e3,e4,e5,e6,e7,m0,m1,m2,m3,m4,m5,m6,m7⟩:=Ab a7))
  have a3:=D8 (x:=.mk 3 0 0 t.text [] t.place) (B:=λ _=>False) h4 ((ah.trans (AX _ _ _)).trans (a4.mono (Nat.le_of_lt a9))) a5 a6 (I7 _ w4 3 0 0 t.text t.place) (λ g hg=>hg.elim);go_wp2;rw[a0.out];exact bodyPost_ret (by simp[results,results225,go_sem,e0,e1,e2,e3,e4,e5,e6,e7]) rfl a3
 have bs:((t.kind:Int) == 3)=false:=by simp;omega
 replace a0:Aside (res=if Px.sees 1 [116,114,117,101] (t :: r) then .inl (.mk 2 0 1 [] [] t.place,r) else if Px.sees 1 [102,97,108,115,101] (t :: r) then .inl (.mk 2 0 0 [] [] t.place,r) else if Px.sees 4 [40] (t :: r) then Px.bind (e r) λ x l1=>Px.bind (Px.need [41] l1) λ _ l2=>.inl (x,l2) else namedR e (t :: r)):=by
  show _=_;rw[a0.out,if_neg hk2,if_neg hk3]
 clear hk2 hk3;rcases hs1:Px.sees 1 [116,114,117,101] (t :: r) with _ | _
 rotate_left
 .replace a0:Aside (res=.inl (.mk 2 0 1 [] [] t.place,r)):=by
   show _=_;rw[a0.out,if_pos hs1]
  go_wp2_with fail
  refine (Ay h2 [116,114,117,101] (by decide) hs1).mono ?_;rintro r1 w4 ⟨rfl,h4,a4⟩;have y3:=(a4.cell (o:=3) ag b3).trans x3;have ab:w.heap.size<w4.heap.size:=AL a9 a4.size;have bi:g5<w4.heap.size:=AL ag a4.size;have a7:=(a4.block _ a9 a5).trans ak;obtain⟨e0,e1,e2,e3,e4,e5,e6,e7,m0,m1,m2,m3,m4,m5,m6,m7⟩:=Ab a7;have a3:=D8 (x:=.mk 2 0 1 [] [] t.place) (B:=λ _=>False) h4 (ah.call a4 ah.size) a5 a6 (I7 _ w4 2 0 1 [] t.place) (λ g hg=>hg.elim);go_wp2;rw[a0.out];exact bodyPost_ret (by simp[results,results225,go_sem,e0,e1,e2,e3,e4,e5,e6,e7]) rfl a3
 replace a0:Aside (res=if Px.sees 1 [102,97,108,115,101] (t :: r) then .inl (.mk 2 0 0 [] [] t.place,r) else if Px.sees 4 [40] (t :: r) then Px.bind (e r) λ x l1=>Px.bind (Px.need [41] l1) λ _ l2=>.inl (x,l2) else namedR e (t :: r)):=by
  show _=_;rw[a0.out,if_neg (by rw[hs1];simp)]
 go_wp2_with fail
 refine (A8 h2 [116,114,117,101] hs1).mono ?_;rintro r1 w3 ⟨rfl,h3,aj⟩;have b5:=(aj.block _ a9).trans ak;have bf:=(aj.block _ ag).trans bc;have aq:=ah.below aj ah.size;have am:w.heap.size<w3.heap.size:=AL a9 aj.size;have bb:g5<w3.heap.size:=AL ag aj.size;clear x0 x1 x2 x3 ak bc ah a9 ag h2 aj hs1;obtain⟨x0,x1,x2,x3,_⟩:=cells_of4 bf;rcases hs1:Px.sees 1 [102,97,108,115,101] (t :: r) with _ | _
 rotate_left
 .replace a0:Aside (res=.inl (.mk 2 0 0 [] [] t.place,r)):=by
   show _=_;rw[a0.out,if_pos hs1]
  go_wp2_with fail
  refine (Ay h3 [102,97,108,115,101] (by decide) hs1).mono ?_;rintro r1 w4 ⟨rfl,h4,a4⟩;have y3:=(a4.cell (o:=3) bb b3).trans x3;have ab:w.heap.size<w4.heap.size:=AL am a4.size;have bi:g5<w4.heap.size:=AL bb a4.size;have a7:=(a4.block _ am a5).trans b5;obtain⟨e0,e1,e2,e3,e4,e5,e6,e7,m0,m1,m2,m3,m4,m5,m6,m7⟩:=Ab a7;have a3:=D8 (x:=.mk 2 0 0 [] [] t.place) (B:=λ _=>False) h4 (aq.call a4 aq.size) a5 a6 (I7 _ w4 2 0 0 [] t.place) (λ g hg=>hg.elim);go_wp2;rw[a0.out];exact bodyPost_ret (by simp[results,results225,go_sem,e0,e1,e2,e3,e4,e5,e6,e7]) rfl a3
 replace a0:Aside (res=if Px.sees 4 [40] (t :: r) then Px.bind (e r) λ x l1=>Px.bind (Px.need [41] l1) λ _ l2=>.inl (x,l2) else namedR e (t :: r)):=by
  show _=_;rw[a0.out,if_neg (by rw[hs1];simp)]
 go_wp2_with fail
 refine (A8 h3 [102,97,108,115,101] hs1).mono ?_;rintro r1 w4 ⟨rfl,h4,b4⟩;have a7:=(b4.block _ am).trans b5;have ai:=aq.below b4 aq.size;have ab:w.heap.size<w4.heap.size:=AL am b4.size;clear x0 x1 x2 x3 b5 bf aq am bb h3 b4 hs1;rcases hs1:Px.sees 4 [40] (t :: r) with _ | _
 .replace a0:Aside (res=namedR e (t :: r)):=by
   show _=_;rw[a0.out,if_neg (by rw[hs1];simp)]
  go_wp2_with fail
  refine (A8 h4 [40] hs1).mono ?_;rintro r1 w5 ⟨rfl,h5,b0⟩;have ax:=(b0.block _ ab).trans a7;have aa:=ai.below b0 ai.size;have af:w.heap.size<w5.heap.size:=AL ab b0.size;clear hs1 a7 ai ab h4 b0;go_wp2_with fail;refine (al b ga (t :: r) w5 h5).mono ?_;rcases hq:namedR e (t :: r) with⟨x,l1⟩ | ⟨a,er⟩
  .rintro r1 w6 ⟨v,rfl,⟨k,o,n,tt,ao,an,ac,p,rfl,hx⟩,h6,a8⟩;have aw:=(a8.block _ af a5).trans ax;have b9:w.heap.size<w6.heap.size:=AL af a8.size;obtain⟨e0,e1,e2,e3,e4,e5,e6,e7,m0,m1,m2,m3,m4,m5,m6,m7⟩:=Ab aw;have a3:=D8 h6 (aa.call a8 aa.size) a5 a6 hx (λ g hg=>AL af hg);rw[hq] at a0;clear hq;go_wp2;rw[a0.out];exact bodyPost_ret (by simp[results,results225,go_sem,e0,e1,e2,e3,e4,e5,e6,e7]) rfl a3
  .rintro r1 w6 ⟨rfl,a8⟩;refine⟨rfl,?_⟩;rw[a0.out,hq];exact⟨rfl,aa.call a8 aa.size⟩
 .replace a0:Aside (res=Px.bind (e r) λ x l1=>Px.bind (Px.need [41] l1) λ _ l2=>.inl (x,l2)):=by
   show _=_;rw[a0.out,if_pos hs1]
  go_wp2_with fail
  refine (Ay h4 [40] (by decide) hs1).mono ?_;rintro r1 w5 ⟨rfl,h5,ay⟩;have ax:=(ay.block _ ab a5).trans a7;have aa:=ai.call ay ai.size;have af:w.heap.size<w5.heap.size:=AL ab ay.size;clear hs1 a7 ai ab h4 ay;go_wp2_with fail;refine (au r w5 h5).mono ?_;rcases hq:e r with⟨x,l1⟩ | ⟨a,er⟩
  .rintro r1 w6 ⟨v,rfl,⟨k,o,n,tt,ao,an,ac,p,rfl,hx⟩,h6,a8⟩;replace a0:Aside (res=Px.bind (Px.need [41] l1) λ _ l2=>.inl (x,l2)):=by
    show _=_;rw[a0.out,hq];rfl
   have aw:=(a8.block _ af a5).trans ax;have b9:w.heap.size<w6.heap.size:=AL af a8.size;have b7:=aa.call a8 aa.size;have h7:=h6.alloc (eO k o n tt (.slice ao an ac) p);have az:Below w6.heap.size w6 (w6.alloc (eO k o n tt (.slice ao an ac) p)):=(AF _ _).alloc (AD _) _;have bp:=(hx.plow (B':=λ g=>w.heap.size<g/\g≠w6.heap.size) (λ g hg hlt=>⟨AL af hg,Nat.ne_of_lt hlt⟩)).since (Since.of_below az);have br:=(az.block _ b9).trans aw;have bu:=heap_new w6 (eO k o n tt (.slice ao an ac) p);have av:=b7.below az b7.size;have bg:w.heap.size<(w6.alloc (eO k o n tt (.slice ao an ac) p)).heap.size:=AL b9 az.size;have bd:w6.heap.size<(w6.alloc (eO k o n tt (.slice ao an ac) p)).heap.size:=by simp
   have ba:w6.heap.size≠b:=by have:=h6.there;omega
   clear hq ax aw aa b7 h5 h6 a8 hx af
   go_upto_region 12 with fail
   generalize w6.alloc (eO k o n tt (.slice ao an ac) p)=w7 at *;generalize w6.heap.size=g6 at *;go_wp2_with fail;refine (pneed_any h7 4 [41] (by decide) (by decide)).mono ?_;rcases hq:Px.need [41] l1 with⟨u,l2⟩ | ⟨a,er⟩
   .rw[show Px.needK 4 [41] l1=_ from hq];rintro r1 w8' ⟨v,rfl,rfl,h8,ad⟩;replace a0:Aside (res=.inl (x,l2)):=by
     show _=_;rw[a0.out,hq];rfl
    have bk:=(ad.block _ bg a5).trans br;have bl:=(ad.block _ bd ba).trans bu;have bw:w.heap.size<w8'.heap.size:=AL bg ad.size;have c3:g6<w8'.heap.size:=AL bd ad.size;have bq:=bp.since (ad.sinceB (λ hh=>by have:=h.there;omega));have a3:=D8 h8 (av.call ad av.size) a5 a6 bq (λ g hg=>hg.1);obtain⟨e0,e1,e2,e3,e4,e5,e6,e7,m0,m1,m2,m3,m4,m5,m6,m7⟩:=Ab bk;obtain⟨y0,y1,y2,y3,y4,y5,y6,y7,_⟩:=Ab bl;clear hq ad;go_wp2;rw[a0.out];exact bodyPost_ret (by simp[results,results225,go_sem,e0,e1,e2,e3,e4,e5,e6,e7]) rfl a3
   .rw[show Px.needK 4 [41] l1=_ from hq];rintro r1 w8' ⟨rfl,ad⟩;refine⟨rfl,?_⟩;rw[a0.out,hq];exact⟨rfl,av.call ad av.size⟩
  .rintro r1 w6 ⟨rfl,a8⟩;refine⟨rfl,?_⟩;rw[a0.out,hq];exact⟨rfl,aa.call a8 aa.size⟩
end
end Go.Proofs.YtpckmjfabiallaaGreatDoor
