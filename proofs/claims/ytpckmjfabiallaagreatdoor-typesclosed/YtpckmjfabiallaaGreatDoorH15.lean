/- Texts of ours, joined. -/
import Derived.Test.YtpckmjfabiallaaGreatDoorH09
import Derived.Test.YtpckmjfabiallaaGreatDoorH13
set_option linter.unusedVariables false
set_option linter.unusedSimpArgs false
set_option maxRecDepth 100000
set_option maxHeartbeats 16000000
namespace Go.Proofs.YtpckmjfabiallaaGreatDoor
variable{i sz:Nat}{v:Value}{w w':World}
open List
open Tryz
section
open Go.RowKit
open Ck (CE CS CF CP)
theorem Af5(w:World)(a0 a1 a2 x0 x1 x2 x3 x4 x5 x6 x7:Value):∃w0 w1,w.alloc (.cells #[a0,a1,a2] 26)=w0/\w0.alloc (.cells #[x0,x1,x2,x3,x4,x5,x6,x7] 48)=w1/\w.heap.size<w0.heap.size/\w0.heap.size<w1.heap.size/\Below w.heap.size w w1/\w1.heap[w.heap.size]?=some (.cells #[a0,a1,a2] 26 (0,0))/\w1.heap[w0.heap.size]?=some (.cells #[x0,x1,x2,x3,x4,x5,x6,x7] 48 (0,0)):=by
 obtain⟨w0,a4⟩:∃w0,w.alloc (.cells #[a0,a1,a2] 26)=w0:=⟨_,rfl⟩;have a7:Below w.heap.size w w0:=by rw[<-a4];exact (AF _ _).alloc (AD _) _
 have a9:w0.heap.size=w.heap.size+1:=by rw[<-a4];simp
 have a8:w0.heap[w.heap.size]?=some (.cells #[a0,a1,a2] 26 (0,0)):=by rw[<-a4];exact heap_new _ _
 obtain⟨w1,a3⟩:∃w1,w0.alloc (.cells #[x0,x1,x2,x3,x4,x5,x6,x7] 48)=w1:=⟨_,rfl⟩;have a5:Below w0.heap.size w0 w1:=by rw[<-a3];exact (AF _ _).alloc (AD _) _
 have aa:w1.heap.size=w0.heap.size+1:=by rw[<-a3];simp
 have a6:w1.heap[w0.heap.size]?=some (.cells #[x0,x1,x2,x3,x4,x5,x6,x7] 48 (0,0)):=by rw[<-a3];exact heap_new _ _
 exact⟨w0,w1,a4,a3,by omega,by omega,a7.trans (a5.mono (by omega)),(a5.block _ (by omega)).trans a8,a6⟩
def Av7(B:AS)(w:World)(fa:Option Addr)(n:Nat)(f:CF):Prop:=∃(g o pc lc bc:Nat) (pa la ba:Option Addr),fa=some ⟨g,o,none⟩/\g<w.heap.size /\
 (w.cell? ⟨g,o+n*7,none⟩=some (.string ⟨f.name.toArray⟩)/\w.cell? ⟨g,o+n*7+1,none⟩=some (.bool f.on)/\w.cell? ⟨g,o+n*7+2,none⟩=some (.slice pa f.params.length pc)/\w.cell? ⟨g,o+n*7+3,none⟩=some (.string ⟨f.result.toArray⟩)/\w.cell? ⟨g,o+n*7+4,none⟩=some (.slice la f.locals.length lc)/\w.cell? ⟨g,o+n*7+5,none⟩=some (.slice ba f.body.length bc)/\w.cell? ⟨g,o+n*7+6,none⟩=some (iv 0)) /\
 Hz B w f.params (.slice pa f.params.length pc)/\Na B w f.locals (.slice la f.locals.length lc)/\Fb B w f.body (.slice ba f.body.length bc)
theorem SlRow.n_le{B:AS}{n:Nat}{row:AR}(h:SlRow B w sz v n row):n<=9223372036854775807:=by
 obtain⟨_,_,_,hm⟩:=h.slice;unfold maxLen at hm;omega
theorem Gk.at{B:AS}{w:World}{c:CP}{V:Int}{sa fa:Option Addr}{sn sc fn fc:Nat}(h:Gk B w c (.agg #[iv V,.slice sa sn sc,.slice fa fn fc])):V=c.version/\sn=c.states.length/\fn=c.fns.length/\sn<=9223372036854775807/\fn<=9223372036854775807/\Hz B w c.states (.slice sa c.states.length sc)/\∀n f,c.fns[n]?=some f->Av7 B w fa n f:=by
 obtain⟨ss,fs,e,h1,row,h2,h3⟩:=h;simp only[Value.agg.injEq,Array.mk.injEq,List.cons.injEq,and_true,Value.int.injEq,true_and] at e;obtain⟨e1,rfl,rfl⟩:=e;have a0:SlRow B w 3 (.slice sa sn sc) c.states.length (c.states.flatMap Ba):=h1;obtain⟨a1,b1,k1,a9⟩:=a0.slice;obtain⟨a2,b2,k2,aa⟩:=h2.slice;simp only[Value.slice.injEq] at k1 k2;obtain⟨rfl,rfl,rfl⟩:=k1;obtain⟨rfl,rfl,rfl⟩:=k2;refine⟨e1,rfl,rfl,a0.n_le,h2.n_le,h1,λ n f hf=>?_⟩;have hn:n<c.fns.length:=(AK hf).1;obtain⟨cx,⟨ps,lv,bs,rfl,kp,kl,kb⟩,rx⟩:=h3.get hf;have a5:SlRow B w 3 ps f.params.length (f.params.flatMap Ba):=kp;have a7:SlRow B w 1 lv f.locals.length (f.locals.map λ t=>.string ⟨t.toArray⟩):=kl;obtain⟨rb,a3,a8⟩:=kb;obtain⟨la,lc,rfl,-⟩:=a7.slice;obtain⟨pa,pc,rfl,-⟩:=a5.slice;obtain⟨ba,bc,rfl,-⟩:=a3.slice;obtain⟨g0,o0,z0,y0,_,_,_,a6,a4⟩:=h2.cells (by omega);simp only[Value.slice.injEq] at y0;obtain⟨rfl,_,rfl⟩:=y0;have f0:∀(j:Nat) (u:Value),j<7->([.string ⟨f.name.toArray⟩,.bool f.on,.slice pa f.params.length pc,.string ⟨f.result.toArray⟩,.slice la f.locals.length lc,.slice ba f.body.length bc,iv 0]:AR)[j]?=some u->w.cell? ⟨g0,o0+n*7+j,none⟩=some u:=by
  intro j u hj hu;rw[Nat.add_assoc];exact a4 _ _ (by rw[rx j hj];exact hu)
 exact⟨g0,o0,pc,lc,bc,pa,la,ba,rfl,a6,⟨f0 0 _ (by omega) rfl,f0 1 _ (by omega) rfl,f0 2 _ (by omega) rfl,f0 3 _ (by omega) rfl,f0 4 _ (by omega) rfl,f0 5 _ (by omega) rfl,f0 6 _ (by omega) rfl⟩,kp,kl,⟨rb,a3,a8⟩⟩
theorem Af6{B:AS}{l:List Lx.B}{la:Option Addr}{ln lc:Nat}(h:Na B w l (.slice la ln lc)){t:Lx.B}(hi:l[i]?=some t):∃g o,la=some ⟨g,o,none⟩/\g<w.heap.size/\w.cell? ⟨g,o+i,none⟩=some (.string ⟨t.toArray⟩):=by
 have h':SlRow B w 1 (.slice la ln lc) l.length (l.map λ t=>.string ⟨t.toArray⟩):=h;have hn:i<l.length:=(AK hi).1;obtain⟨g,o,z,y,_,_,_,hg,hc⟩:=h'.cells (by omega);simp only[Value.slice.injEq] at y;exact⟨g,o,y.1,hg,hc _ _ (by rw[List.getElem?_map,hi];rfl)⟩
theorem Ug{B:AS}{l:List (Lx.B × Lx.B)}{la:Option Addr}{ln lc:Nat}(h:Hz B w l (.slice la ln lc)){t:Lx.B × Lx.B}(hi:l[i]?=some t):∃g o,la=some ⟨g,o,none⟩/\g<w.heap.size/\w.cell? ⟨g,o+i*3,none⟩=some (.string ⟨t.1.toArray⟩)/\w.cell? ⟨g,o+i*3+1,none⟩=some (.string ⟨t.2.toArray⟩)/\w.cell? ⟨g,o+i*3+2,none⟩=some (iv 0):=by
 have h':SlRow B w 3 (.slice la ln lc) l.length (l.flatMap Ba):=h;have hn:i<l.length:=(AK hi).1;obtain⟨g,o,z,y,_,_,_,hg,hc⟩:=h'.cells (by omega);simp only[Value.slice.injEq] at y;obtain⟨k1,k2,k3⟩:=Np hi;exact⟨g,o,y.1,hg,hc _ _ k1,by rw[Nat.add_assoc];exact hc _ _ k2,by rw[Nat.add_assoc];exact hc _ _ k3⟩
theorem B6.keep{B:AS}{w w':World}(s:Since B w w'):∀{l:List CF} {cs:AR},B6 B w l cs->B6 B w' l cs
 | [],cs,h=>h
 | e :: r,cs,h=>by
  obtain⟨c1,c2,hc,⟨ps,ls,bs,h0,h1,h2,row,h3,h4⟩,h5⟩:=h;exact⟨c1,c2,hc,⟨ps,ls,bs,h0,SlRow.since h1 s,SlRow.since h2 s,row,h3.since s,h4.since s⟩,B6.keep s h5⟩
theorem Gk.keep{B:AS}(s:Since B w w'){c:CP}(h:Gk B w c v):Gk B w' c v:=by
 obtain⟨ss,fs,e,h1,row,h2,h3⟩:=h;exact⟨ss,fs,e,SlRow.since h1 s,row,h2.since s,B6.keep s h3⟩
theorem Af7{B:AS}{a:List CE}{ao:Option Addr}{cap:Nat}{row:AR}(hr:SlRow B w 8 (.slice ao a.length cap) a.length row)(ha:Aw B w a row){q:Nat}{x:CE}(hx:a[q]?=some x){wr:World}(hW:Below w.heap.size w wr) :
  ∃(g o k p n s al ac:Nat) (t:Lx.B) (aa:Option Addr),ao=some ⟨g,o,none⟩/\g<wr.heap.size/\(wr.cell? ⟨g,o+q*8,none⟩=some (iv k)/\wr.cell? ⟨g,o+q*8+1,none⟩=some (iv p)/\wr.cell? ⟨g,o+q*8+2,none⟩=some (iv n)/\wr.cell? ⟨g,o+q*8+3,none⟩=some (.string ⟨t.toArray⟩)/\wr.cell? ⟨g,o+q*8+4,none⟩=some (iv s)/\wr.cell? ⟨g,o+q*8+5,none⟩=some (.string ⟨x.type.toArray⟩)/\wr.cell? ⟨g,o+q*8+6,none⟩=some (.slice aa al ac)/\wr.cell? ⟨g,o+q*8+7,none⟩=some (iv 0))/\Cl B w x [iv k,iv p,iv n,.string ⟨t.toArray⟩,iv s,.string ⟨x.type.toArray⟩,.slice aa al ac,iv 0]:=by
 have hq:q<a.length:=(AK hx).1;obtain⟨cx,kx,rx⟩:=ha.get hx;obtain⟨g0,o0,c0,e0,_,_,_,a4,a0⟩:=hr.cells (by omega);simp only[Value.slice.injEq] at e0;obtain⟨rfl,_,rfl⟩:=e0;obtain⟨k,o,n,s,t,y,args,sl,a5,rfl,a3,h1,h2⟩:=kx.cells;obtain⟨aa,ac,rfl,-⟩:=h1.slice;subst a3;have f0:∀(j:Nat) (u:Value),j<8->([iv k,iv o,iv n,.string ⟨t.toArray⟩,iv s,.string ⟨y.toArray⟩,.slice aa args.length ac,iv 0]:AR)[j]?=some u->wr.cell? ⟨g0,o0+q*8+j,none⟩=some u:=by
  intro j u hj hu;rw[Nat.add_assoc,hW.cell (p:=⟨g0,o0+(q*8+j),none⟩) a4];exact a0 _ _ (by rw[rx j hj];exact hu)
 exact⟨g0,o0,k,o,n,s,args.length,ac,t,aa,rfl,by have:=hW.size;omega,⟨f0 0 _ (by omega) rfl,f0 1 _ (by omega) rfl,f0 2 _ (by omega) rfl,f0 3 _ (by omega) rfl,f0 4 _ (by omega) rfl,f0 5 _ (by omega) rfl,f0 6 _ (by omega) rfl,f0 7 _ (by omega) rfl⟩,kx⟩
theorem Al8(y:AQ)(hy:y.length<=28)(w:World):AA 59 #[.string ⟨y.toArray⟩] w λ e w'=>e=.returned (.bool (gType y))/\w'=w:=by
 have:=stype_any ⟨y.toArray⟩ w (by show y.toArray.size<=maxLen;unfold maxLen;simp;omega);simpa only[toList_toArray] using this
theorem Uh{sts:List Lx.B}{hs:List Ck.Hd}{n:Nat}{ls:List Lx.B}:∀{l:List CE} {q:Nat} {x:CE},Ck.ClEs sts hs n ls l->l[q]?=some x->Ck.ClE sts hs n ls x
 | [],q,x,h,hx=>by simp at hx
 | e :: r,0,x,h,hx=>by
  rw[Ck.ClEs] at h;simp at hx;subst hx;exact h.1
 | e :: r,q+1,x,h,hx=>by
  rw[Ck.ClEs] at h;exact Uh h.2 (by simpa using hx)
theorem Ui(c:CP)(V:Int)(sa fa:Option Addr)(sn sc fn fc:Nat):∀(N:Nat) (e:CE) (cs:AR) (B:AS) (w:World) (n:Nat) (f:CF),Li e<N->c.fns[n]?=some f->Gk B w c (.agg #[iv V,.slice sa sn sc,.slice fa fn fc])->Cl B w e cs->Ck.ClE (c.states.map Prod.snd) (c.fns.map Ck.chd) n f.locals e ->
  AA 32 #[.agg #[iv V,.slice sa sn sc,.slice fa fn fc],iv n,.agg cs.toArray] w λ r w'=>r=.returned (.bool true)/\Below w.heap.size w w':=by
 intro N;induction N with
 | zero=>intro e cs B w n f hN;omega
 | succ N ih=>
  intro e cs B w n f hN hf hp h1 am;obtain⟨k,o,nn,t,s,y,a⟩:=e;rw[Cl] at h1;obtain⟨sl,row,rfl,hr,ha⟩:=h1;obtain⟨ao,cap,rfl,hm⟩:=hr.slice;unfold maxLen at hm;simp only[Li] at hN;rw[Ck.ClE] at am;obtain⟨c1,c2,c3,c4,c5,c6,c7⟩:=am;obtain⟨-,bb,bk,cm,c8,be,ad⟩:=hp.at;have d9:n<fn:=by rw[bk];exact (AK hf).1
  have db:(n:Int)<(fn:Int):=by omega
  obtain⟨w0,w1,c9,c0,l0,l1,bo,ae,af⟩:=Af5 w (iv V) (.slice sa sn sc) (.slice fa fn fc) (iv k) (iv o) (iv nn) (.string ⟨t.toArray⟩) (iv s) (.string ⟨y.toArray⟩) (.slice ao a.length cap) (iv 0);have hT:=Al8 y c1.len w1;rw[Ck.gType_vt c1] at hT;have a7:∀(q:Nat) (wr:World),q<a.length->Below w.heap.size w wr->∃(g o k' p' n' s' al ac:Nat) (t' ty:Lx.B) (aa:Option Addr),ao=some ⟨g,o,none⟩/\g<wr.heap.size/\(wr.cell? ⟨g,o+q*8,none⟩=some (iv k')/\wr.cell? ⟨g,o+q*8+1,none⟩=some (iv p')/\wr.cell? ⟨g,o+q*8+2,none⟩=some (iv n')/\wr.cell? ⟨g,o+q*8+3,none⟩=some (.string ⟨t'.toArray⟩)/\wr.cell? ⟨g,o+q*8+4,none⟩=some (iv s')/\wr.cell? ⟨g,o+q*8+5,none⟩=some (.string ⟨ty.toArray⟩)/\wr.cell? ⟨g,o+q*8+6,none⟩=some (.slice aa al ac)/\wr.cell? ⟨g,o+q*8+7,none⟩=some (iv 0)) /\
    ∀w',Below w.heap.size w w'->AA 32 #[.agg #[iv V,.slice sa sn sc,.slice fa fn fc],iv n,.agg #[iv k',iv p',iv n',.string ⟨t'.toArray⟩,iv s',.string ⟨ty.toArray⟩,.slice aa al ac,iv 0]] w' λ r w''=>r=.returned (.bool true)/\Below w'.heap.size w' w'':=by
   intro q wr hq hW;obtain⟨x,hx⟩:∃x,a[q]?=some x:=⟨a[q],AN hq⟩;obtain⟨g,o,k',p',n',s',al,ac,t',aa,e1,e2,e3,kx⟩:=Af7 hr ha hx hW;refine⟨g,o,k',p',n',s',al,ac,t',_,aa,e1,e2,e3,λ w' hW'=>?_⟩;have cu:Li x<N:=by have:=Jf hx;omega
   exact ih x _ B w' n f cu hf (hp.keep (Since.of_below hW')) (kx.since (Since.of_below hW')) (Uh c7 hx)
  have a3:∀(q:Nat) (wr:World),k=7->q<a.length->Below w.heap.size w wr->∃(g o pg po g2 o2 pc:Nat) (k' p' n' s' al ac:Nat) (t' ty:Lx.B) (aa pa:Option Addr),ao=some ⟨g,o,none⟩/\g<wr.heap.size/\(wr.cell? ⟨g,o+q*8,none⟩=some (iv k')/\wr.cell? ⟨g,o+q*8+1,none⟩=some (iv p')/\wr.cell? ⟨g,o+q*8+2,none⟩=some (iv n')/\wr.cell? ⟨g,o+q*8+3,none⟩=some (.string ⟨t'.toArray⟩)/\wr.cell? ⟨g,o+q*8+4,none⟩=some (iv s')/\wr.cell? ⟨g,o+q*8+5,none⟩=some (.string ⟨ty.toArray⟩)/\wr.cell? ⟨g,o+q*8+6,none⟩=some (.slice aa al ac)/\wr.cell? ⟨g,o+q*8+7,none⟩=some (iv 0)) /\
    fa=some ⟨g2,o2,none⟩/\g2<wr.heap.size/\wr.cell? ⟨g2,o2+s*7+2,none⟩=some (.slice pa a.length pc)/\pa=some ⟨pg,po,none⟩/\pg<wr.heap.size/\wr.cell? ⟨pg,po+q*3+1,none⟩=some (.string ⟨ty.toArray⟩):=by
   intro q wr hk hq hW;obtain⟨x,hx⟩:∃x,a[q]?=some x:=⟨a[q],AN hq⟩;obtain⟨g,o,k',p',n',s',al,ac,t',aa,e1,e2,e3,kx⟩:=Af7 hr ha hx hW;obtain⟨d1,h,d2,d3,d4,d5⟩:=c6 hk;rw[List.getElem?_map,Option.map_eq_some_iff] at d2;obtain⟨f',d2,rfl⟩:=d2;obtain⟨g2,o2,pc,lc,bc,pa,la,ba,m1,m2,⟨-,-,m3,-⟩,m4,-⟩:=ad s f' d2;have ax:f'.params.length=a.length:=by have:=congrArg List.length d5;simpa [Ck.chd] using this.symm
   have cj:∃p',f'.params[q]?=some p'/\p'.2=x.type:=by
    have:(a.map CE.type)[q]?=(Ck.chd f').params[q]?:=by rw[d5]
    rw[List.getElem?_map,hx] at this;simp only[Ck.chd,List.getElem?_map,Option.map_some] at this;obtain⟨p',h1,h2⟩:=Option.map_eq_some_iff.1 this.symm;exact⟨p',h1,h2⟩
   obtain⟨pp,ch,cc⟩:=cj;obtain⟨pg,po,r1,r2,-,r3,-⟩:=Ug m4 ch;rw[cc] at r3;rw[ax] at m3;have hs:=hW.size;exact⟨g,o,pg,po,g2,o2,pc,k',p',n',s',al,ac,t',_,aa,pa,e1,e2,e3,m1,by omega,by rw[hW.cell (p:=⟨g2,o2+s*7+2,none⟩) m2];exact m3,r1,by omega,by rw[hW.cell (p:=⟨pg,po+q*3+1,none⟩) r2];exact r3⟩
  have a6:k=7->s<n/\∃(g2 o2 pc:Nat) (pa:Option Addr),fa=some ⟨g2,o2,none⟩/\g2<w.heap.size/\w.cell? ⟨g2,o2+s*7+1,none⟩=some (.bool false)/\w.cell? ⟨g2,o2+s*7+2,none⟩=some (.slice pa a.length pc)/\w.cell? ⟨g2,o2+s*7+3,none⟩=some (.string ⟨y.toArray⟩):=by
   intro hk;obtain⟨d1,h,d2,d3,d4,d5⟩:=c6 hk;rw[List.getElem?_map,Option.map_eq_some_iff] at d2;obtain⟨f',d2,rfl⟩:=d2;obtain⟨g2,o2,pc,lc,bc,pa,la,ba,m1,m2,⟨-,m5,m3,m6,-⟩,m4,-⟩:=ad s f' d2;have ax:f'.params.length=a.length:=by have:=congrArg List.length d5;simpa [Ck.chd] using this.symm
   rw[ax] at m3;rw[show f'.on=false from d3] at m5;rw[show f'.result=y from d4] at m6;exact⟨d1,g2,o2,pc,pa,m1,m2,m5,m3,m6⟩
  have a4:k=5->s<sn/\∃g o,sa=some ⟨g,o,none⟩/\g<w.heap.size/\w.cell? ⟨g,o+s*3+1,none⟩=some (.string ⟨y.toArray⟩):=by
   intro hk;have d:=c5 hk;rw[List.getElem?_map,Option.map_eq_some_iff] at d;obtain⟨p',d1,d2⟩:=d;obtain⟨g,o,e1,e2,-,e3,-⟩:=Ug be d1;rw[d2] at e3;exact⟨by rw[bb];exact (AK d1).1,g,o,e1,e2,e3⟩
  obtain⟨gf,ab,cf,bv,bx,ct,az,bq,rfl,lf,⟨y0,y1,y2,y3,y4,y5,y6⟩,-,av,-⟩:=ad n f hf;have a5:k=4->s<f.locals.length/\∃g o,az=some ⟨g,o,none⟩/\g<w.heap.size/\w.cell? ⟨g,o+s,none⟩=some (.string ⟨y.toArray⟩):=by
   intro hk;obtain⟨g,o,e1,e2,e3⟩:=Af6 av (c4 hk);exact⟨(AK (c4 hk)).1,g,o,e1,e2,e3⟩
  have dj:f.locals.length<=9223372036854775807:=SlRow.n_le (show SlRow B w 1 _ f.locals.length _ from av);generalize f.locals.length=ln at *;generalize f.params.length=pn at *;generalize f.body.length=bn at *;generalize f.name=fnm at *;generalize f.result=frs at *;generalize f.on=fon at *;clear ih ha hr be ad av hp c1 c4 c5 c6 c7 hf bb bk;go_enter func32,ntmps32;obtain⟨z0,z1,z2,f0,f1,f2⟩:=Ar ae;obtain⟨d0,d1,d2,d3,d4,d5,d6,d7,-⟩:=Ac af;go_wp2_with fail;refine hT.mono ?_;rintro e w2 ⟨rfl,bp⟩;obtain rfl:=bp.symm;clear hT c9 c0;have au:w.heap.size<w1.heap.size:=by omega
  go_wp2_with fail
  clear z0 z1 z2 f0 f1 f2 d0 d1 d2 d3 d4 d5 d6 d7
  go_loopg [24] a.length (λ g i wr=>∃q:Nat,q<=a.length/\g=a.length - q/\i=iv q/\Below w1.heap.size w1 wr)
  case atStart=>exact⟨0,AO _,rfl,rfl,AF _ _⟩
  case round=>
   obtain⟨q,hq,rfl,rfl,hB⟩:=hrel;have hW:Below w.heap.size w wr:=bo.trans (hB.mono (by omega));have cz:=hB.size;obtain⟨z0,z1,z2,f0,f1,f2⟩:=Ar ((hB.block _ au).trans ae);obtain⟨d0,d1,d2,d3,d4,d5,d6,d7,-⟩:=Ac ((hB.block _ l1).trans af);have m0:w.heap.size<wr.heap.size:=by omega
   have m1:w0.heap.size<wr.heap.size:=by omega
   by_cases hlt:q<a.length
   .obtain⟨g,o',k',p',n',s',al,ac,t',ty,aa,rfl,lg,⟨x0,x1,x2,x3,x4,x5,x6,x7⟩,am⟩:=a7 q wr hlt hW;clear a7 a3 a6 a4 a5;have ay:(q:Int)<(a.length:Int):=by omega
    obtain⟨wz,w4,bi,bf,ag,ca,aw,br,a9,a8⟩:=Bs wr (iv k') (iv p') (iv n') (.string ⟨t'.toArray⟩) (iv s') (.string ⟨ty.toArray⟩) (.slice aa al ac) (iv 0);have a0:Below w.heap.size w w4:=hW.trans (ag.mono hW.size);have hC:=am w4 a0;obtain⟨i0,i1,i2,i3,i4,i5,i6,i7,j0,j1,j2,j3,j4,j5,j6,j7⟩:=Ac a8;obtain⟨n0,n1,n2,n3,n4,n5,n6,n7,-⟩:=Ac a9;have r0:=((bcell ag).1 w.heap.size 0 m0).trans z0;have r1:=((bcell ag).1 w.heap.size 1 m0).trans z1;have r2:=((bcell ag).1 w.heap.size 2 m0).trans z2;have lz:wr.heap.size<wz.heap.size:=by omega
    have l4:wr.heap.size<w4.heap.size:=by omega
    have cg:w.heap.size<w4.heap.size:=by omega
    clear am ae af;go_wp2_with fail;refine hC.mono ?_;rintro e w5 ⟨rfl,cp⟩;go_wp2_with fail;go_roundg (a.length - (q+1))
    case measure=>omega
    case rel=>exact⟨q+1,by omega,rfl,by go_num,hB.trans ((ag.trans (cp.mono ag.size)).mono hB.size)⟩
   .have ay:¬(q:Int)<(a.length:Int):=by omega
    obtain⟨wz,w4,bi,bf,ag,ca,aw,-,a9,a8⟩:=Tx wr (.string ⟨fnm.toArray⟩) (.bool fon) (.slice ct pn cf) (.string ⟨frs.toArray⟩) (.slice az ln bv) (.slice bq bn bx) (iv 0);have Y0:=(hW.cell (p:=⟨gf,ab+n*7,none⟩) lf).trans y0;have Y1:=(hW.cell (p:=⟨gf,ab+n*7+1,none⟩) lf).trans y1;have Y2:=(hW.cell (p:=⟨gf,ab+n*7+2,none⟩) lf).trans y2;have Y3:=(hW.cell (p:=⟨gf,ab+n*7+3,none⟩) lf).trans y3;have Y4:=(hW.cell (p:=⟨gf,ab+n*7+4,none⟩) lf).trans y4;have Y5:=(hW.cell (p:=⟨gf,ab+n*7+5,none⟩) lf).trans y5;have Y6:=(hW.cell (p:=⟨gf,ab+n*7+6,none⟩) lf).trans y6;have df:gf<wr.heap.size:=by have:=hW.size;omega
    obtain⟨i0,i1,i2,i3,i4,i5,i6,j0,j1,j2,j3,j4,j5,j6⟩:=Be a8;obtain⟨n0,n1,n2,n3,n4,n5,n6,-⟩:=Be a9;have a0:Below w.heap.size w w4:=hW.trans (ag.mono hW.size);have aq:Below w1.heap.size w1 w4:=hB.trans (ag.mono hB.size);have lz:wr.heap.size<wz.heap.size:=by omega
    have l4:wr.heap.size<w4.heap.size:=by omega
    have cg:w.heap.size<w4.heap.size:=by omega
    have ci:w0.heap.size<w4.heap.size:=by omega
    obtain⟨r0,r1,r2,-⟩:=Ar ((aq.block _ au).trans ae);obtain⟨b0,b1,b2,b3,b4,b5,b6,b7,-⟩:=Ac ((aq.block _ l1).trans af);clear f0 f1 f2 y0 y1 y2 y3 y4 y5 y6 a8;by_cases hk4:k=4
    .subst hk4;obtain⟨bj,g,o',rfl,lg,x0⟩:=a5 rfl;have X0:=(a0.cell (p:=⟨g,o'+s,none⟩) lg).trans x0;have b8:g<w4.heap.size:=by have:=a0.size;omega
     have b9:(s:Int)<(ln:Int):=by omega
     clear a3 a6 a4 a5 ae af x0;go_wp2_with fail
     go_quiet (fail)
     go_wp2;go_ret;exact⟨rfl,Lh a0 _⟩
    by_cases hk5:k=5
    .subst hk5;obtain⟨bj,g,o',rfl,lg,x0⟩:=a4 rfl;have X0:=(a0.cell (p:=⟨g,o'+s*3+1,none⟩) lg).trans x0;have b8:g<w4.heap.size:=by have:=a0.size;omega
     have b9:(s:Int)<(sn:Int):=by omega
     clear a3 a6 a4 a5 ae af x0;go_wp2_with fail
     go_quiet (fail)
     go_wp2;go_ret;exact⟨rfl,Lh a0 _⟩
    by_cases hk7:k=7
    .subst hk7;obtain⟨bj,g,o',pc,pa,ai,lg,x0,x1,x2⟩:=a6 rfl;simp only[Option.some.injEq,Addr.mk.injEq,and_true] at ai;obtain⟨rfl,rfl⟩:=ai;have X0:=(a0.cell (p:=⟨gf,ab+s*7+1,none⟩) lg).trans x0;have X1:=(a0.cell (p:=⟨gf,ab+s*7+2,none⟩) lg).trans x1;have X2:=(a0.cell (p:=⟨gf,ab+s*7+3,none⟩) lg).trans x2;have b8:gf<w4.heap.size:=by have:=a0.size;omega
     have b9:(s:Int)<(fn:Int):=by omega
     have bw:(s:Int)<(n:Int):=by omega
     have cr:¬(n:Int)<=(s:Int):=by omega
     replace a3:=λ q wr=>a3 q wr rfl
     clear a6 a4 a5 x0 x1 x2;go_wp2_with fail
     go_quiet (fail)
     go_wp2_with fail
     clear r0 r1 r2 b0 b1 b2 b3 b4 b5 b6 b7 X0 X1 X2 n0 n1 n2 n3 n4 n5 n6 i0 i1 i2 i3 i4 i5 i6 j0 j1 j2 j3 j4 j5 j6 z0 z1 z2 d0 d1 d2 d3 d4 d5 d6 d7 bi bf
     go_loopg [139] a.length (λ g i wy=>∃q:Nat,q<=a.length/\g=a.length - q/\i=iv q/\Below w4.heap.size w4 wy)
     case atStart=>exact⟨0,AO _,rfl,rfl,Lh (AF _ _) _⟩
     case round=>
      obtain⟨q2,dd,rfl,rfl,hC⟩:=hrel;have bl:Below w.heap.size w wr:=a0.trans (hC.mono a0.size);have bh:Below w1.heap.size w1 wr:=aq.trans (hC.mono aq.size);have bt:=hC.size;by_cases hlt2:q2<a.length
      .obtain⟨g,o',pg,po,g2,o2,pc,k',p',n',s',al,ac,t',ty,aa,pa,rfl,de,⟨x0,x1,x2,x3,x4,x5,x6,x7⟩,ai,cl,x8,rfl,bs,x9⟩:=a3 q2 wr hlt2 bl;simp only[Option.some.injEq,Addr.mk.injEq,and_true] at ai;obtain⟨rfl,rfl⟩:=ai;clear a3;have ak:(q2:Int)<(a.length:Int):=by omega
       obtain⟨bu,w6,cq,cv,ar,d8,co,br,aj,ah⟩:=Bs wr (iv k') (iv p') (iv n') (.string ⟨t'.toArray⟩) (iv s') (.string ⟨ty.toArray⟩) (.slice aa al ac) (iv 0);obtain⟨i0,i1,i2,i3,i4,i5,i6,i7,j0,j1,j2,j3,j4,j5,j6,j7⟩:=Ac ah;obtain⟨n0,n1,n2,n3,n4,n5,n6,n7,-⟩:=Ac aj;have bg:Below w1.heap.size w1 w6:=bh.trans (ar.mono bh.size);obtain⟨r0,r1,r2,-⟩:=Ar ((bg.block _ au).trans ae);obtain⟨b0,b1,b2,b3,b4,b5,b6,b7,-⟩:=Ac ((bg.block _ l1).trans af);have X8:=((bcell ar).1 gf (ab+s*7+2) cl).trans x8;have X9:=((bcell ar).1 pg (po+q2*3+1) bs).trans x9;have cw:wr.heap.size<bu.heap.size:=by omega
       have l6:wr.heap.size<w6.heap.size:=by omega
       have cy:w.heap.size<w6.heap.size:=by omega
       have cd:w0.heap.size<w6.heap.size:=by omega
       have dc:gf<w6.heap.size:=by omega
       have di:pg<w6.heap.size:=by omega
       clear ae af;go_wp2_with fail
       go_quiet (fail)
       go_wp2;go_roundg (a.length - (q2+1))
       case measure=>omega
       case rel=>exact⟨q2+1,by omega,rfl,by go_num,Lh (hC.trans (ar.mono hC.size)) _⟩
      .have ak:¬(q2:Int)<(a.length:Int):=by omega
       clear a3;go_wp2_with fail;go_ret;exact⟨rfl,bl⟩
    .clear a3 a6 a4 a5 ae af a7;have e4:((k:Int) == 4)=false:=by simp;omega
     have e5:((k:Int) == 5)=false:=by simp;omega
     have e7:((k:Int) == 7)=false:=by simp;omega
     have e6:((k:Int) != 6)=true:=by simp;omega
     by_cases ht:t=[]
     .subst ht;go_wp2_with fail;go_ret;exact⟨rfl,a0⟩
     .have ce:k=3:=by rcases c2 with h | h;exact h;exact absurd h ht
      subst ce;have dh:(t == [])=false:=by simp[ht]
      have da:¬(⟨t.toArray⟩:ByteArray)=⟨#[]⟩:=λ h=>ht (by simpa using congrArg (λ b:ByteArray=>b.data.toList) h)
      go_wp2_with fail
      go_ret;exact⟨rfl,a0⟩
end
end Go.Proofs.YtpckmjfabiallaaGreatDoor
