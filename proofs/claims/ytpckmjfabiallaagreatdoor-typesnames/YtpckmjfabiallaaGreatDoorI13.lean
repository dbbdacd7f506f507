/- Texts of ours, joined. -/
import Derived.Test.YtpckmjfabiallaaGreatDoorI09
set_option linter.unusedVariables false
set_option linter.unusedSimpArgs false
set_option maxRecDepth 100000
set_option maxHeartbeats 16000000
namespace Go.Proofs.YtpckmjfabiallaaGreatDoor
variable{B':Nat->Prop}{b g i j m mb n0 p sz:Nat}{cs:List Value}{fs s1 sl ss v v0:Value}{w w' w1 w2 wr:World}{x:List UInt8}
open List
open Tryz
section
open Go.RowKit
open Ck (CE CS CF CP Mng)
attribute [local go_sem ↓] Go.wp_at_zero Go.wp_at_succ
theorem Ax.inl{k s n:Nat}{f:Bool}{es:List CE}{bs cs:List CS}{e:Ending}(h:Ax w (.inl (.mk k s f n es bs cs)) e w'):∃s1 s2 s3 r1 r2 r3,e=.returned (.agg #[iv k,sE,iv s,.bool f,iv n,s1,s2,s3,iv 0])/\(SlRow (From w) w' 8 s1 es.length r1/\Ar (From w) w' es r1/\SlRow (From w) w' 9 s2 bs.length r2/\Aq (From w) w' bs r2/\SlRow (From w) w' 9 s3 cs.length r3/\Aq (From w) w' cs r3)/\Below w w w':=by
 obtain⟨⟨l,rfl,hi⟩,hb⟩:=h;rw[Ch] at hi;obtain⟨s1,s2,s3,r1,r2,r3,rfl,h⟩:=hi;exact⟨s1,s2,s3,r1,r2,r3,rfl,h,hb⟩
theorem Aj6{n:AQ}{b2 b3:Option Addr}{m2 m3 d2 d3:Nat}{R:Ck.R CS}(nt:Value)(hF:∀w',Below w w w'->AA 141 #[pt b 0,.agg (stA 2 n s1 (.slice b2 m2 d2) (.slice b3 m3 d3) p)] w' λ e w''=>Ax w' R e w'') :
  AA 115 #[pt b 0,.agg (stA 2 n s1 (.slice b2 m2 d2) (.slice b3 m3 d3) p),nt] w λ e w'=>Ax w R e w':=by
 obtain⟨w0,w1,ab,a9,l0,l1,af,a6,ag,a8,ad⟩:=D5 w 2 n s1 (.slice b2 m2 d2) (.slice b3 m3 d3) p;have hC:=hF w1 a6;obtain⟨c0,c1,c2,c3,c4,c5,c6,c7,c8,-⟩:=Aj a8;have i1:((2:Int) == 1)=false:=rfl;have i2:((2:Int) == 2)=true:=rfl;clear hF a8;go_enter func115,ntmps115;go_wp2_with fail;refine hC.mono ?_;rintro e w2 hP;clear hC ab a9 c0 c1 c2 c3 c4 c5 c6 c7 c8;rcases R with⟨k2,o2,f2,n2,es,bs,cs⟩ | ⟨a,er⟩
 rotate_left
 .obtain⟨hm,a5⟩:=hP;obtain rfl:=hm;have a0:Ax w (.inr (a,er)) (.panicked (Ag a er)) w2:=⟨rfl,a6.trans (a5.mono (by omega))⟩;exact⟨rfl,a0⟩
 obtain⟨t1,t2,t3,r1,r2,r3,rfl,⟨h1,h2,h3,h4,h5,h6⟩,a5⟩:=hP.inl;obtain⟨e1,e2,rfl,-,-⟩:=h1.val;obtain⟨e3,e4,rfl,-,-⟩:=h3.val;obtain⟨e5,e6,rfl,-,-⟩:=h5.val;have a7:=(a5.block _ l1).trans ad;obtain⟨q0,q1,q2,q3,q4,q5,q6,q7,q8,t0,t1,ae,t3,t4,t5,t6,t7,t8⟩:=Aj a7;have aa:w0<w2.heap.size:=(AB a7).1;have a0:Ax w (.inl (.mk k2 o2 f2 n2 es bs cs)) (.returned (.agg #[iv k2,sE,iv o2,.bool f2,iv n2,.slice e1 es.length e2,.slice e3 bs.length e4,.slice e5 cs.length e6,iv 0])) (A6 w2 w0 (iv k2) sE (iv o2) (.bool f2) (iv n2) (.slice e1 es.length e2) (.slice e3 bs.length e4) (.slice e5 cs.length e6) (iv 0)):=by
  have a3:Since (From w1) w2 (A6 w2 w0 (iv k2) sE (iv o2) (.bool f2) (iv n2) (.slice e1 es.length e2) (.slice e3 bs.length e4) (.slice e5 cs.length e6) (iv 0)):=⟨by rw[Bb];exact AD _,λ j hj _=>Au (by have:w1.heap.size<=j:=hj;omega) _ _ _ _ _ _ _ _ _ ⟩;have a4:∀{wx:World} j,From w1 j->j<wx.heap.size->From w j:=λ {wx} j hj _=>by have:w1.heap.size<=j:=hj;show w.heap.size<=j;omega
  exact⟨⟨_,rfl,Gl ((h1.since a3).base' a4) ((h2.since a3).base a4) ((h3.since a3).base' a4) ((h4.since a3).base a4) ((h5.since a3).base' a4) ((h6.since a3).base a4)⟩,Bs (a6.trans (a5.mono (by omega))) (by omega) _ _ _ _ _ _ _ _ _ ⟩
 clear h1 h2 h3 h4 h5 h6 a7 hP;go_wp2_with fail;exact bodyPost_ret (by simp[results,results115,go_sem,aa,q0,q1,q2,q3,q4,q5,q6,q7,q8]) rfl a0
theorem Ax9{n:AQ}{b2 b3:Option Addr}{m2 m3 d2 d3:Nat}{R:Ck.R CS}(nt:Value)(hF:∀w',Below w w w'->AA 142 #[pt b 0,.agg (stA 3 n s1 (.slice b2 m2 d2) (.slice b3 m3 d3) p)] w' λ e w''=>Ax w' R e w'') :
  AA 115 #[pt b 0,.agg (stA 3 n s1 (.slice b2 m2 d2) (.slice b3 m3 d3) p),nt] w λ e w'=>Ax w R e w':=by
 obtain⟨w0,w1,ab,a9,l0,l1,af,a6,ag,a8,ad⟩:=D5 w 3 n s1 (.slice b2 m2 d2) (.slice b3 m3 d3) p;have hC:=hF w1 a6;obtain⟨c0,c1,c2,c3,c4,c5,c6,c7,c8,-⟩:=Aj a8;have i1:((3:Int) == 1)=false:=rfl;have i2:((3:Int) == 2)=false:=rfl;have i3:((3:Int) == 3)=true:=rfl;clear hF a8;go_enter func115,ntmps115;go_wp2_with fail;refine hC.mono ?_;rintro e w2 hP;clear hC ab a9 c0 c1 c2 c3 c4 c5 c6 c7 c8;rcases R with⟨k2,o2,f2,n2,es,bs,cs⟩ | ⟨a,er⟩
 rotate_left
 .obtain⟨hm,a5⟩:=hP;obtain rfl:=hm;have a0:Ax w (.inr (a,er)) (.panicked (Ag a er)) w2:=⟨rfl,a6.trans (a5.mono (by omega))⟩;exact⟨rfl,a0⟩
 obtain⟨t1,t2,t3,r1,r2,r3,rfl,⟨h1,h2,h3,h4,h5,h6⟩,a5⟩:=hP.inl;obtain⟨e1,e2,rfl,-,-⟩:=h1.val;obtain⟨e3,e4,rfl,-,-⟩:=h3.val;obtain⟨e5,e6,rfl,-,-⟩:=h5.val;have a7:=(a5.block _ l1).trans ad;obtain⟨q0,q1,q2,q3,q4,q5,q6,q7,q8,t0,t1,ae,t3,t4,t5,t6,t7,t8⟩:=Aj a7;have aa:w0<w2.heap.size:=(AB a7).1;have a0:Ax w (.inl (.mk k2 o2 f2 n2 es bs cs)) (.returned (.agg #[iv k2,sE,iv o2,.bool f2,iv n2,.slice e1 es.length e2,.slice e3 bs.length e4,.slice e5 cs.length e6,iv 0])) (A6 w2 w0 (iv k2) sE (iv o2) (.bool f2) (iv n2) (.slice e1 es.length e2) (.slice e3 bs.length e4) (.slice e5 cs.length e6) (iv 0)):=by
  have a3:Since (From w1) w2 (A6 w2 w0 (iv k2) sE (iv o2) (.bool f2) (iv n2) (.slice e1 es.length e2) (.slice e3 bs.length e4) (.slice e5 cs.length e6) (iv 0)):=⟨by rw[Bb];exact AD _,λ j hj _=>Au (by have:w1.heap.size<=j:=hj;omega) _ _ _ _ _ _ _ _ _ ⟩;have a4:∀{wx:World} j,From w1 j->j<wx.heap.size->From w j:=λ {wx} j hj _=>by have:w1.heap.size<=j:=hj;show w.heap.size<=j;omega
  exact⟨⟨_,rfl,Gl ((h1.since a3).base' a4) ((h2.since a3).base a4) ((h3.since a3).base' a4) ((h4.since a3).base a4) ((h5.since a3).base' a4) ((h6.since a3).base a4)⟩,Bs (a6.trans (a5.mono (by omega))) (by omega) _ _ _ _ _ _ _ _ _ ⟩
 clear h1 h2 h3 h4 h5 h6 a7 hP;go_wp2_with fail;exact bodyPost_ret (by simp[results,results115,go_sem,aa,q0,q1,q2,q3,q4,q5,q6,q7,q8]) rfl a0
theorem Ay0{cb nb:Nat}{lv nv:Value}{k:Ck.Kx}{env:Ck.Env}{ls names:List (List UInt8)}{n:AQ}{b2 b3:Option Addr}{m2 m3 d2 d3:Nat}{R:Ck.R Ck.St1}(h:CkS n0 b mb v0 ss fs k env ls lv w)(hs:Sc n0 b cb nb nv names w)(hF:∀w',Below w w w'->AA 140 #[pt b 0,.agg (stA 1 n s1 (.slice b2 m2 d2) (.slice b3 m3 d3) p),.func (.func 112) #[] #[pt cb 0,pt nb 0]] w' λ e w''=>Br n0 b mb cb nb v0 ss fs k env lv nv names w' R e w'') :
  AA 115 #[pt b 0,.agg (stA 1 n s1 (.slice b2 m2 d2) (.slice b3 m3 d3) p),.func (.func 112) #[] #[pt cb 0,pt nb 0]] w λ e w'=>Br n0 b mb cb nb v0 ss fs k env lv nv names w R e w':=by
 obtain⟨w0,w1,ay,aw,l0,l1,b6,a7,ba,ak,b0⟩:=D5 w 1 n s1 (.slice b2 m2 d2) (.slice b3 m3 d3) p;have hC:=hF w1 a7;obtain⟨c0,c1,c2,c3,c4,c5,c6,c7,c8,-⟩:=Aj ak;have i1:((1:Int) == 1)=true:=rfl;have b8:b<w:=by have:=h.hb;have:=h.sz;omega
 have b5:mb<w:=by have:=h.hm;have:=h.sz;omega
 have b7:=h.sz;have aa:∀j,lv.ownBlock=some j->j<w.heap.size:=λ j hj=>(h.loc.lt hj).2
 have bb:cb<w:=(AB hs.cbk).1;have b9:nb<w:=(AB hs.nbk).1;have a9:∀j,nv.ownBlock=some j->j<w.heap.size:=λ j hj=>(hs.own.lt hj).2
 clear hs;clear hF ak h;go_enter func115,ntmps115;go_wp2_with fail;refine hC.mono ?_;rintro e w2 hP;clear hC ay aw c0 c1 c2 c3 c4 c5 c6 c7 c8;rcases R with⟨⟨k2,o2,f2,n2,es,bs,cs⟩,env',ls'⟩ | ⟨a,er⟩
 rotate_left
 .obtain⟨hm,a5⟩:=hP;obtain rfl:=hm;have a0:Br n0 b mb cb nb v0 ss fs k env lv nv names w (.inr (a,er)) (.panicked (Ag a er)) w2:=⟨rfl,(Fm.of_below (X:=λ _=>False) a7).trans a5 (λ _ _ h=>h.elim) (λ _ _ h=>h)⟩;exact⟨rfl,a0⟩
 obtain⟨lv',a6,more,l,rfl,hi,aj,ai,ae,ah,a5,ag,a8⟩:=hP;rw[Ch] at hi;obtain⟨t1,t2,t3,r1,r2,r3,rfl,h1,h2,h3,h4,h5,h6⟩:=hi;obtain⟨e1,e2,rfl,-,-⟩:=h1.val;obtain⟨e3,e4,rfl,-,-⟩:=h3.val;obtain⟨e5,e6,rfl,-,-⟩:=h5.val;have az:=a5.size;have hT:¬(Iv b mb nb lv nv) w0:=by
  rintro (e | e | e | e | e)
  .omega
  .omega
  .omega
  .have:=aa _ e;omega
  .have:=a9 _ e;omega
 have ad:=(a5.block _ l1 hT).trans b0;obtain⟨q0,q1,q2,q3,q4,q5,q6,q7,q8,t0,t1,b4,t3,t4,t5,t6,t7,t8⟩:=Aj ad;have ax:w0<w2.heap.size:=(AB ad).1;have a0:Br n0 b mb cb nb v0 ss fs k env lv nv names w (.inl (.mk k2 o2 f2 n2 es bs cs,env',ls')) (.returned (.agg #[iv k2,sE,iv o2,.bool f2,iv n2,.slice e1 es.length e2,.slice e3 bs.length e4,.slice e5 cs.length e6,iv 0])) (A6 w2 w0 (iv k2) sE (iv o2) (.bool f2) (iv n2) (.slice e1 es.length e2) (.slice e3 bs.length e4) (.slice e5 cs.length e6) (iv 0)):=by
  have al:lv'.ownBlock≠some w0.heap.size:=λ e=>by
   rcases ag _ e with e | e
   .have:=aa _ e;omega
   .omega
  have ar:a6.ownBlock≠some w0.heap.size:=λ e=>by
   rcases a8 _ e with e | e
   .have:=a9 _ e;omega
   .omega
  have a3:Since (λ j=>w1.heap.size<=j/\lv'.ownBlock≠some j/\a6.ownBlock≠some j) w2 (A6 w2 w0 (iv k2) sE (iv o2) (.bool f2) (iv n2) (.slice e1 es.length e2) (.slice e3 bs.length e4) (.slice e5 cs.length e6) (iv 0)):=⟨by rw[Bb];exact AD _,λ j hj _=>Au (by omega) _ _ _ _ _ _ _ _ _ ⟩;have a4:∀{wx:World} j,(w1.heap.size<=j/\lv'.ownBlock≠some j/\a6.ownBlock≠some j)->j<wx.heap.size->(w.heap.size<=j/\lv'.ownBlock≠some j/\a6.ownBlock≠some j):=λ {wx} j hj _=>⟨by omega,hj.2⟩
  have ab:=Fm.set9 w2 w0 (iv k2) sE (iv o2) (.bool f2) (iv n2) (.slice e1 es.length e2) (.slice e3 bs.length e4) (.slice e5 cs.length e6) (iv 0);have au:=Gl (k:=k2) (s:=o2) (n:=n2) (f:=f2) ((h1.since a3).base' a4) ((h2.since a3).base a4) ((h3.since a3).base' a4) ((h4.since a3).base a4) ((h5.since a3).base' a4) ((h6.since a3).base a4);have aq:=ai.fm ab (λ j hj=>by subst hj;exact⟨by omega,al⟩);have av:Fm (Iv b mb nb lv nv) w (A6 w2 w0 (iv k2) sE (iv o2) (.bool f2) (iv n2) (.slice e1 es.length e2) (.slice e3 bs.length e4) (.slice e5 cs.length e6) (iv 0)):=((Fm.of_below (X:=λ _=>False) a7).trans a5 (λ _ _ h=>h.elim) (λ _ _ h=>h)).trans ab (λ _ _ h=>h) (λ j hj e=>by omega);have af:∀j,lv'.ownBlock=some j->lv.ownBlock=some j\/w.heap.size<=j:=λ j hj=>(ag j hj).imp id (λ e=>by omega)
  have am:=ae.keep (w':=(A6 w2 w0 (iv k2) sE (iv o2) (.bool f2) (iv n2) (.slice e1 es.length e2) (.slice e3 bs.length e4) (.slice e5 cs.length e6) (iv 0))) (λ j hj=>ab.block j (by
   rcases hj with rfl | rfl | e
   .omega
   .omega
   .exact (ae.own.lt e).2) (by
   rintro rfl;rcases hj with e | e | e
   .omega
   .omega
   .exact ar e))
  exact⟨lv',a6,more,_,rfl,au,aj,aq,am,ah,av,af,λ j hj=>(a8 j hj).imp id (λ e=>by omega)⟩
 clear a8 ae ah aj a9;clear h1 h2 h3 h4 h5 h6 ad ai a5 ag hT aa;go_wp2_with fail;exact bodyPost_ret (by simp[results,results115,go_sem,ax,q0,q1,q2,q3,q4,q5,q6,q7,q8]) rfl a0
theorem Aq3{lv:Value}{k:Ck.Kx}{env:Ck.Env}{ls:List (List UInt8)}{n:AQ}{b2 b3:Option Addr}{m2 m3 d2 d3:Nat}{R:Ck.R Ck.St1}(h:CkS n0 b mb v0 ss fs k env ls lv w)(nt:Value)(hF:∀w',Below w w w'->AA 144 #[pt b 0,.agg (stA 5 n s1 (.slice b2 m2 d2) (.slice b3 m3 d3) p)] w' λ e w''=>Cu n0 b mb v0 ss fs k env lv w' R e w'') :
  AA 115 #[pt b 0,.agg (stA 5 n s1 (.slice b2 m2 d2) (.slice b3 m3 d3) p),nt] w λ e w'=>Cu n0 b mb v0 ss fs k env lv w R e w':=by
 obtain⟨w0,w1,al,aj,l0,l1,av,a6,ay,ae,aq⟩:=D5 w 5 n s1 (.slice b2 m2 d2) (.slice b3 m3 d3) p;have hC:=hF w1 a6;obtain⟨c0,c1,c2,c3,c4,c5,c6,c7,c8,-⟩:=Aj ae;have i1:((5:Int) == 1)=false:=rfl;have i2:((5:Int) == 2)=false:=rfl;have i3:((5:Int) == 3)=false:=rfl;have i4:((5:Int) == 4)=false:=rfl;have i5:((5:Int) == 5)=true:=rfl;have ax:b<w:=by have:=h.hb;have:=h.sz;omega
 have au:mb<w:=by have:=h.hm;have:=h.sz;omega
 have aw:=h.sz;have a7:∀j,lv.ownBlock=some j->j<w.heap.size:=λ j hj=>(h.loc.lt hj).2
 clear hF ae h;go_enter func115,ntmps115;go_wp2_with fail;refine hC.mono ?_;rintro e w2 hP;clear hC al aj c0 c1 c2 c3 c4 c5 c6 c7 c8;rcases R with⟨⟨k2,o2,f2,n2,es,bs,cs⟩,env',ls'⟩ | ⟨a,er⟩
 rotate_left
 .obtain⟨hm,a5⟩:=hP;obtain rfl:=hm;have a0:Cu n0 b mb v0 ss fs k env lv w (.inr (a,er)) (.panicked (Ag a er)) w2:=⟨rfl,(Fm.of_below (X:=λ _=>False) a6).trans a5 (λ _ _ h=>h.elim) (λ _ _ h=>h)⟩;exact⟨rfl,a0⟩
 obtain⟨lv',l,rfl,hi,ab,a5,aa⟩:=hP;rw[Ch] at hi;obtain⟨t1,t2,t3,r1,r2,r3,rfl,h1,h2,h3,h4,h5,h6⟩:=hi;obtain⟨e1,e2,rfl,-,-⟩:=h1.val;obtain⟨e3,e4,rfl,-,-⟩:=h3.val;obtain⟨e5,e6,rfl,-,-⟩:=h5.val;have am:=a5.size;have hT:¬(Em b mb lv) w0:=by
  rintro (e | e | e)
  .omega
  .omega
  .have:=a7 _ e;omega
 have a8:=(a5.block _ l1 hT).trans aq;obtain⟨q0,q1,q2,q3,q4,q5,q6,q7,q8,t0,t1,ar,t3,t4,t5,t6,t7,t8⟩:=Aj a8;have ak:w0<w2.heap.size:=(AB a8).1;have a0:Cu n0 b mb v0 ss fs k env lv w (.inl (.mk k2 o2 f2 n2 es bs cs,env',ls')) (.returned (.agg #[iv k2,sE,iv o2,.bool f2,iv n2,.slice e1 es.length e2,.slice e3 bs.length e4,.slice e5 cs.length e6,iv 0])) (A6 w2 w0 (iv k2) sE (iv o2) (.bool f2) (iv n2) (.slice e1 es.length e2) (.slice e3 bs.length e4) (.slice e5 cs.length e6) (iv 0)):=by
  have af:lv'.ownBlock≠some w0.heap.size:=λ e=>by
   rcases aa _ e with e | e
   .have:=a7 _ e;omega
   .omega
  have a3:Since (λ j=>w1.heap.size<=j/\lv'.ownBlock≠some j) w2 (A6 w2 w0 (iv k2) sE (iv o2) (.bool f2) (iv n2) (.slice e1 es.length e2) (.slice e3 bs.length e4) (.slice e5 cs.length e6) (iv 0)):=⟨by rw[Bb];exact AD _,λ j hj _=>Au (by omega) _ _ _ _ _ _ _ _ _ ⟩;have a4:∀{wx:World} j,(w1.heap.size<=j/\lv'.ownBlock≠some j)->j<wx.heap.size->(w.heap.size<=j/\lv'.ownBlock≠some j):=λ {wx} j hj _=>⟨by omega,hj.2⟩
  have ad:=Fm.set9 w2 w0 (iv k2) sE (iv o2) (.bool f2) (iv n2) (.slice e1 es.length e2) (.slice e3 bs.length e4) (.slice e5 cs.length e6) (iv 0);have ah:=Gl (k:=k2) (s:=o2) (n:=n2) (f:=f2) ((h1.since a3).base' a4) ((h2.since a3).base a4) ((h3.since a3).base' a4) ((h4.since a3).base a4) ((h5.since a3).base' a4) ((h6.since a3).base a4);have ag:=ab.fm ad (λ j hj=>by subst hj;exact⟨by omega,af⟩);have ai:Fm (Em b mb lv) w (A6 w2 w0 (iv k2) sE (iv o2) (.bool f2) (iv n2) (.slice e1 es.length e2) (.slice e3 bs.length e4) (.slice e5 cs.length e6) (iv 0)):=((Fm.of_below (X:=λ _=>False) a6).trans a5 (λ _ _ h=>h.elim) (λ _ _ h=>h)).trans ad (λ _ _ h=>h) (λ j hj e=>by omega);have a9:∀j,lv'.ownBlock=some j->lv.ownBlock=some j\/w.heap.size<=j:=λ j hj=>(aa j hj).imp id (λ e=>by omega)
  exact⟨lv',_,rfl,ah,ag,ai,a9⟩
 clear h1 h2 h3 h4 h5 h6 a8 ab a5 aa hT a7;go_wp2_with fail;exact bodyPost_ret (by simp[results,results115,go_sem,ak,q0,q1,q2,q3,q4,q5,q6,q7,q8]) rfl a0
end
section
open Go.RowKit
open Ck (CE CS CF CP Mng)
theorem En{α β γ:Type}(r:Ck.R α)(f:α->Ck.R β)(g:β->Ck.R γ):Ck.bind (Ck.bind r f) g=Ck.bind r λ x=>Ck.bind (f x) g:=by cases r <;> rfl
theorem Aq4{α β:Type}(r:Ck.R α){f g:α->Ck.R β}(h:∀x,f x=g x):Ck.bind r f=Ck.bind r g:=by
 have:f=g:=funext h;rw[this]
theorem Br.of_set{cb nb:Nat}{lv nv:Value}{k:Ck.Kx}{env:Ck.Env}{ls names:List (List UInt8)}{R:Ck.R CS}{e:Ending}(h:CkS n0 b mb v0 ss fs k env ls lv w)(hs:Sc n0 b cb nb nv names w)(ha:Apart lv nv cb nb)(hP:Ax w R e w'):Br n0 b mb cb nb v0 ss fs k env lv nv names w (Ck.bind R λ x=>.inl (x,env,ls)) e w':=by
 have a4:=(AB hs.cbk).1;have a3:=(AB hs.nbk).1;rcases R with x | ⟨a,er⟩
 .obtain⟨⟨cs,rfl,hi⟩,hb⟩:=hP;refine⟨lv,nv,[],cs,rfl,hi.base (λ j hj _=>?_),by simp,h.keep hb,?_,ha,BD hb,λ j hj=>AI hj,λ j hj=>AI hj⟩
  .have a0:w.heap.size<=j:=hj;exact⟨a0,λ e=>by have:=(h.loc.lt e).2;omega,λ e=>by have:=(hs.own.lt e).2;omega⟩
  .simp only[map_nil,append_nil];exact hs.keep (λ j hj=>hb.block j (by rcases hj with rfl | rfl | e;exact a4;exact a3;exact (hs.own.lt e).2))
 .exact⟨hP.1,BD hP.2⟩
theorem Br.of_lp{cb nb:Nat}{lv nv:Value}{k:Ck.Kx}{env:Ck.Env}{ls names:List (List UInt8)}{R:Ck.R Ck.St1}{e:Ending}(h:CkS n0 b mb v0 ss fs k env ls lv w)(hs:Sc n0 b cb nb nv names w)(ha:Apart lv nv cb nb)(hR:∀r,R=.inl r->r.2.1=env)(hP:Cu n0 b mb v0 ss fs k env lv w R e w'):Br n0 b mb cb nb v0 ss fs k env lv nv names w R e w':=by
 have a5:=(AB hs.cbk).1;have a4:=(AB hs.nbk).1;have a8:=h.hb;have a7:=h.hm;have hT:∀j,(j=cb\/j=nb\/nv.ownBlock=some j)->¬Em b mb lv j:=λ j hj e=>by
  have a6:n0<=j:=by
   rcases hj with rfl | rfl | e
   .exact hs.cn
   .exact hs.nn
   .exact (hs.own.lt e).1
  rcases e with e | e | e
  .omega
  .omega
  .rcases hj with rfl | rfl | e2
   .exact ha.c e
   .exact ha.n e
   .exact ha.v j e e2
 have a3:∀j,Em b mb lv j->Iv b mb nb lv nv j:=λ j e=>by
  rcases e with e | e | e
  .exact AI e
  .exact AJ (AI e)
  .exact AJ (AJ (AJ (AI e)))
 rcases R with⟨x,env',ls'⟩ | ⟨a,er⟩
 .have he:env'=env:=hR _ rfl;subst he;obtain⟨lv',cs,rfl,hi,hC,hF,a0⟩:=hP;refine⟨lv',nv,[],cs,rfl,hi.base (λ j hj _=>⟨hj.1,hj.2,λ e=>by have:=(hs.own.lt e).2;have:=hj.1;omega⟩),by simp,hC,?_,⟨λ e=>?_,λ e=>?_,λ j hj e=>?_⟩,hF.mono (λ j _ e=>a3 j e),a0,λ j hj=>AI hj⟩
  .simp only[map_nil,append_nil];exact hs.keep (λ j hj=>hF.block j (by rcases hj with rfl | rfl | e;exact a5;exact a4;exact (hs.own.lt e).2) (hT j hj))
  .rcases a0 _ e with e | e
   .exact ha.c e
   .omega
  .rcases a0 _ e with e | e
   .exact ha.n e
   .omega
  .rcases a0 _ hj with e2 | e2
   .exact ha.v j e2 e
   .have:=(hs.own.lt e).2;omega
 .exact⟨hP.1,hP.2.mono (λ j _ e=>a3 j e)⟩
mutual
def ShS:Px.St->Prop
 | .mk k n es b c p=>((k=1/\es.length=1)\/(k=2/\(es.length=1\/es.length=2))\/(k=3/\es.length=1)\/(k=4/\es.length=1)\/(k=5/\es.length=1)\/(k=6/\es.length=1))/\Mc es/\H0 b/\H0 c
def H0:List Px.St->Prop
 | []=>True
 | s :: r=>ShS s/\H0 r
end
structure Grow(k:Ck.Kx)(env:Ck.Env)(ls:List (List UInt8))(env':Ck.Env)(ls':List (List UInt8)):Prop where
 more:∃more,env'=env ++ more/\more.length+ls.length<=ls'.length/\∀y∈env,∀x∈more,y.1≠x.1
 len:ls'.length<=32
 ok:KOk k env'
theorem Grow.refl{k:Ck.Kx}{env:Ck.Env}{ls:List (List UInt8)}(h:KOk k env)(hl:ls.length<=32):Grow k env ls env ls:=⟨⟨[],by simp,by simp,by simp⟩,hl,h⟩
theorem Grow.up{k:Ck.Kx}{env env':Ck.Env}{ls ls':List (List UInt8)}(h:Grow k env ls env' ls'):ls.length<=ls'.length:=by
 obtain⟨m,-,h1,-⟩:=h.more;omega
theorem Grow.trans{k:Ck.Kx}{e1 e2 e3:Ck.Env}{l1 l2 l3:List (List UInt8)}(h:Grow k e1 l1 e2 l2)(g:Grow k e2 l2 e3 l3):Grow k e1 l1 e3 l3:=by
 obtain⟨m,rfl,h1,h2⟩:=h.more;obtain⟨m',rfl,g1,g2⟩:=g.more;refine⟨⟨m ++ m',by simp,by simp;omega,λ y hy x hx=>?_⟩,g.len,g.ok⟩;rcases mem_append.1 hx with hx | hx
 .exact h2 y hy x hx
 .exact g2 y (mem_append_left _ hy) x hx
theorem Grow.loc{k:Ck.Kx}{env:Ck.Env}{ls:List (List UInt8)}(ho:KOk k env){kind:Nat}{ty:AQ}(hk:kind≠0)(ht:ty.length<=1000){r:Ck.Env × List (List UInt8)}(h:Ck.loc env ls x p kind ty=.inl r):Grow k env ls r.1 r.2:=by
 have h1:=Kq h;obtain⟨h2,h3,h4⟩:=S4 ho.eok h;refine⟨⟨_,h1,by rw[h2];simp;omega,λ y hy x' hx'=>by simp at hx';subst hx';exact h4 y hy⟩,h3,?_⟩;rw[h1];exact ho.more x _ hk ht
theorem Eo{c:Ck.Cx}{es:List Px.Ex}{x:Px.Ex}(h:es=[x]):Ck.arg (Ck.cEs c es) 0=(Ck.cE c x,Ck.plc x):=by
 subst h;exact Ck.arg_get c _ 0 x rfl
mutual
theorem Xd{k:Ck.Kx}:∀(s:Px.St) (env:Ck.Env) (ls:List (List UInt8)) (r:Ck.St1),KOk k env->ls.length<=32->ShS s->Ck.cS k env ls s=.inl r->Grow k env ls r.2.1 r.2.2
 | .mk kind n es body other p,env,ls,r,ho,hl,hsh,h=>by
  rw[ShS] at hsh;obtain⟨hk,-,hb,hc⟩:=hsh;rw[Ck.cS] at h;rcases hk with⟨rfl,h1⟩ | ⟨rfl,h1⟩ | ⟨rfl,h1⟩ | ⟨rfl,h1⟩ | ⟨rfl,h1⟩ | ⟨rfl,h1⟩
  .obtain⟨x,rfl⟩:=length_eq_one_iff.1 h1;simp only[if_true,Eo rfl] at h;obtain⟨y,hy,h⟩:=Ao h;obtain⟨e,he,h⟩:=Ao h;cases h;exact Grow.loc ho (by decide) (Hw ho.cx x y hy) he
  .simp only[Nat.reduceEqDiff,if_false,if_true] at h;obtain⟨m,hm,h⟩:=Ao h;split at h
   .obtain⟨x,hx,h⟩:=Ao h;cases h;exact Grow.refl ho hl
   .obtain⟨_,-,h⟩:=Ao h;obtain⟨_,-,h⟩:=Ao h;obtain⟨_,-,h⟩:=Ao h;cases h;exact Grow.refl ho hl
  .simp only[Nat.reduceEqDiff,if_false,if_true] at h;obtain⟨_,-,h⟩:=Ao h;obtain⟨_,-,h⟩:=Ao h;obtain⟨_,-,h⟩:=Ao h;cases h;exact Grow.refl ho hl
  .simp only[Nat.reduceEqDiff,if_false,if_true] at h;obtain⟨_,-,h⟩:=Ao h;obtain⟨a,ha,h⟩:=Ao h;obtain⟨c,a0,h⟩:=Ao h;cases h;have g1:=Gm body env ls a ho hl hb ha;have g2:=Gm other env a.2.2 c ho g1.len hc a0;exact⟨⟨[],by simp,by have:=g1.up;have:=g2.up;simp;omega,by simp⟩,g2.len,ho⟩
  .simp only[Nat.reduceEqDiff,if_false,if_true] at h;obtain⟨_,-,h⟩:=Ao h;obtain⟨e,he,h⟩:=Ao h;obtain⟨a,ha,h⟩:=Ao h;cases h;have g0:=Grow.loc ho (by decide) (by simp[Ck.tInt]) he;have g1:=Gm body e.1 e.2 a g0.ok g0.len hb ha;exact⟨⟨[],by simp,by have:=g0.up;have:=g1.up;simp;omega,by simp⟩,g1.len,ho⟩
  .simp only[Nat.reduceEqDiff,if_false,if_true] at h;obtain⟨_,-,h⟩:=Ao h;cases h;exact Grow.refl ho hl
theorem Gm{k:Ck.Kx}:∀(l:List Px.St) (env:Ck.Env) (ls:List (List UInt8)) (r:List CS × Ck.Env × List (List UInt8)),KOk k env->ls.length<=32->H0 l->Ck.cSs k env ls l=.inl r->Grow k env ls r.2.1 r.2.2
 | [],env,ls,r,ho,hl,_,h=>by
  rw[Ck.cSs] at h;cases h;exact Grow.refl ho hl
 | s :: l,env,ls,r,ho,hl,hsh,h=>by
  rw[H0] at hsh;rw[Ck.cSs] at h;obtain⟨a,ha,h⟩:=Ao h;obtain⟨c,hc,h⟩:=Ao h;cases h;have g1:=Xd s env ls a ho hl hsh.1 ha;exact g1.trans (Gm l a.2.1 a.2.2 c g1.ok g1.len hsh.2 hc)
end
end
section
open Go.RowKit
open Ck (CE CS CF CP Mng)
attribute [local go_sem ↓] Go.wp_at_zero Go.wp_at_succ
abbrev Kp(n:Nat)(lv:Value):Nat->Prop:=λ j=>n<=j/\lv.ownBlock≠some j
structure Stp(b mb:Nat)(lv:Value)(w:World)(lv':Value)(w':World):Prop where
 fm:Fm (Em b mb lv) w w'
 lv:∀j,lv'.ownBlock=some j->lv.ownBlock=some j\/w.heap.size<=j
theorem Stp.refl(b mb:Nat)(lv:Value)(w:World):Stp b mb lv w lv w:=⟨Fm.refl _ _,λ j h=>AI h⟩
theorem Stp.of_below{lv:Value}(h:Below w w w'):Stp b mb lv w lv w':=⟨BD h,λ j h=>AI h⟩
abbrev BF:=@Stp.of_below
theorem Stp.trans{lv a0 a3:Value}(h:Stp b mb lv w a0 w1)(k:Stp b mb a0 w1 a3 w2):Stp b mb lv w a3 w2:=
 ⟨h.fm.trans k.fm (λ _ _ e=>e) (λ j hj e=>by
  rcases e with e | e | e
  .exact AI e
  .exact AJ (AI e)
  .rcases h.lv j e with e | e
   .exact AJ (AJ e)
   .omega),λ j hj=>by
  rcases k.lv j hj with e | e
  .exact h.lv j e
  .exact AJ (by have:=h.fm.size;omega)⟩
theorem Stp.block{lv lv':Value}(h:Stp b mb lv w lv' w')(hj:j<w.heap.size)(h1:j≠b)(h2:j≠mb)(h3:lv.ownBlock≠some j):w'.heap[j]?=w.heap[j]?/\lv'.ownBlock≠some j:=
 ⟨h.fm.block j hj (by rintro (e | e | e);exact h1 e;exact h2 e;exact h3 e),λ e=>by
  rcases h.lv j e with e | e
  .exact h3 e
  .omega⟩
theorem Stp.since{n:Nat}{lv lv':Value}(h:Stp b mb lv w lv' w')(hb:b<n)(hm:mb<n):Since (Kp n lv) w w':=h.fm.since (λ j hj e=>by
 rcases e with e | e | e
 .have:=hj.1;omega
 .have:=hj.1;omega
 .exact hj.2 e)
theorem Stp.kp{n:Nat}{lv lv':Value}(h:Stp b mb lv w lv' w'):∀j,Kp n lv j->j<w.heap.size->Kp n lv' j:=λ j hj hl=>⟨hj.1,λ e=>by
 rcases h.lv j e with e | e
 .exact hj.2 e
 .omega⟩
theorem SlRow.stp{n:Nat}{lv lv':Value}{row:AR}(h:SlRow (Kp n lv) w sz v m row)(s:Stp b mb lv w lv' w')(hb:b<n)(hm:mb<n):SlRow (Kp n lv') w' sz v m row:=
 (h.base' (B':=λ j=>Kp n lv j/\Kp n lv' j) (λ j h1 h2=>⟨h1,s.kp j h1 h2⟩) |>.since ⟨(s.since hb hm).size,λ j h1 h2=>(s.since hb hm).block j h1.1 h2⟩).base' (λ j h1 _=>h1.2)
theorem Ar.stp{n:Nat}{lv lv':Value}{l:List CE}{row:AR}(h:Ar (Kp n lv) w l row)(s:Stp b mb lv w lv' w')(hb:b<n)(hm:mb<n):Ar (Kp n lv') w' l row:=
 (h.base (B':=λ j=>Kp n lv j/\Kp n lv' j) (λ j h1 h2=>⟨h1,s.kp j h1 h2⟩) |>.since ⟨(s.since hb hm).size,λ j h1 h2=>(s.since hb hm).block j h1.1 h2⟩).base (λ j h1 _=>h1.2)
theorem Aq.stp{n:Nat}{lv lv':Value}{l:List CS}{row:AR}(h:Aq (Kp n lv) w l row)(s:Stp b mb lv w lv' w')(hb:b<n)(hm:mb<n):Aq (Kp n lv') w' l row:=
 (h.base (B':=λ j=>Kp n lv j/\Kp n lv' j) (λ j h1 h2=>⟨h1,s.kp j h1 h2⟩) |>.since ⟨(s.since hb hm).size,λ j h1 h2=>(s.since hb hm).block j h1.1 h2⟩).base (λ j h1 _=>h1.2)
theorem Hz.stp{k:Ck.Kx}{env:Ck.Env}{lv:Value}{xs:List CS}{e':Ck.Env}{ls':List (List UInt8)}{e:Ending}(h:Hz n0 b mb v0 ss fs k env lv w (.inl (xs,e',ls')) e w'):∃lv' a cap row,e=.returned (.slice a xs.length cap)/\SlRow (Kp w lv') w' 9 (.slice a xs.length cap) xs.length row/\Aq (Kp w lv') w' xs row/\CkS n0 b mb v0 ss fs k env ls' lv' w'/\Stp b mb lv w lv' w':=by
 obtain⟨lv',a,cap,rfl,⟨row,h1,h2⟩,h3,h4,h5⟩:=h;exact⟨lv',a,cap,row,rfl,h1,h2,h3,h4,h5⟩
theorem Bu{p:Prop}(h:p):Hid p:=h
theorem Kp.low{n m:Nat}{lv:Value}(h:n<=m):∀{wx:World} j,Kp m lv j->j<wx.heap.size->Kp n lv j:=λ {wx} j hj _=>⟨AP h hj.1,hj.2⟩
theorem Bb5{x:Px.Ex}(hE:EOk x){body other:List Px.St}(cc:S2 body)(bp:S2 other){n:AQ}{lv:Value}{k:Ck.Kx}{env:Ck.Env}{ls:List (List UInt8)}(h:CkS n0 b mb v0 ss fs k env ls lv w)(ho:KOk k env)(hl:ls.length<=32)(cf:∀a,Ck.cSs k env ls body=.inl a->a.2.2.length<=32){row bi bf:AR}(hr:SlRow (Old n0 b mb) w 8 s1 1 row)(ha:Ai (Old n0 b mb) w [x] row)(b2 b3:Option Addr)(d2 d3:Nat)(a7:SlRow (Old n0 b mb) w 9 (.slice b2 body.length d2) body.length bi)(a8:Av (Old n0 b mb) w body bi)(ae:SlRow (Old n0 b mb) w 9 (.slice b3 other.length d3) other.length bf)(ah:Av (Old n0 b mb) w other bf)(nt:Value) :
  AA 115 #[pt b 0,.agg (stA 4 n s1 (.slice b2 body.length d2) (.slice b3 other.length d3) p),nt] w λ e w'=>Cu n0 b mb v0 ss fs k env lv w (Ck.bind (Ck.asked (Ck.cE (k.at env) x,Ck.plc x) Ck.tBool) λ x=>Ck.bind (Ck.cSs k env ls body) λ a=>Ck.bind (Ck.cSs k env a.2.2 other) λ c=>.inl (CS.mk 4 0 false 0 [x] a.1 c.1,env,c.2.2)) e w':=by
 obtain⟨kk,Hk⟩:∃kk:Nat,Hid (4=kk):=⟨_,rfl⟩;have i1:((kk:Int) == 1)=false:=by rw[<-Hk.out];rfl
 have i2:((kk:Int) == 2)=false:=by rw[<-Hk.out];rfl
 have i3:((kk:Int) == 3)=false:=by rw[<-Hk.out];rfl
 have i4:((kk:Int) == 4)=true:=by rw[<-Hk.out];rfl
 have cj:Hid ((Ck.bind (Ck.asked (Ck.cE (k.at env) x,Ck.plc x) Ck.tBool) λ x=>Ck.bind (Ck.cSs k env ls body) λ a=>Ck.bind (Ck.cSs k env a.2.2 other) λ c=>.inl (CS.mk 4 0 false 0 [x] a.1 c.1,env,c.2.2))=(Ck.bind (Ck.asked (Ck.cE (k.at env) x,Ck.plc x) Ck.tBool) λ x=>Ck.bind (Ck.cSs k env ls body) λ a=>Ck.bind (Ck.cSs k env a.2.2 other) λ c=>.inl (CS.mk kk 0 false 0 [x] a.1 c.1,env,c.2.2):Ck.R Ck.St1)):=by rw[<-Hk.out];rfl
 rw[cj.out];have bu:Hid (stA 4 n s1 (.slice b2 body.length d2) (.slice b3 other.length d3) p=stA kk n s1 (.slice b2 body.length d2) (.slice b3 other.length d3) p):=by rw[<-Hk.out];rfl
 rw[bu.out];clear cj bu Hk;obtain⟨bl,c7⟩:∃bl,Hid (body.length=bl):=⟨_,rfl⟩;rw[c7.out] at a7;rw[c7.out];obtain⟨ol,c6⟩:∃ol,Hid (other.length=ol):=⟨_,rfl⟩;rw[c6.out] at ae;rw[c6.out];obtain⟨w0,w1,di,de,l0,l1,db,bn,dn,c8,cl⟩:=D5 w kk n s1 (.slice b2 bl d2) (.slice b3 ol d3) p;have cd:=hr.since (Since.of_below bn);have c9:=ha.since (Since.of_below bn);have h1:=h.keep bn;obtain⟨g,og,cap,ka,oa,na,ta,aa,pa,dv,cz,rfl,ct,hg,rfl,⟨u0,u1,u2,u3,u4,u5,u6,u7⟩,c5,ci⟩:=Bd (args:=[x]) cd c9 rfl;have hA:=B5 hE rfl h1.at ho.cx c5 ci Ck.tBool;obtain⟨dr,cq,rfl,-,-⟩:=c5.val;obtain⟨d0,d1,df,cy,d4,d5,d6,d7,d8,-⟩:=Aj c8;have dm:=h.hb;have dc:=h.hm;have du:=h.sz;have dw:b<w:=by omega
 have dq:mb<w:=by omega
 obtain⟨R,HR⟩:∃R:Ck.R Ck.St1,Hid ((Ck.bind (Ck.asked (Ck.cE (k.at env) (.mk ka oa na ta aa pa),pa) Ck.tBool) λ x=>Ck.bind (Ck.cSs k env ls body) λ a=>Ck.bind (Ck.cSs k env a.2.2 other) λ c=>.inl (CS.mk kk 0 false 0 [x] a.1 c.1,env,c.2.2))=R):=⟨_,rfl⟩;show Calls _ _ _ _ λ e w'=>Cu n0 b mb v0 ss fs k env lv w (Ck.bind (Ck.asked (Ck.cE (k.at env) (.mk ka oa na ta aa pa),pa) Ck.tBool) λ x=>Ck.bind (Ck.cSs k env ls body) λ a=>Ck.bind (Ck.cSs k env a.2.2 other) λ c=>.inl (CS.mk kk 0 false 0 [x] a.1 c.1,env,c.2.2)) e w'
 rw[HR.out];generalize Ck.asked (Ck.cE (k.at env) (.mk ka oa na ta aa pa),pa) Ck.tBool=C at *;have i0:(0:Int)<1:=by omega
 have dx:([Px.Ex.mk ka oa na ta aa pa]:List Px.Ex).length=1:=rfl;have bo:∀j,lv.ownBlock=some j->n0<=j/\j<w.heap.size:=λ j hj=>h.loc.lt hj
 clear hr ha hE cd c9 h1 c5 ci;simp only[length_cons,length_nil,Nat.zero_add] at *;go_enter func115,ntmps115;go_wp2_with fail;refine hA.mono ?_;rintro e w2 hP;clear hA di de;rcases C with⟨k2,o2,n2,t2,s2,y2,a0⟩ | ⟨a,er⟩
 rotate_left
 .obtain⟨hm,bt⟩:=hP;obtain rfl:=hm;have a3:Cu n0 b mb v0 ss fs k env lv w R (.panicked (Ag a er)) w2:=by rw[<-HR.out];exact⟨rfl,BD (bn.trans (bt.mono (by omega)))⟩
  exact⟨rfl,a3⟩
 obtain⟨sl2,row2,rfl,c4,cm,bt⟩:=hP.inl;obtain⟨a2,c2,rfl,-,-⟩:=c4.val;have cv:=bt.size;obtain⟨wz,w3,dt,dy,c3,cp,cu,cr,bc,bb⟩:=Ca w2 (iv k2) (iv o2) (iv n2) (strV t2) (iv s2) (strV y2) (.slice a2 a0.length c2) (iv 0);have lz:w2<wz.heap.size:=by omega
 have l3:w2<w3.heap.size:=by omega
 clear cp cu hP;obtain⟨z0,z1,z2,z3,z4,z5,z6,z7,f0,f1,f2,f3,f4,f5,f6,f7⟩:=Ac bb;have b5:Below w1 w1 w3:=bt.trans (c3.mono cv);have c0:Below w w w3:=bn.trans (b5.mono (by omega));have c1:Hid (R=Ck.bind (Ck.cSs k env ls body) λ a=>Ck.bind (Ck.cSs k env a.2.2 other) λ c=>.inl (CS.mk kk 0 false 0 [.mk k2 o2 n2 t2 s2 y2 a0] a.1 c.1,env,c.2.2)):=HR.out.symm;clear HR d0 d1 df cy d4 d5 d6 d7 d8 u0 u1 u2 u3 u4 u5 u6 u7;have d9:=b5.size;have cg:=(b5.block _ (by omega)).trans c8;have ce:=(b5.block _ (by omega)).trans cl;have hS:∀lv' w',Stp b mb lv w3 lv' w'->(w'.heap[w.heap.size]?=some (.cells (stA kk n (sL g og 1 cap) (.slice b2 bl d2) (.slice b3 ol d3) p) 46 (0,0))/\w'.heap[w2.heap.size]?=some (.cells #[iv k2,iv o2,iv n2,strV t2,iv s2,strV y2,.slice a2 a0.length c2,iv 0] 48 (0,0))/\w.heap.size<w'.heap.size/\w2.heap.size<w'.heap.size):=λ lv' w' s=>⟨(s.block (by omega) (by omega) (by omega) (λ e=>by have:=(bo _ e).2;omega)).1.trans cg,(s.block l3 (by omega) (by omega) (λ e=>by have:=(bo _ e).2;omega)).1.trans bc,by have:=s.fm.size;omega,by have:=s.fm.size;omega⟩
 have bw:∀lv' w',Stp b mb lv w3 lv' w'->Since (Old n0 b mb) w w':=λ lv' w' s=>(Since.of_below c0).trans (s.fm.since (λ j hj e=>by
  rcases e with e | e | e
  .exact hj.2.1 e
  .exact hj.2.2 e
  .have:=(bo _ e).1;have:=hj.1;omega))
 have dk:=h.keep c0;have am:∀lvx wx,Stp b mb lv w3 lvx wx->CkS n0 b mb v0 ss fs k env ls lvx wx->AA 77 #[pt b 0,.slice b2 bl d2] wx λ e w'=>Hz n0 b mb v0 ss fs k env lvx wx (Ck.cSs k env ls body) e w':=λ lvx wx s hc=>cc n0 b mb v0 ss fs k env ls lvx (.slice b2 bl d2) bi wx hc ho hl (by rw[c7.out];exact a7.since (bw _ _ s)) (a8.since (bw _ _ s))
 have aq:∀lsx lvx wx,Stp b mb lv w3 lvx wx->lsx.length<=32->CkS n0 b mb v0 ss fs k env lsx lvx wx->AA 77 #[pt b 0,.slice b3 ol d3] wx λ e w'=>Hz n0 b mb v0 ss fs k env lvx wx (Ck.cSs k env lsx other) e w':=λ lsx lvx wx s hll hc=>bp n0 b mb v0 ss fs k env lsx lvx (.slice b3 ol d3) bf wx hc ho hll (by rw[c6.out];exact ae.since (bw _ _ s)) (ah.since (bw _ _ s))
 have bv:∀lvx wx,Stp b mb lv w3 lvx wx->SlRow (Kp w1 lvx) wx 8 (.slice a2 a0.length c2) a0.length row2/\Ar (Kp w1 lvx) wx a0 row2:=λ lvx wx s=>by
  have q1:∀j,From w1 j->j<w2.heap.size->Kp w1 lv j:=λ j h1 _=>⟨h1,λ e=>by have:=(bo _ e).2;have:w1.heap.size<=j:=h1;omega⟩
  exact⟨((c4.base' q1).since (Since.of_below c3)).stp s (by omega) (by omega),((cm.base q1).since (Since.of_below c3)).stp s (by omega) (by omega)⟩
 have aj:∀lv9 ls9 w9 ga gn gc xs ab ax ys ac av rb rc e9,Stp b mb lv w3 lv9 w9->CkS n0 b mb v0 ss fs k env ls9 lv9 w9->SlRow (Kp w3 lv9) w9 8 (sL ga 0 gn gc) 1 [iv k2,iv o2,iv n2,strV t2,iv s2,strV y2,.slice a2 a0.length c2,iv 0]->SlRow (Kp w3 lv9) w9 9 (.slice ab (List.length xs) ax) (List.length xs) rb->Aq (Kp w3 lv9) w9 xs rb->SlRow (Kp w3 lv9) w9 9 (.slice ac (List.length ys) av) (List.length ys) rc->Aq (Kp w3 lv9) w9 ys rc->R=.inl (CS.mk kk 0 false 0 [.mk k2 o2 n2 t2 s2 y2 a0] xs ys,e9,ls9) ->
   Cu n0 b mb v0 ss fs k env lv w R (.returned (.agg #[iv kk,sE,iv 0,.bool false,iv 0,sL ga 0 gn gc,.slice ab xs.length ax,.slice ac ys.length av,iv 0])) (A6 w9 w0 (iv kk) sE (iv 0) (.bool false) (iv 0) (sL ga 0 gn gc) (.slice ab xs.length ax) (.slice ac ys.length av) (iv 0)):=by
  intro lv9 ls9 w9 ga gn gc xs ab ax ys ac av rb rc e9 s hC hE9 hrb9 hab9 hrc9 hac9 hR;rw[hR];obtain⟨dj,dd⟩:=bv _ _ s;have dz:=s.fm.size;have ch:=Fm.set9 w9 w0 (iv kk) sE (iv 0) (.bool false) (iv 0) (sL ga 0 gn gc) (.slice ab xs.length ax) (.slice ac ys.length av) (iv 0);have dl:lv9.ownBlock≠some w0.heap.size:=(s.block (j:=w0.heap.size) (by omega) (by omega) (by omega) (λ e=>by have:=(bo _ e).2;omega)).2;have bh:Since (Kp w1 lv9) w9 (A6 w9 w0 (iv kk) sE (iv 0) (.bool false) (iv 0) (sL ga 0 gn gc) (.slice ab xs.length ax) (.slice ac ys.length av) (iv 0)):=⟨by rw[Bb];exact AD _,λ j hj _=>Au (by have:=hj.1;omega) _ _ _ _ _ _ _ _ _⟩;have lo:=@Kp.low w1 w3 lv9 (by omega);have bg:=@Kp.low w w1 lv9 (by omega);refine⟨lv9,_,rfl,?_,?_,?_,?_⟩
  .exact Gl ((((hE9.base' lo).since bh).base' bg)) (Ka (C7 ((dj.since bh).base' bg) ((dd.since bh).base bg))) (((hrb9.base' lo).since bh).base' bg) (((hab9.base lo).since bh).base bg) (((hrc9.base' lo).since bh).base' bg) (((hac9.base lo).since bh).base bg)
  .exact hC.fm ch (λ j hj=>by subst hj;exact⟨by omega,dl⟩)
  .exact ((Fm.of_below (X:=λ _=>False) c0).trans s.fm (λ _ _ h=>h.elim) (λ _ _ h=>h)).trans ch (λ _ _ h=>h) (λ j hj e=>by omega)
  .intro j hj;rcases s.lv j hj with e | e
   .exact AI e
   .exact AJ (by omega)
 have hz:∀lv' w',Stp b mb lv w3 lv' w'->w'.heap[w0.heap.size]?=some (.cells #[iv 0,sE,iv 0,.bool false,iv 0,sZ,sZ,sZ,iv 0] 46 (0,0)):=λ lv' w' s=>(s.block (by omega) (by omega) (by omega) (λ e=>by have:=(bo _ e).2;omega)).1.trans ce
 have ad:∀lvx wx wy a er,Stp b mb lv w3 lvx wx->Fm (Em b mb lvx) wx wy->R=.inr (a,er)->Cu n0 b mb v0 ss fs k env lv w R (.panicked (Ag a er)) wy:=λ lvx wx wy a er s hF hR=>by
  rw[hR];exact⟨rfl,((Fm.of_below (X:=λ _=>False) c0).trans (s.trans ⟨hF,λ j h=>AI h⟩:Stp b mb lv w3 lvx wy).fm (λ _ _ h=>h.elim) (λ _ _ h=>h))⟩
 have bs:∀(wx:World),Below wx wx (wx.alloc (.cells #[iv k2,iv o2,iv n2,strV t2,iv s2,strV y2,.slice a2 a0.length c2,iv 0] 48)):=λ wx=>(AF _ _).alloc (AD _) _
 have b0:∀(lvx:Value) (wx:World),(∀j,lvx.ownBlock=some j->j<wx.heap.size)->w3<=wx.heap.size->SlRow (Kp w3 lvx) (wx.alloc (.cells #[iv k2,iv o2,iv n2,strV t2,iv s2,strV y2,.slice a2 a0.length c2,iv 0] 48)) 8 (sL wx 0 1 1) 1 [iv k2,iv o2,iv n2,strV t2,iv s2,strV y2,.slice a2 a0.length c2,iv 0]:=λ lvx wx hlt hle=>(El (n:=wx.heap.size) (AD _)).base' (λ j hj _=>⟨by have:wx.heap.size<=j:=hj;omega,λ e=>by have:=hlt j e;have:wx.heap.size<=j:=hj;omega⟩)
 have cw:=Stp.refl b mb lv w3;have da:b<n0/\mb<n0:=⟨dm,dc⟩;have ds:n0<=w3:=by omega
 clear c4 cm bc bb c8 cl cg ce a7 a8 ae ah cc bp h bv bw bt c3 db dn bn cr b5;generalize Ck.cSs k env ls body=D1 at *;go_wp2_with fail;have ar:∀lv' w',Stp b mb lv w3 lv' w'->(w'.cell? w=iv kk/\w'.cell? ⟨w,6,none⟩=some (.slice b2 bl d2)/\w'.cell? ⟨w,7,none⟩=some (.slice b3 ol d3)/\w'.cell? w2=iv k2/\w'.cell? ⟨w2,1,none⟩=iv o2/\w'.cell? ⟨w2,2,none⟩=iv n2/\w'.cell? ⟨w2,3,none⟩=strV t2/\w'.cell? ⟨w2,4,none⟩=iv s2/\w'.cell? ⟨w2,5,none⟩=strV y2/\w'.cell? ⟨w2,6,none⟩=some (.slice a2 a0.length c2)/\w'.cell? ⟨w2,7,none⟩=iv 0):=λ lv' w' s=>by
  obtain⟨e1,e2,-,-⟩:=hS lv' w' s;obtain⟨g0,-,-,-,-,-,g6,g7,-⟩:=Aj e1;obtain⟨q0,q1,q2,q3,q4,q5,q6,q7,-⟩:=Ac e2;exact⟨g0,g6,g7,q0,q1,q2,q3,q4,q5,q6,q7⟩
 clear z0 z1 z2 z3 z4 z5 z6 z7 f0 f1 f2 f3 f4 f5 f6 f7 hS;have co:∀lv',Stp b mb lv w3 lv' w3->Stp b mb lv w3 lv' w3.drew:=λ lv' s=>⟨⟨s.fm.os,s.fm.tape,s.fm.output,s.fm.size,s.fm.block⟩,s.lv⟩
 have ba:=co lv cw;have bk:CkS n0 b mb v0 ss fs k env ls lv w3.drew:=dk.keep (AF _ _).drew;refine Vv.wpE_begin (S:=λ w'=>w'.cell? w=iv kk/\w'.cell? ⟨w,6,none⟩=some (.slice b2 bl d2)/\w'.cell? ⟨w,7,none⟩=some (.slice b3 ol d3)/\w'.cell? w2=iv k2/\w'.cell? ⟨w2,1,none⟩=iv o2/\w'.cell? ⟨w2,2,none⟩=iv n2/\w'.cell? ⟨w2,3,none⟩=strV t2/\w'.cell? ⟨w2,4,none⟩=iv s2/\w'.cell? ⟨w2,5,none⟩=strV y2/\w'.cell? ⟨w2,6,none⟩=some (.slice a2 a0.length c2)/\w'.cell? ⟨w2,7,none⟩=iv 0) (N:=λ j=>decide (j<12)) (by kernel_rfl) ?_;have b7:=ar lv w3.drew ba;replace ar:=Bu ar;replace aj:=Bu aj;replace hz:=Bu hz;replace ad:=Bu ad;replace am:=Bu am;replace aq:=Bu aq;replace b0:=Bu b0;replace bs:=Bu bs;clear co;have dh:w3<=w3.drew.heap.size:=AD _;generalize w3.drew=wd at *;refine Aa 35 [1,12,13] 0 (pt w 0) b7 ?_;refine Aa 36 [12,13] 1 (iv kk) b7 ?_;refine Aa 37 [3,12,13] 2 (.agg #[iv k2,iv o2,iv n2,strV t2,iv s2,strV y2,.slice a2 a0.length c2,iv 0]) b7 ?_;refine Aa 39 [7,11,12,13] 4 (pt b 0) b7 ?_;refine Aa 40 [6,7,11,12,13] 5 (pt w 6) b7 ?_;refine Aa 41 [7,11,12,13] 6 (.slice b2 bl d2) b7 ?_;refine Aa 43 [11,12,13] 8 (pt b 0) b7 ?_;refine Aa 44 [10,11,12,13] 9 (pt w 7) b7 ?_
 refine Aa 45 [11,12,13] 10 (.slice b3 ol d3) b7 ?_;refine Vv.wpE_two (i:=3) (j:=7) (by kernel_rfl) rfl rfl rfl rfl (λ K hK=>?_) (λ K hK=>?_)
 .obtain⟨wa,a9⟩:∃wa,wd.alloc (.cells #[iv k2,iv o2,iv n2,strV t2,iv s2,strV y2,.slice a2 a0.length c2,iv 0] 48)=wa:=⟨_,rfl⟩;go_simp
  try rw[a9]
  have ai:Below wd wd wa:=by rw[<-a9];exact bs.out _
  have a4:=b0.out lv wd (λ j hj=>(bk.loc.lt hj).2) (by have:=ba.fm.size;omega);rw[a9] at a4;have ay:Stp b mb lv wd lv wa:=BF ai;have ak:=ba.trans ay;have aw:=bk.keep ai;refine hK _ _ (λ _=>ar.out lv wa ak) ?_;clear hK K
  try simp only[aP]
  refine Ah 7 λ K hK=>?_
  go_simp;refine (am.out lv wa ak aw).mono ?_;rintro e wb hP;rcases D1 with⟨xs,ex,b8⟩ | ⟨a,er⟩
  rotate_left
  .obtain⟨hm,hF⟩:=hP;obtain rfl:=hm;have a3:=ad.out lv wa wb a er ak hF (by rw[c1.out];rfl);exact⟨rfl,a3⟩
  obtain⟨af,ab,ax,rb,rfl,a7,a8,b4,sb⟩:=hP.stp;have al:=ak.trans sb;have bx:b8.length<=32:=cf _ rfl;have bj:Hid (R=Ck.bind (Ck.cSs k env b8 other) λ c=>.inl (CS.mk kk 0 false 0 [.mk k2 o2 n2 t2 s2 y2 a0] xs c.1,env,c.2.2)):=c1.out;have a7:=a7.base' (B':=Kp w3 af) (Kp.low (n:=w3.heap.size) (m:=wa.heap.size) (lv:=af) (by have:=ak.fm.size;omega));have a8:=a8.base (B':=Kp w3 af) (Kp.low (n:=w3.heap.size) (m:=wa.heap.size) (lv:=af) (by have:=ak.fm.size;omega));have ag:=Bu (aq.out b8 af);generalize Ck.cSs k env b8 other=D2 at *;have a5:=a4.stp sb (by omega) (by omega);refine hK _ _ (λ _=>ar.out af wb al) ?_;clear hK K
  try simp only[aP]
  refine Ah 11 λ K hK=>?_
  go_simp;refine (ag.out wb al bx b4).mono ?_;rintro e wc hP;rcases D2 with⟨ys,ey,b9⟩ | ⟨a,er⟩
  rotate_left
  .obtain⟨hm,hF⟩:=hP;obtain rfl:=hm;have a3:=ad.out af wb wc a er al hF (by rw[bj.out];rfl);exact⟨rfl,a3⟩
  obtain⟨a6,ac,av,rc,rfl,ae,ah,au,sc⟩:=hP.stp;have az:=al.trans sc;have ae:=ae.base' (B':=Kp w3 a6) (Kp.low (n:=w3.heap.size) (m:=wb.heap.size) (lv:=a6) (by have:=al.fm.size;omega));have ah:=ah.base (B':=Kp w3 a6) (Kp.low (n:=w3.heap.size) (m:=wb.heap.size) (lv:=a6) (by have:=al.fm.size;omega));have a7:=a7.stp sc (by omega) (by omega);have a8:=a8.stp sc (by omega) (by omega);have bq:R=.inl (CS.mk kk 0 false 0 [.mk k2 o2 n2 t2 s2 y2 a0] xs ys,env,b9):=bj.out;have a5:=a5.stp sc (by omega) (by omega);refine hK _ _ (λ _=>ar.out a6 wc az) ?_;clear hK K
  try simp only[aP]
  refine Ah 12 λ K hK=>?_
  go_simp;refine hK _ _ (λ h=>by cases h) ?_;clear hK K
  try simp only[aP]
  have b6:=hz.out a6 wc az;obtain⟨r0,r1,r2,r3,r4,r5,r6,r7,r8,t0,t1,ca,t3,t4,t5,t6,t7,t8⟩:=Aj b6;have br:w0<wc.heap.size:=(AB b6).1;have a3:=aj.out a6 b9 wc wd 1 1 xs ab ax ys ac av rb rc env az au a5 a7 a8 ae ah bq;clear aj hz b6 ad ar a7 a8 ae ah a5;refine Ah 13 λ K hK=>?_
  go_simp;refine hK _ _ (λ h=>by cases h) ?_;clear hK K
  try simp only[aP]
  refine Vv.wpE_done (by kernel_rfl) ?_;simp only[Exit.inBlock,Exit.then];refine ‹∀(a:Act) (w:World),_->_› _ _ ?_;go_wp2_with fail;exact bodyPost_ret (by simp[results,results115,go_sem,br,r0,r1,r2,r3,r4,r5,r6,r7,r8]) rfl a3
 .go_simp;refine (am.out lv wd ba bk).mono ?_;rintro e wb hP;rcases D1 with⟨xs,ex,b8⟩ | ⟨a,er⟩
  rotate_left
  .obtain⟨hm,hF⟩:=hP;obtain rfl:=hm;have a3:=ad.out lv wd wb a er ba hF (by rw[c1.out];rfl);exact⟨rfl,a3⟩
  obtain⟨af,ab,ax,rb,rfl,a7,a8,b4,sb⟩:=hP.stp;have al:=ba.trans sb;have bx:b8.length<=32:=cf _ rfl;have bj:Hid (R=Ck.bind (Ck.cSs k env b8 other) λ c=>.inl (CS.mk kk 0 false 0 [.mk k2 o2 n2 t2 s2 y2 a0] xs c.1,env,c.2.2)):=c1.out;have a7:=a7.base' (B':=Kp w3 af) (Kp.low (n:=w3.heap.size) (m:=wd.heap.size) (lv:=af) (by have:=ba.fm.size;omega));have a8:=a8.base (B':=Kp w3 af) (Kp.low (n:=w3.heap.size) (m:=wd.heap.size) (lv:=af) (by have:=ba.fm.size;omega));have ag:=Bu (aq.out b8 af);generalize Ck.cSs k env b8 other=D2 at *;refine hK _ _ (λ _=>ar.out af wb al) ?_;clear hK K
  try simp only[aP]
  refine Vv.wpE_two (i:=3) (j:=11) (by kernel_rfl) rfl rfl rfl rfl (λ K hK=>?_) (λ K hK=>?_)
  .obtain⟨wa,a9⟩:∃wa,wb.alloc (.cells #[iv k2,iv o2,iv n2,strV t2,iv s2,strV y2,.slice a2 a0.length c2,iv 0] 48)=wa:=⟨_,rfl⟩;go_simp
   try rw[a9]
   have ai:Below wb wb wa:=by rw[<-a9];exact bs.out _
   have a4:=b0.out af wb (λ j hj=>(b4.loc.lt hj).2) (by have:=al.fm.size;omega);rw[a9] at a4;have ay:Stp b mb af wb af wa:=BF ai;have ak:=al.trans ay;have aw:=b4.keep ai;have a7:=a7.stp ay (by omega) (by omega);have a8:=a8.stp ay (by omega) (by omega);refine hK _ _ (λ _=>ar.out af wa ak) ?_;clear hK K
   try simp only[aP]
   refine Ah 11 λ K hK=>?_
   go_simp;refine (ag.out wa ak bx aw).mono ?_;rintro e wc hP;rcases D2 with⟨ys,ey,b9⟩ | ⟨a,er⟩
   rotate_left
   .obtain⟨hm,hF⟩:=hP;obtain rfl:=hm;have a3:=ad.out af wa wc a er ak hF (by rw[bj.out];rfl);exact⟨rfl,a3⟩
   obtain⟨a6,ac,av,rc,rfl,ae,ah,au,sc⟩:=hP.stp;have az:=ak.trans sc;have ae:=ae.base' (B':=Kp w3 a6) (Kp.low (n:=w3.heap.size) (m:=wa.heap.size) (lv:=a6) (by have:=ak.fm.size;omega));have ah:=ah.base (B':=Kp w3 a6) (Kp.low (n:=w3.heap.size) (m:=wa.heap.size) (lv:=a6) (by have:=ak.fm.size;omega));have a7:=a7.stp sc (by omega) (by omega);have a8:=a8.stp sc (by omega) (by omega);have bq:R=.inl (CS.mk kk 0 false 0 [.mk k2 o2 n2 t2 s2 y2 a0] xs ys,env,b9):=bj.out;have a5:=a4.stp sc (by omega) (by omega);refine hK _ _ (λ _=>ar.out a6 wc az) ?_;clear hK K
   try simp only[aP]
   refine Ah 12 λ K hK=>?_
   go_simp;refine hK _ _ (λ h=>by cases h) ?_;clear hK K
   try simp only[aP]
   have b6:=hz.out a6 wc az;obtain⟨r0,r1,r2,r3,r4,r5,r6,r7,r8,t0,t1,ca,t3,t4,t5,t6,t7,t8⟩:=Aj b6;have br:w0<wc.heap.size:=(AB b6).1;have a3:=aj.out a6 b9 wc wb 1 1 xs ab ax ys ac av rb rc env az au a5 a7 a8 ae ah bq;clear aj hz b6 ad ar a7 a8 ae ah a5;refine Ah 13 λ K hK=>?_
   go_simp;refine hK _ _ (λ h=>by cases h) ?_;clear hK K
   try simp only[aP]
   refine Vv.wpE_done (by kernel_rfl) ?_;simp only[Exit.inBlock,Exit.then];refine ‹∀(a:Act) (w:World),_->_› _ _ ?_;go_wp2_with fail;exact bodyPost_ret (by simp[results,results115,go_sem,br,r0,r1,r2,r3,r4,r5,r6,r7,r8]) rfl a3
  .go_simp;refine (ag.out wb al bx b4).mono ?_;rintro e wc hP;rcases D2 with⟨ys,ey,b9⟩ | ⟨a,er⟩
   rotate_left
   .obtain⟨hm,hF⟩:=hP;obtain rfl:=hm;have a3:=ad.out af wb wc a er al hF (by rw[bj.out];rfl);exact⟨rfl,a3⟩
   obtain⟨a6,ac,av,rc,rfl,ae,ah,au,sc⟩:=hP.stp;have az:=al.trans sc;have ae:=ae.base' (B':=Kp w3 a6) (Kp.low (n:=w3.heap.size) (m:=wb.heap.size) (lv:=a6) (by have:=al.fm.size;omega));have ah:=ah.base (B':=Kp w3 a6) (Kp.low (n:=w3.heap.size) (m:=wb.heap.size) (lv:=a6) (by have:=al.fm.size;omega));have a7:=a7.stp sc (by omega) (by omega);have a8:=a8.stp sc (by omega) (by omega);have bq:R=.inl (CS.mk kk 0 false 0 [.mk k2 o2 n2 t2 s2 y2 a0] xs ys,env,b9):=bj.out;refine hK _ _ (λ _=>ar.out a6 wc az) ?_;clear hK K
   try simp only[aP]
   refine Ah 3 λ K hK=>?_
   obtain⟨wa,a9⟩:∃wa,wc.alloc (.cells #[iv k2,iv o2,iv n2,strV t2,iv s2,strV y2,.slice a2 a0.length c2,iv 0] 48)=wa:=⟨_,rfl⟩;go_simp
   try rw[a9]
   have ai:Below wc wc wa:=by rw[<-a9];exact bs.out _
   have a4:=b0.out a6 wc (λ j hj=>(au.loc.lt hj).2) (by have:=az.fm.size;omega);rw[a9] at a4;have ay:Stp b mb a6 wc a6 wa:=BF ai;have ak:=az.trans ay;have aw:=au.keep ai;have a5:=a4;have a7:=a7.stp ay (by omega) (by omega);have a8:=a8.stp ay (by omega) (by omega);have ae:=ae.stp ay (by omega) (by omega);have ah:=ah.stp ay (by omega) (by omega);refine hK _ _ (λ _=>ar.out a6 wa ak) ?_;clear hK K
   try simp only[aP]
   refine Ah 12 λ K hK=>?_
   go_simp;refine hK _ _ (λ h=>by cases h) ?_;clear hK K
   try simp only[aP]
   have b6:=hz.out a6 wa ak;obtain⟨r0,r1,r2,r3,r4,r5,r6,r7,r8,t0,t1,ca,t3,t4,t5,t6,t7,t8⟩:=Aj b6;have br:w0<wa.heap.size:=(AB b6).1;have a3:=aj.out a6 b9 wa wc 1 1 xs ab ax ys ac av rb rc env ak aw a5 a7 a8 ae ah bq;clear aj hz b6 ad ar a7 a8 ae ah a5;refine Ah 13 λ K hK=>?_
   go_simp;refine hK _ _ (λ h=>by cases h) ?_;clear hK K
   try simp only[aP]
   refine Vv.wpE_done (by kernel_rfl) ?_;simp only[Exit.inBlock,Exit.then];refine ‹∀(a:Act) (w:World),_->_› _ _ ?_;go_wp2_with fail;exact bodyPost_ret (by simp[results,results115,go_sem,br,r0,r1,r2,r3,r4,r5,r6,r7,r8]) rfl a3
def Aj7(s:Px.St):Prop:=∀(n0 b mb cb nb:Nat) (v0 ss fs lv nv:Value) (k:Ck.Kx) (env:Ck.Env) (ls names:List (List UInt8)) (cs:AR) (w:World),CkS n0 b mb v0 ss fs k env ls lv w->KOk k env->Sc n0 b cb nb nv names w->Apart lv nv cb nb->ls.length<=32->names.length<=100000->IsSt (Old n0 b mb) w s cs->AA 115 #[pt b 0,.agg cs.toArray,.func (.func 112) #[] #[pt cb 0,pt nb 0]] w λ e w'=>Br n0 b mb cb nb v0 ss fs k env lv nv names w (Ck.cS k env ls s) e w'
abbrev Kn(n:Nat)(lv nv:Value):Nat->Prop:=λ j=>n<=j/\lv.ownBlock≠some j/\nv.ownBlock≠some j
theorem Stp.turn{nb:Nat}{lv lvr lv' nvr:Value}(s:Stp b mb lv w lvr wr)(hn:w<=nb)(a0:∀j,nvr.ownBlock=some j->w.heap.size<=j)(f:Fm (Iv b mb nb lvr nvr) wr w')(a3:∀j,lv'.ownBlock=some j->lvr.ownBlock=some j\/wr.heap.size<=j):Stp b mb lv w lv' w':=
 ⟨s.fm.trans f (λ _ _ e=>e) (λ j hj e=>by
  rcases e with e | e | e | e | e
  .exact AI e
  .exact AJ (AI e)
  .omega
  .rcases s.lv j e with e | e
   .exact AJ (AJ e)
   .omega
  .have:=a0 j e;omega),λ j hj=>by
  rcases a3 j hj with e | e
  .exact s.lv j e
  .exact AJ (by have:=s.fm.size;omega)⟩
structure BkI(n0 b mb cb nb m:Nat)(v0 ss fs lv:Value)(k:Ck.Kx)(env:Ck.Env)(ls:List (List UInt8))(w:World)(l:List Px.St)(R:Ck.R (List CS × Ck.Env × List (List UInt8)))(q:Nat)(acc:List CS)(out lvr nvr:Value)(more:Ck.Env)(lsr:List (List UInt8))(wr:World):Prop where
 len:acc.length=q
 stp:Stp b mb lv w lvr wr
 ck:CkS n0 b mb v0 ss fs k (env ++ more) lsr lvr wr
 sc:Sc n0 b cb nb nvr (more.map Prod.fst) wr
 ap:Apart lvr nvr cb nb
 nv:∀j,nvr.ownBlock=some j->m<=j
 grow:Grow k env ls (env ++ more) lsr
 gs:Gs (Kn m lvr nvr) wr out acc
 sz:m<=wr
 ans:R=Ck.bind (Ck.cSs k (env ++ more) lsr (l.drop q)) λ c=>.inl (acc ++ c.1,c.2)
theorem IsSt.cells{B:AS}{s:Px.St}(h:IsSt B w s cs):∃(k p:Nat) (n:AQ) (a1 a2 a3:Option Addr) (l1 l2 l3 c1 c2 c3:Nat),cs=[iv k,strV n,iv 0,.bool false,iv 0,.slice a1 l1 c1,.slice a2 l2 c2,.slice a3 l3 c3,iv p]:=by
 obtain⟨k,n,es,b,c,p⟩:=s;rw[IsSt] at h;obtain⟨s1,s2,s3,r1,r2,r3,rfl,h1,h2,h3,h4,h5,h6⟩:=h;obtain⟨a1,c1,rfl,-,-⟩:=h1.val;obtain⟨a2,c2,rfl,-,-⟩:=h3.val;obtain⟨a3,c3,rfl,-,-⟩:=h5.val;exact⟨k,p,n,a1,a2,a3,_,_,_,c1,c2,c3,rfl⟩
theorem IsSt.since'{B:AS}{s:Px.St}(h:IsSt B w s cs)(e:Since B w w'):IsSt B w' s cs:=IsSt.since e h
theorem Xe:∀{l:List Px.St},H0 l->∀{s},s∈l->ShS s
 | x :: r,h,s,hs=>by
  rw[H0] at h;rcases mem_cons.1 hs with rfl | hs
  .exact h.1
  .exact Xe h.2 hs
theorem H3{l:List Px.St}(hA:∀s∈l,Aj7 s)(bt:H0 l)(d5:l.length<=1000000):S2 l:=by
 intro n0 b mb v0 ss fs k env ls lv sl row w hC hk hl hr ha;obtain⟨ao,cap,rfl,cc,ba⟩:=hr.val;have d7:=hC.sz;have dm:=hC.hb;have ca:=hC.hm;have cg:=G3 (n0:=n0) (b:=b) (w:=w) d7;obtain⟨R,HR⟩:∃R,Hid (Ck.cSs k env ls l=R):=⟨_,rfl⟩;rw[HR.out];have cj:∀lv' w',Stp b mb lv w lv' w'->Since (Old n0 b mb) w w':=λ lv' w' s=>s.fm.since (λ j hj e=>by
  rcases e with e | e | e
  .exact hj.2.1 e
  .exact hj.2.2 e
  .have:=(hC.loc.lt e).1;have:=hj.1;omega)
 have ai:∀(q:Nat),q<l.length->∃s cs g o,s∈l/\l[q]?=some s/\ao=some ⟨g,o,none⟩/\IsSt (Old n0 b mb) w s cs/\∀lv' w',Stp b mb lv w lv' w'->g<w'.heap.size/\∀(j:Nat) (u:Value),cs[j]?=u->w'.cell? ⟨g,o+q*9+j,none⟩=u:=λ q hq=>by
  obtain⟨s,hs⟩:∃s,l[q]?=some s:=⟨_,AN hq⟩;obtain⟨cs,k1,k2⟩:=ha.get hs;obtain⟨g,o,c,e1,-,-,hB,hg,ay⟩:=hr.cells (by omega);simp only[Value.slice.injEq] at e1;refine⟨s,cs,g,o,mem_of_getElem? hs,hs,e1.1,k1,λ lv' w' st=>?_⟩;have h1:=cj lv' w' st;refine⟨by have:=h1.size;omega,λ j u hj=>?_⟩;have dj:j<9:=by have:=(AK hj).1;rw[k1.len] at this;exact this
  rw[World.cell?_of_block (w:=w) (h1.block g hB hg),Nat.add_assoc];exact ay _ _ (by rw[k2 j dj];exact hj)
 clear hr ha;go_enter func77,ntmps77;go_wp2_with fail;refine cg.mono ?_;rintro e w1 ⟨cb,nb,rfl,au,ds,ce,bu⟩;clear cg;have c9:Hid (BkI n0 b mb cb nb w1 v0 ss fs lv k env ls w l R 0 [] sZ lv sZ [] ls w1):=by
  have dv:=(AB au.cbk).1;have dt:=(AB au.nbk).1;refine⟨rfl,BF bu,by rw[append_nil];exact hC.keep bu,au,⟨λ e=>?_,λ e=>?_,λ j _ e=>(by cases e)⟩,λ j e=>(by cases e),by rw[append_nil];exact Grow.refl hk hl,Gs.nil _ _,AD _,?_⟩
  .have:=(hC.loc.lt e).2;omega
  .have:=(hC.loc.lt e).2;omega
  .rw[append_nil,drop_zero,HR.out];rcases R with⟨x1,x2⟩ | r <;> simp[Ck.bind]
 have d1:cb<w1:=(AB au.cbk).1;have da:nb<w1:=(AB au.nbk).1;have di:=bu.size;have bq:=hC.bm;clear HR hC au;go_wp2_with fail
 go_loopg [7,17] l.length (λ gh out i wr=>∃q acc oa oc lvr nvr more lsr,q<=l.length/\gh=l.length - q/\out=.slice oa q oc/\i=iv q/\Hid (BkI n0 b mb cb nb w1 v0 ss fs lv k env ls w l R q acc (.slice oa q oc) lvr nvr more lsr wr))
 case atStart=>exact⟨0,[],none,0,lv,sZ,[],ls,AO _,rfl,rfl,rfl,c9⟩
 case round=>
  obtain⟨q,acc,oa,oc,lvr,nvr,more,lsr,hq,rfl,rfl,rfl,HI⟩:=hrel;clear c9;by_cases hlt:q<l.length
  .have bs:(q:Int)<(l.length:Int):=by omega
   obtain⟨s,cs,g,o,b0,bx,rfl,bi,a4⟩:=ai q hlt;obtain⟨k4,p4,n4,a1,a2,a3,l1,l2,l3,c1,c2,c3,rfl⟩:=bi.cells;obtain⟨dr,a8⟩:=a4 _ _ HI.out.stp;have u0:wr.cell? ⟨g,o+q*9,none⟩=iv k4:=a8 0 _ rfl;have u1:=a8 1 _ rfl;have u2:=a8 2 _ rfl;have u3:=a8 3 _ rfl;have u4:=a8 4 _ rfl;have u5:=a8 5 _ rfl;have u6:=a8 6 _ rfl;have u7:=a8 7 _ rfl;have u8:=a8 8 _ rfl;obtain⟨wz,w3,d6,dd,b3,ct,cw,cu,ag,ae⟩:=Jm wr (iv k4) (strV n4) (iv 0) (.bool false) (iv 0) (.slice a1 l1 c1) (.slice a2 l2 c2) (.slice a3 l3 c3) (iv p4);have lz:wr<wz.heap.size:=by omega
   have du:wr<w3.heap.size:=by omega
   clear ct cw;obtain⟨z0,z1,z2,z3,z4,z5,z6,z7,z8,f0,f1,f2,f3,f4,f5,f6,f7,f8⟩:=Aj ae;obtain⟨dl,dc,cv,dk,de,cz,dh,d0,dn,-⟩:=Aj ag;have a9:Stp b mb lv w lvr w3:=HI.out.stp.trans (BF b3);have b6:=HI.out.ck.keep b3;have b7:Sc n0 b cb nb nvr (more.map Prod.fst) w3:=HI.out.sc.keep (λ j hj=>b3.block j (by
    have:=HI.out.sz;rcases hj with rfl | rfl | e
    .omega
    .omega
    .exact (HI.out.sc.own.lt e).2))
   have al:=HI.out.grow;have c6:more.length<=32:=by
    obtain⟨m2,e1,e2,-⟩:=al.more;have:=append_cancel_left e1;subst this;have:=al.len;omega
   have cq:=hA s b0 n0 b mb cb nb v0 ss fs lvr nvr k (env ++ more) lsr (more.map Prod.fst) _ w3 b6 al.ok b7 HI.out.ap al.len (by simp;omega) (bi.since' (cj _ _ a9));have cd:∀x env' ls',Ck.cS k (env ++ more) lsr s=.inl (x,env',ls')->Grow k (env ++ more) lsr env' ls':=λ x env' ls' e=>Xd s (env ++ more) lsr (x,env',ls') al.ok al.len (Xe bt b0) e
   have ah:l.drop q=s :: l.drop (q+1):=by
    obtain⟨hi,rfl⟩:=AK bx;exact drop_eq_getElem_cons hi
   have bk:Hid (R=Ck.bind (Ck.cS k (env ++ more) lsr s) λ a=>Ck.bind (Ck.cSs k a.2.1 a.2.2 (l.drop (q+1))) λ c=>.inl (acc ++ (a.1 :: c.1),c.2)):=by
    show _=_;rw[HI.out.ans,ah,Ck.cSs];generalize Ck.cS k (env ++ more) lsr s=D;rcases D with a | e
    .simp only[Ck.bind];generalize Ck.cSs k a.2.1 a.2.2 (l.drop (q+1))=E;rcases E with c | e <;> rfl
    .rfl
   generalize Ck.cS k (env ++ more) lsr s=D at *;have aa:Below wr wr w3:=b3;clear ai a4 a8 bi bx ah bt b6 b7 al ae ag b3 cu hA;go_wp2_with fail;refine cq.mono ?_;rintro e w5 hP;clear cq u0 u1 u2 u3 u4 u5 u6 u7 u8 z0 z1 z2 z3 z4 z5 z6 z7 z8 f0 f1 f2 f3 f4 f5 f6 f7 f8 dl dc cv dk de cz dh d0 dn d6 dd;have bb:∀j,nvr.ownBlock=some j->w.heap.size<=j:=λ j e=>by have:=HI.out.nv j e;omega
   rcases D with⟨⟨k5,o5,f5,n5,ar,aw,av⟩,env',ls'⟩ | ⟨a,er⟩
   rotate_left
   .obtain⟨hm,hF⟩:=hP;obtain rfl:=hm;have a6:Hz n0 b mb v0 ss fs k env lv w R (.panicked (Ag a er)) w5:=by
     rw[bk.out];exact⟨rfl,(a9.turn ce bb hF (λ j e=>AI e)).fm⟩
    exact⟨rfl,a6⟩
   obtain⟨lv',ab,a0,dq,rfl,br,rfl,bp,aq,co,ax,am,ak⟩:=hP;have b9:=cd _ _ _ rfl;have c8:=br;rw[Ch] at c8;obtain⟨t1,t2,t3,r1,r2,r3,rfl,h1,h2,h3,h4,h5,h6⟩:=c8;obtain⟨e1,e2,rfl,-,-⟩:=h1.val;obtain⟨e3,e4,rfl,-,-⟩:=h3.val;obtain⟨e5,e6,rfl,-,-⟩:=h5.val;clear h1 h2 h3 h4 h5 h6;obtain⟨w6,bf⟩:∃w6,w5.alloc (.cells #[iv k5,sE,iv o5,.bool f5,iv n5,.slice e1 ar.length e2,.slice e3 aw.length e4,.slice e5 av.length e6,iv 0] 46)=w6:=⟨_,rfl⟩;have b4:Below w5 w5 w6:=by rw[<-bf];exact (AF _ _).alloc (AD _) _
   have l6:w5.heap.size<w6.heap.size:=by rw[<-bf];simp
   have af:w6.heap[w5.heap.size]?=some (.cells #[iv k5,sE,iv o5,.bool f5,iv n5,.slice e1 ar.length e2,.slice e3 aw.length e4,.slice e5 av.length e6,iv 0] 46 (0,0)):=by rw[<-bf];exact heap_new _ _
   have db:=aa.size;have d4:=ax.size;have d3:=b4.size;have d8:=HI.out.sz;have az:∀j,ab.ownBlock=some j->w1.heap.size<=j:=λ j e=>by
    rcases ak j e with e | e
    .exact HI.out.nv j e
    .omega
   have bw:Gs (Kn w1 lv' ab) w6 (.slice oa q oc) acc:=by
    have d9:=HI.out.gs.below aa;have cr:Gs (λ j=>Kn w1 lvr nvr j/\j<w3.heap.size) w3 (.slice oa q oc) acc:=d9.base (λ j h1 h2=>⟨h1,h2⟩);have bg:=cr.since (w':=w5) ⟨ax.size,λ j hj hl=>ax.block j hl (by
     obtain⟨⟨j1,j2,j3⟩,j4⟩:=hj;rintro (e | e | e | e | e)
     .omega
     .omega
     .omega
     .exact j2 e
     .exact j3 e)⟩
    refine (bg.base (λ j hj _=>?_)).below b4;obtain⟨⟨j1,j2,j3⟩,j4⟩:=hj;refine⟨j1,λ e=>?_,λ e=>?_⟩
    .rcases am j e with e | e
     .exact j2 e
     .omega
    .rcases ak j e with e | e
     .exact j3 e
     .omega
   have ci:Ch (λ j=>Kn w1 lv' ab j/\(Value.slice oa q oc).ownBlock≠some j) w6 (.mk k5 o5 f5 n5 ar aw av) [iv k5,sE,iv o5,.bool f5,iv n5,.slice e1 ar.length e2,.slice e3 aw.length e4,.slice e5 av.length e6,iv 0]:=by
    refine (br.since (Since.of_below b4)).base (λ j hj hl=>⟨⟨by have:=hj.1;omega,hj.2.1,hj.2.2⟩,λ e=>?_⟩);have h9:=(HI.out.gs.below aa).apart (k:=j) hj.1;exact h9 e
   have cf:∀j,w6.heap.size<=j->Kn w1 lv' ab j:=λ j hj=>⟨by omega,λ e=>by have:=(bp.loc.lt e).2;omega,λ e=>by have:=(aq.own.lt e).2;omega⟩
   have cl:acc.length+1<=1000000:=by
    have:=HI.out.len;have:cap<=9223372036854775807:=ba;exact AP (Nat.succ_le_of_lt (by rw[HI.out.len];exact hlt)) d5
   obtain⟨g7,c7,w7,bj,bn,cp,ch,df,bv⟩:=bw.push (ad:=⟨w5,0,none⟩) (cs:=[iv k5,sE,iv o5,.bool f5,iv n5,.slice e1 ar.length e2,.slice e3 aw.length e4,.slice e5 av.length e6,iv 0]) (λ j u hj=>by
    have h1:w6.cell? ⟨w5,j,none⟩=some u:=by rw[Be af,List.getElem?_toArray];exact hj
    by_cases h0:j=0
    .subst h0;simpa [Addr.add] using h1
    .simpa [Addr.add,h0] using h1) ci cl cf 1 34
   rw[HI.out.len] at bj bn;have a5:∀j,(Value.slice oa q oc).ownBlock=some j->w1.heap.size<=j/\lv'.ownBlock≠some j/\ab.ownBlock≠some j:=λ j e=>by
    obtain⟨cy,-,h0,-⟩:=bw;exact h0 j e
   have b8:Hid (BkI n0 b mb cb nb w1 v0 ss fs lv k env ls w l R (q+1) (acc ++ [.mk k5 o5 f5 n5 ar aw av]) (sL g7 0 (q+1) c7) lv' ab (more ++ a0) ls' w7):=by
    have a7:Fm (λ j=>(Value.slice oa q oc).ownBlock=some j) w6 w7:=by
     have bl:=cp 0 (AO _) (λ _ _=>AO _);exact⟨bl.os,bl.tape,bl.output,df,λ j h1 h2=>ch j h1 h2⟩
    have aj:Fm (λ j=>(Value.slice oa q oc).ownBlock=some j) w5 w7:=(Fm.of_below (X:=λ _=>False) b4).trans a7 (λ _ _ h=>h.elim) (λ _ _ h=>h);have c5:=a9.turn ce bb ax am;refine⟨by rw[length_append,HI.out.len];rfl,?_,?_,?_,co,az,?_,bn,by omega,?_⟩
    .exact⟨c5.fm.trans aj (λ _ _ h=>h) (λ j hj e=>by have:=(a5 j e).1;omega),c5.lv⟩
    .rw[<-append_assoc];exact bp.fm aj (λ j hj=>⟨by have:=(a5 j hj).1;omega,(a5 j hj).2.1⟩)
    .rw[map_append];refine aq.keep (λ j hj=>aj.block j ?_ ?_)
     .rcases hj with rfl | rfl | e
      .exact (AB aq.cbk).1
      .exact (AB aq.nbk).1
      .exact (aq.own.lt e).2
     .intro e;have h9:=a5 j e;rcases hj with rfl | rfl | e2
      .omega
      .omega
      .exact h9.2.2 e2
    .rw[<-append_assoc];exact HI.out.grow.trans b9
    .rw[bk.out];simp only[Ck.bind,append_assoc,singleton_append]
   clear br bp aq co ax am ak b9 b4 af bw ci cf bn cp ch bv a5 bk cd a9 az aa HI cl;rcases oa with _ | oa
   .go_wp2_with (at_builtin;refine Lib.wpList_append_run _ rfl _ _ 34 34 rfl _ _ rfl rfl _ _ bj ?_)
    go_roundg (l.length - (q+1))
    case measure=>omega
    case rel=>exact⟨q+1,_,some ⟨g7,0,none⟩,c7,lv',ab,more ++ a0,ls',by omega,rfl,rfl,by go_num,b8⟩
   .go_wp2_with (at_builtin;refine Lib.wpList_append_run _ rfl _ _ 34 34 rfl _ _ rfl rfl _ _ bj ?_)
    go_roundg (l.length - (q+1))
    case measure=>omega
    case rel=>exact⟨q+1,_,some ⟨g7,0,none⟩,c7,lv',ab,more ++ a0,ls',by omega,rfl,rfl,by go_num,b8⟩
  .have bs:¬(q:Int)<(l.length:Int):=by omega
   have d2:q=l.length:=by omega
   have cm:R=.inl (acc,env ++ more,lsr):=by
    rw[HI.out.ans,drop_of_length_le (by omega)];simp[Ck.cSs,Ck.bind]
   clear d2;have bo:∀y∈env,∀x∈more,y.1≠x.1:=by
    obtain⟨m2,e1,-,e3⟩:=HI.out.grow.more;have:=append_cancel_left e1;subst this;exact e3
   have c4:=Hx HI.out.ck.blk HI.out.ck.env HI.out.sc ca bq bo;clear ai bt hA;go_wp2_with fail;refine c4.mono ?_;rintro e w7 ⟨rfl,c0,a7⟩;clear c4;have a6:Hz n0 b mb v0 ss fs k env lv w R (.returned (.slice oa q oc)) w7:=by
    rw[cm];have hC:=HI.out.ck;have bc:=HI.out.stp;have b5:∀j,lvr.ownBlock=some j->n0<=j/\j<wr.heap.size:=λ j e=>hC.loc.lt e
    have h8:=HI.out.gs.since (w':=w7) ⟨a7.size,λ j hj hl=>a7.block j hl (by have:=hj.1;omega)⟩;obtain⟨bh,i1,i2⟩:=h8.row;have hl:=HI.out.len;subst hl;refine⟨lvr,oa,oc,rfl,⟨bh,i1.base' (λ j hj _=>⟨by have:=hj.1;omega,hj.2.1⟩),i2.base (λ j hj _=>⟨by have:=hj.1;omega,hj.2.1⟩)⟩,⟨(a7.block b (by have:=bc.fm.size;omega) bq).trans hC.blk,hC.hds.since (a7.since (λ j hj e=>hj.2.2 e)),c0,hC.loc.since (λ j hj=>a7.block j (b5 j hj).2 (λ e=>by have:=(b5 j hj).1;omega)),dm,ca,bq,by have:=a7.size;have:=bc.fm.size;omega⟩,bc.fm.trans a7 (λ _ _ h=>h) (λ j _ e=>AJ (AI e)),bc.lv⟩
   clear HI c0 a7 cm;go_wp2_with fail;exact bodyPost_ret (by simp[results,results77,go_sem]) rfl a6
theorem Aq5{x:Px.Ex}(hE:EOk x){n:AQ}{lv:Value}{k:Ck.Kx}{env:Ck.Env}{ls:List (List UInt8)}(h:CkS n0 b mb v0 ss fs k env ls lv w)(ho:KOk k env){row:AR}(hr:SlRow (Old n0 b mb) w 8 s1 1 row)(ha:Ai (Old n0 b mb) w [x] row)(b2 b3:Option Addr)(m2 m3 d2 d3:Nat)(nt:Value) :
  AA 115 #[pt b 0,.agg (stA 6 n s1 (.slice b2 m2 d2) (.slice b3 m3 d3) p),nt] w λ e w'=>Ax w (Ck.bind (Ck.asked (Ck.cE (k.at env) x,Ck.plc x) k.result) λ x=>.inl (CS.mk 6 0 false 0 [x] [] [])) e w':=by
 obtain⟨kk,Hk⟩:∃kk:Nat,Hid (6=kk):=⟨_,rfl⟩;have i1:((kk:Int) == 1)=false:=by rw[<-Hk.out];rfl
 have i2:((kk:Int) == 2)=false:=by rw[<-Hk.out];rfl
 have i3:((kk:Int) == 3)=false:=by rw[<-Hk.out];rfl
 have i4:((kk:Int) == 4)=false:=by rw[<-Hk.out];rfl
 have i5:((kk:Int) == 5)=false:=by rw[<-Hk.out];rfl
 have bw:Hid ((Ck.bind (Ck.asked (Ck.cE (k.at env) x,Ck.plc x) k.result) λ x=>.inl (CS.mk 6 0 false 0 [x] [] []))=(Ck.bind (Ck.asked (Ck.cE (k.at env) x,Ck.plc x) k.result) λ x=>.inl (CS.mk kk 0 false 0 [x] [] []):Ck.R CS)):=by rw[<-Hk.out];rfl
 rw[bw.out];have b5:Hid (stA 6 n s1 (.slice b2 m2 d2) (.slice b3 m3 d3) p=stA kk n s1 (.slice b2 m2 d2) (.slice b3 m3 d3) p):=by rw[<-Hk.out];rfl
 rw[b5.out];clear bw b5 Hk;obtain⟨w0,w1,cw,cu,l0,l1,cq,az,d9,c6,bx⟩:=D5 w kk n s1 (.slice b2 m2 d2) (.slice b3 m3 d3) p;have bp:=hr.since (Since.of_below az);have bl:=ha.since (Since.of_below az);have h1:=h.keep az;obtain⟨hh,aw,b6⟩:=ho.cur;obtain⟨c7,⟨ci,cg⟩,br⟩:=h1.hds;obtain⟨-,-,-,-,-,-,-,-,-,-,-,-,e3,-⟩:=br _ _ aw;have b8:k.number<k.heads.length:=(AK aw).1;rcases cg with⟨-,co⟩ | ⟨gf,of,fc,rfl,bk,bh,-,cm,ab⟩
 .omega
 have ay:=ab _ _ e3;rw[<-Nat.add_assoc] at ay;rw[b6] at ay;unfold maxLen at bh;obtain⟨g,og,cap,ka,oa,na,ta,aa,pa,ct,ch,rfl,ca,hg,rfl,⟨u0,u1,u2,u3,u4,u5,u6,u7⟩,bf,bv⟩:=Bd (args:=[x]) bp bl rfl;have hA:=λ w' (hb:Below w1 w1 w')=>B5 hE rfl (h1.keep hb).at ho.cx (bf.since (Since.of_below hb)) (bv.since (Since.of_below hb)) k.result
 obtain⟨bg,aj,rfl,-,-⟩:=bf.val;obtain⟨d0,d1,cj,cf,d4,d5,d6,d7,d8,-⟩:=Aj c6;obtain⟨c0,c1,c2,c3,c4,c5,-⟩:=Bc h1.blk;have cz:=h.hb;have cr:=h.sz;have bt:b<w1:=by omega
 obtain⟨R,HR⟩:∃R:Ck.R CS,Hid ((Ck.bind (Ck.asked (Ck.cE (k.at env) (.mk ka oa na ta aa pa),pa) k.result) λ x=>.inl (CS.mk kk 0 false 0 [x] [] []))=R):=⟨_,rfl⟩;show Calls _ _ _ _ λ e w'=>Ax w (Ck.bind (Ck.asked (Ck.cE (k.at env) (.mk ka oa na ta aa pa),pa) k.result) λ x=>.inl (CS.mk kk 0 false 0 [x] [] [])) e w'
 rw[HR.out];generalize Ck.asked (Ck.cE (k.at env) (.mk ka oa na ta aa pa),pa) k.result=C at *;have i0:(0:Int)<1:=by omega
 have cv:([Px.Ex.mk ka oa na ta aa pa]:List Px.Ex).length=1:=rfl;obtain⟨nu,bq⟩:∃nu,k.number=nu:=⟨_,rfl⟩;obtain⟨nh,bs⟩:∃nh,k.heads.length=nh:=⟨_,rfl⟩;obtain⟨ry,bo⟩:∃ry,k.result=ry:=⟨_,rfl⟩;rw[bq] at c4 ay b8;rw[bs] at b8 bk c2;rw[bo] at ay hA;have cy:(0:Int)<=(nu:Int):=by omega
 have cp:(nu:Int)<(nh:Int):=by omega
 clear hr ha hE bp bl h1 bf bv ab br ci h aw b6 e3 bq bs bo;simp only[length_cons,length_nil,Nat.zero_add] at *;have af:∀w3 k2 o2 n2 t2 s2 y2 a0 sl2 row2,Below w1 w1 w3->SlRow (From w1) w3 8 sl2 (List.length a0) row2->Ar (From w1) w3 a0 row2->C=.inl (.mk k2 o2 n2 t2 s2 y2 a0) ->
   Ax w R (.returned (.agg #[iv kk,sE,iv 0,.bool false,iv 0,sL w3 0 1 1,sZ,sZ,iv 0])) (A6 (w3.alloc (.cells #[iv k2,iv o2,iv n2,strV t2,iv s2,strV y2,sl2,iv 0] 48)) w0 (iv kk) sE (iv 0) (.bool false) (iv 0) (sL w3 0 1 1) sZ sZ (iv 0)):=by
  intro w3 k2 o2 n2 t2 s2 y2 a0 sl2 row2 ad av aq hC;have hR:R=.inl (.mk kk 0 false 0 [.mk k2 o2 n2 t2 s2 y2 a0] [] []):=by rw[<-HR.out,hC];rfl
  rw[hR];obtain⟨w8,ah⟩:∃w8,w3.alloc (.cells #[iv k2,iv o2,iv n2,strV t2,iv s2,strV y2,sl2,iv 0] 48)=w8:=⟨_,rfl⟩;have al:Below w3 w3 w8:=by rw[<-ah];exact (AF _ _).alloc (AD _) _
  have b0:SlRow (From w3) w8 8 (sL w3 0 1 1) 1 [iv k2,iv o2,iv n2,strV t2,iv s2,strV y2,sl2,iv 0]:=by rw[<-ah];exact El (AD _)
  rw[ah];have bb:=ad.size;have ar:Since (From w1) w8 (A6 w8 w0 (iv kk) sE (iv 0) (.bool false) (iv 0) (sL w3 0 1 1) sZ sZ (iv 0)):=⟨by rw[Bb];exact AD _,λ j hj _=>Au (by have:w1.heap.size<=j:=hj;omega) _ _ _ _ _ _ _ _ _⟩;have lo:∀{wx:World} j,From w1 j->j<wx.heap.size->From w j:=λ {wx} j hj _=>by have:w1.heap.size<=j:=hj;show w.heap.size<=j;omega
  have c8:∀{wx:World} j,From w3 j->j<wx.heap.size->From w1 j:=λ {wx} j hj _=>by have:w3.heap.size<=j:=hj;show w1.heap.size<=j;omega
  have ba:Below w1 w1 w8:=ad.trans (al.mono bb);exact⟨⟨_,rfl,Gl (((b0.base' c8).since ar).base' lo) (Ka (C7 (((av.since (Since.of_below al)).since ar).base' lo) (((aq.since (Since.of_below al)).since ar).base lo))) BE Aq.nil BE Aq.nil⟩,Bs (az.trans (ba.mono (by omega))) (by omega) _ _ _ _ _ _ _ _ _⟩
 have ag:∀a er wx w2,C=.inr (a,er)->Below w1 w1 wx->Below wx wx w2->Ax w R (.panicked (Ag a er)) w2:=λ a er wx w2 hC hbx a8=>by
  rw[<-HR.out,hC];exact⟨rfl,az.trans ((hbx.trans (a8.mono hbx.size)).mono (by omega))⟩
 clear HR;go_enter func115,ntmps115;go_wp2_with fail;have hS:∀w',Below w1 w1 w'->(w'.cell? ⟨w,5,none⟩=sL g og 1 cap/\w'.cell? ⟨g,og,none⟩=iv ka/\w'.cell? ⟨g,og+1,none⟩=iv oa/\w'.cell? ⟨g,og+2,none⟩=iv na/\w'.cell? ⟨g,og+3,none⟩=strV ta/\w'.cell? ⟨g,og+4,none⟩=iv 0/\w'.cell? ⟨g,og+5,none⟩=sE/\w'.cell? ⟨g,og+6,none⟩=some (.slice bg aa.length aj)/\w'.cell? ⟨g,og+7,none⟩=iv pa/\w'.cell? ⟨b,2,none⟩=sL gf of nh fc/\w'.cell? ⟨b,4,none⟩=iv nu/\w'.cell? ⟨gf,of+nu*7+3,none⟩=strV ry):=λ w' hb=>by
  obtain⟨bc,-⟩:=bcell hb;exact⟨(bc _ _ (by omega)).trans d5,(bc _ _ hg).trans u0,(bc _ _ hg).trans u1,(bc _ _ hg).trans u2,(bc _ _ hg).trans u3,(bc _ _ hg).trans u4,(bc _ _ hg).trans u5,(bc _ _ hg).trans u6,(bc _ _ hg).trans u7,(bc _ _ bt).trans c2,(bc _ _ bt).trans c4,(bc _ _ cm).trans ay⟩
 have hz:∀w',Below w1 w1 w'->w'.heap[w0.heap.size]?=some (.cells #[iv 0,sE,iv 0,.bool false,iv 0,sZ,sZ,sZ,iv 0] 46 (0,0))/\w'.cell? w=iv kk/\w.heap.size<w'.heap.size:=λ w' hb=>⟨(hb.block _ l1).trans bx,((bcell hb).1 _ _ (by omega)).trans d0,by have:=hb.size;omega⟩
 have ax:Below w1 w1 w1.drew:=(AF _ _).drew;clear d0 d1 cj cf d4 d5 d6 d7 d8 u0 u1 u2 u3 u4 u5 u6 u7 c0 c1 c2 c3 c4 c5 ay c6 bx;refine Vv.wpE_begin (S:=λ w'=>w'.cell? ⟨w,5,none⟩=sL g og 1 cap/\w'.cell? ⟨g,og,none⟩=iv ka/\w'.cell? ⟨g,og+1,none⟩=iv oa/\w'.cell? ⟨g,og+2,none⟩=iv na/\w'.cell? ⟨g,og+3,none⟩=strV ta/\w'.cell? ⟨g,og+4,none⟩=iv 0/\w'.cell? ⟨g,og+5,none⟩=sE/\w'.cell? ⟨g,og+6,none⟩=some (.slice bg aa.length aj)/\w'.cell? ⟨g,og+7,none⟩=iv pa/\w'.cell? ⟨b,2,none⟩=sL gf of nh fc/\w'.cell? ⟨b,4,none⟩=iv nu/\w'.cell? ⟨gf,of+nu*7+3,none⟩=strV ry) (N:=λ j=>decide (j<17) || j == 18) (by kernel_rfl) ?_;have a6:=hS w1.drew ax;have bu:w1.drew.heap.size<=w1.heap.size:=AD _;have bn:w1<=w1.drew.heap.size:=AD _;generalize w1.drew=wd at *;refine Aa 53 [17,19] 0 (pt b 0) a6 ?_;refine Aa 54 [2,3,4,17,19] 1 (pt w 5) a6 ?_;refine Aa 55 [3,4,17,19] 2 (sL g og 1 cap) a6 ?_;refine Aa 56 [4,17,19] 3 (pt g og) a6 ?_;refine Aa 57 [17,19] 4 (.agg (exA ka oa na ta (.slice bg aa.length aj) pa)) a6 ?_;refine Aa 58 [6,7,8,9,14,15,16,17,19] 5 (pt b 0) a6 ?_;refine Aa 59 [7,8,9,14,15,16,17,19] 6 (pt b 0) a6 ?_;refine Aa 60 [8,9,14,15,16,17,19] 7 (pt b 0) a6 ?_;refine Aa 61 [9,14,15,16,17,19] 8 (pt b 2) a6 ?_;refine Aa 62 [14,15,16,17,19] 9 (sL gf of nh fc) a6 ?_;refine Aa 63 [11,12,13,14,15,16,17,19] 10 (pt b 0) a6 ?_
 refine Aa 64 [12,13,14,15,16,17,19] 11 (pt b 0) a6 ?_;refine Aa 65 [13,14,15,16,17,19] 12 (pt b 4) a6 ?_;refine Aa 66 [14,15,16,17,19] 13 (iv nu) a6 ?_;refine Aa 67 [15,16,17,19] 14 (pt gf (of+nu*7)) a6 ?_;refine Aa 68 [16,17,19] 15 (pt gf (of+nu*7+3)) a6 ?_;refine Aa 69 [17,19] 16 (strV ry) a6 ?_;refine Vv.wpE_two (i:=17) (j:=18) (by kernel_rfl) rfl rfl rfl rfl (λ K hK=>?_) (λ K hK=>?_)
 .go_simp;refine (hA wd ax).mono ?_;rintro e w2 hP;rcases C with⟨k2,o2,n2,t2,s2,y2,a0⟩ | ⟨a,er⟩
  rotate_left
  .obtain⟨hm,a8⟩:=hP;obtain rfl:=hm;have a3:=ag a er wd w2 rfl ax a8;exact⟨rfl,a3⟩
  obtain⟨sl2,row2,rfl,ai,b7,a8⟩:=hP.inl;obtain⟨a2,c2,rfl,-,-⟩:=ai.val;have ce:=a8.size;have a7:=ax.trans (a8.mono ax.size);refine hK _ _ (λ h=>by cases h) ?_;clear hK K
  try simp only[aP]
  obtain⟨wz,w3,b4,b9,au,bb,cc,ae,a5,a4⟩:=Ca w2 (iv k2) (iv o2) (iv n2) (strV t2) (iv s2) (strV y2) (.slice a2 a0.length c2) (iv 0);have lz:w2<wz.heap.size:=by omega
  have l3:w2<w3.heap.size:=by omega
  clear bb cc;obtain⟨z0,z1,z2,z3,z4,z5,z6,z7,f0,f1,f2,f3,f4,f5,f6,f7⟩:=Ac a4;refine Ah 18 λ K hK=>?_
  go_simp;refine hK _ _ (λ _=>hS wz (a7.trans (ae.mono a7.size))) ?_;clear hK K
  try simp only[aP]
  refine Ah 19 λ K hK=>?_
  go_simp;refine hK _ _ (λ h=>by cases h) ?_;clear hK K
  try simp only[aP]
  have ad:Below w1 w1 w3:=a7.trans (au.mono a7.size);have up:∀{wx:World} j,From wd j->j<wx.heap.size->From w1 j:=λ {wx} j hj _=>by have:wd.heap.size<=j:=hj;show w1.heap.size<=j;omega
  have av:=(ai.base' up).since (Since.of_below au);have aq:=(b7.base up).since (Since.of_below au);clear z0 z1 z2 z3 z4 z5 z6 z7 f0 f1 f2 f3 f4 f5 f6 f7 a4 ae b4;refine Vv.wpE_done (by kernel_rfl) ?_;simp only[Exit.inBlock,Exit.then];refine ‹∀(a:Act) (w:World),_->_› _ _ ?_;obtain⟨q0,q1,q2,q3,q4,q5,q6,q7,-⟩:=Ac a5;obtain⟨ak,cl,cd⟩:=hz w3 ad;have a3:=af w3 k2 o2 n2 t2 s2 y2 a0 (.slice a2 a0.length c2) row2 ad av aq rfl;obtain⟨w8,ah⟩:∃w8,w3.alloc (.cells #[iv k2,iv o2,iv n2,strV t2,iv s2,strV y2,.slice a2 a0.length c2,iv 0] 48)=w8:=⟨_,rfl⟩;rw[ah] at a3;have am:w8.heap[w0.heap.size]?=some (.cells #[iv 0,sE,iv 0,.bool false,iv 0,sZ,sZ,sZ,iv 0] 46 (0,0)):=by
   have al:Below w3 w3 w8:=by rw[<-ah];exact (AF _ _).alloc (AD _) _
   exact (al.block _ (AB ak).1).trans ak
  obtain⟨r0,r1,r2,r3,r4,r5,r6,r7,r8,t0,t1,c9,t3,t4,t5,t6,t7,t8⟩:=Aj am;have bi:w0<w8.heap.size:=(AB am).1;clear af hz ag hS a6 hA ai b7 av aq a5 am ak ad a7;go_wp2_with fail;exact bodyPost_ret (by simp[results,results115,go_sem,bi,r0,r1,r2,r3,r4,r5,r6,r7,r8]) rfl a3
 .obtain⟨wz,b4⟩:∃wz,wd.alloc (.cells #[iv 0,iv 0,iv 0,sE,iv 0,sE,sZ,iv 0] 48)=wz:=⟨_,rfl⟩;have bj:Below wd wd wz:=by rw[<-b4];exact (AF _ _).alloc (AD _) _
  have ae:Below w1 w1 wz:=ax.trans (bj.mono (by omega));have a4:wz.heap[wd.heap.size]?=some (.cells #[iv 0,iv 0,iv 0,sE,iv 0,sE,sZ,iv 0] 48 (0,0)):=by rw[<-b4];exact heap_new _ _
  have lz:wd.heap.size<wz.heap.size:=(AB a4).1;go_simp;refine hK _ _ (λ _=>hS wz ae) ?_;clear hK K
  try simp only[aP]
  refine Ah 17 λ K hK=>?_
  go_simp;refine (hA wz ae).mono ?_;rintro e w2 hP;rcases C with⟨k2,o2,n2,t2,s2,y2,a0⟩ | ⟨a,er⟩
  rotate_left
  .obtain⟨hm,a8⟩:=hP;obtain rfl:=hm;have a3:=ag a er wz w2 rfl ae a8;exact⟨rfl,a3⟩
  obtain⟨sl2,row2,rfl,ai,b7,a8⟩:=hP.inl;obtain⟨a2,c2,rfl,-,-⟩:=ai.val;have ce:=a8.size;have a7:=ae.trans (a8.mono ae.size);refine hK _ _ (λ h=>by cases h) ?_;clear hK K
  try simp only[aP]
  have a9:=(a8.block _ lz).trans a4;obtain⟨z0,z1,z2,z3,z4,z5,z6,z7,f0,f1,f2,f3,f4,f5,f6,f7⟩:=Ac a9;have l2:wd<w2.heap.size:=by omega
  obtain⟨w3,b9⟩:∃w3,setc8 w2 wd (iv k2) (iv o2) (iv n2) (strV t2) (iv s2) (strV y2) (.slice a2 a0.length c2) (iv 0)=w3:=⟨_,rfl⟩;have a5:w3.heap[wd.heap.size]?=some (.cells #[iv k2,iv o2,iv n2,strV t2,iv s2,strV y2,.slice a2 a0.length c2,iv 0] 48 (0,0)):=by rw[<-b9];exact Om a9 _ _ _ _ _ _ _ _
  have l3:wd.heap.size<w3.heap.size:=(AB a5).1;refine Ah 19 λ K hK=>?_
  go_simp;refine hK _ _ (λ h=>by cases h) ?_;clear hK K
  try simp only[aP]
  have ad:Below w1 w1 w3:=by rw[<-b9];exact As a7 (by omega) _ _ _ _ _ _ _ _
  have ar:Since (From wz) w2 w3:=by rw[<-b9];exact⟨by rw[A4];exact AD _,λ j hj _=>A3 (by have:wz.heap.size<=j:=hj;omega) _ _ _ _ _ _ _ _⟩
  have up:∀{wx:World} j,From wz j->j<wx.heap.size->From w1 j:=λ {wx} j hj _=>by have:wz.heap.size<=j:=hj;show w1.heap.size<=j;omega
  have av:=(ai.since ar).base' up;have aq:=(b7.since ar).base up;clear z0 z1 z2 z3 z4 z5 z6 z7 f0 f1 f2 f3 f4 f5 f6 f7 a4 ae b4 a9 ar;refine Vv.wpE_done (by kernel_rfl) ?_;simp only[Exit.inBlock,Exit.then];refine ‹∀(a:Act) (w:World),_->_› _ _ ?_;obtain⟨q0,q1,q2,q3,q4,q5,q6,q7,-⟩:=Ac a5;obtain⟨ak,cl,cd⟩:=hz w3 ad;have a3:=af w3 k2 o2 n2 t2 s2 y2 a0 (.slice a2 a0.length c2) row2 ad av aq rfl;obtain⟨w8,ah⟩:∃w8,w3.alloc (.cells #[iv k2,iv o2,iv n2,strV t2,iv s2,strV y2,.slice a2 a0.length c2,iv 0] 48)=w8:=⟨_,rfl⟩;rw[ah] at a3;have am:w8.heap[w0.heap.size]?=some (.cells #[iv 0,sE,iv 0,.bool false,iv 0,sZ,sZ,sZ,iv 0] 46 (0,0)):=by
   have al:Below w3 w3 w8:=by rw[<-ah];exact (AF _ _).alloc (AD _) _
   exact (al.block _ (AB ak).1).trans ak
  obtain⟨r0,r1,r2,r3,r4,r5,r6,r7,r8,t0,t1,c9,t3,t4,t5,t6,t7,t8⟩:=Aj am;have bi:w0<w8.heap.size:=(AB am).1;clear af hz ag hS a6 hA ai b7 av aq a5 am ak ad a7;go_wp2_with fail;exact bodyPost_ret (by simp[results,results115,go_sem,bi,r0,r1,r2,r3,r4,r5,r6,r7,r8]) rfl a3
end
section
open Go.RowKit
open Ck (CE CS CF CP Mng)
mutual
def LnS:Px.St->Prop
 | .mk k n es b c p=>b.length<=1000000/\c.length<=1000000/\M3 b/\M3 c
def M3:List Px.St->Prop
 | []=>True
 | s :: r=>LnS s/\M3 r
end
theorem Aj8{c:Ck.Cx}{x y:Px.Ex}:Ck.arg (Ck.cEs c [x,y]) 1=(Ck.cE c y,Ck.plc y):=Ck.arg_get c _ 1 y rfl
theorem Y4{c:Ck.Cx}{x y:Px.Ex}:Ck.arg (Ck.cEs c [x,y]) 0=(Ck.cE c x,Ck.plc x):=Ck.arg_get c _ 0 x rfl
mutual
theorem Bb6:∀(s:Px.St),ShS s->LnS s->Aj7 s
 | .mk k n es body other p,hs,hn=>by
  rw[ShS] at hs;rw[LnS] at hn;obtain⟨hk,he,hb,hc⟩:=hs;have a5:S2 body:=H3 (Qg body hb hn.2.2.1) hb hn.1;have a0:S2 other:=H3 (Qg other hc hn.2.2.2) hc hn.2.1;intro n0 b mb cb nb v0 ss fs lv nv kx env ls names cs w hC ho hsc hap hl hnl his;rw[IsSt] at his;obtain⟨s1,s2,s3,r1,r2,r3,rfl,h1,h2,h3,h4,h5,h6⟩:=his;obtain⟨a2,c2,rfl,-,-⟩:=h3.val;obtain⟨a3,c3,rfl,-,-⟩:=h5.val;have a8:cb<w:=(AB hsc.cbk).1;have a4:nb<w:=(AB hsc.nbk).1;have a6:∀w',Below w w w'->Sc n0 b cb nb nv names w':=λ w' hb=>hsc.keep (λ j hj=>hb.block j (by rcases hj with rfl | rfl | e;exact a8;exact a4;exact (hsc.own.lt e).2))
  rw[Ck.cS];rcases hk with⟨rfl,e1⟩ | ⟨rfl,e1⟩ | ⟨rfl,e1⟩ | ⟨rfl,e1⟩ | ⟨rfl,e1⟩ | ⟨rfl,e1⟩
  .obtain⟨x,rfl⟩:=length_eq_one_iff.1 e1;have hE:EOk x:=Cy _ he x (by simp);simp only[if_true,Eo rfl];exact Ay0 hC hsc (λ w' hb'=>Aq2 hE (hC.keep hb') ho (a6 _ hb') hap hl hnl (h1.since (Since.of_below hb')) (h2.since (Since.of_below hb')) a2 a3 _ _ c2 c3)
  .rcases e1 with e1 | e1
   .obtain⟨x,rfl⟩:=length_eq_one_iff.1 e1;have hE:EOk x:=Cy _ he x (by simp);simp only[Nat.reduceEqDiff,if_false,if_true,Eo rfl,length_cons,length_nil,Nat.zero_add];refine (Aj6 _ (λ w' hb'=>Aq1 hE (hC.keep hb').at ho.cx (h1.since (Since.of_below hb')) (h2.since (Since.of_below hb')) a2 a3 _ _ c2 c3)).mono (λ e w' hP=>?_);have h9:=Br.of_set hC hsc hap hP;simp only[En] at h9;exact h9
   .obtain⟨x,y,rfl⟩:=Ve e1;have hE:EOk x:=Cy _ he x (by simp);have a7:EOk y:=Cy _ he y (by simp);simp only[Nat.reduceEqDiff,if_false,if_true,Y4,Aj8,length_cons,length_nil,Nat.zero_add,Nat.reduceAdd];refine (Aj6 _ (λ w' hb'=>Aj4 hE a7 (hC.keep hb').at ho.cx (h1.since (Since.of_below hb')) (h2.since (Since.of_below hb')) a2 a3 _ _ c2 c3)).mono (λ e w' hP=>?_);have h9:=Br.of_set hC hsc hap hP;simp only[En] at h9;exact h9
  .obtain⟨x,rfl⟩:=length_eq_one_iff.1 e1;have hE:EOk x:=Cy _ he x (by simp);simp only[Nat.reduceEqDiff,if_false,if_true,Eo rfl];refine (Ax9 _ (λ w' hb'=>Aq0 hE (hC.keep hb').at ho.cx (h1.since (Since.of_below hb')) (h2.since (Since.of_below hb')) a2 a3 _ _ c2 c3)).mono (λ e w' hP=>?_);have h9:=Br.of_set hC hsc hap hP;simp only[En] at h9;exact h9
  .obtain⟨x,rfl⟩:=length_eq_one_iff.1 e1;have hE:EOk x:=Cy _ he x (by simp);simp only[Nat.reduceEqDiff,if_false,if_true,Eo rfl];refine (Bb5 hE a5 a0 hC ho hl (λ a e=>(Gm body env ls a ho hl hb e).len) h1 h2 a2 a3 c2 c3 h3 h4 h5 h6 _).mono (λ e w' hP=>?_);exact Br.of_lp hC hsc hap (λ r e=>by
    obtain⟨_,-,e⟩:=Ao e;obtain⟨_,-,e⟩:=Ao e;obtain⟨_,-,e⟩:=Ao e;cases e;rfl) hP
  .obtain⟨x,rfl⟩:=length_eq_one_iff.1 e1;have hE:EOk x:=Cy _ he x (by simp);simp only[Nat.reduceEqDiff,if_false,if_true,Eo rfl];refine (Aq3 hC _ (λ w' hb'=>Aj5 hE a5 (hC.keep hb') ho hl (h1.since (Since.of_below hb')) (h2.since (Since.of_below hb')) a2 a3 _ c2 c3 (h3.since (Since.of_below hb')) (h4.since (Since.of_below hb')))).mono (λ e w' hP=>?_);exact Br.of_lp hC hsc hap (λ r e=>by
    obtain⟨_,-,e⟩:=Ao e;obtain⟨_,-,e⟩:=Ao e;obtain⟨_,-,e⟩:=Ao e;cases e;rfl) hP
  .obtain⟨x,rfl⟩:=length_eq_one_iff.1 e1;have hE:EOk x:=Cy _ he x (by simp);simp only[Nat.reduceEqDiff,if_false,if_true,Eo rfl];refine (Aq5 hE hC ho h1 h2 a2 a3 _ _ c2 c3 _).mono (λ e w' hP=>?_);have h9:=Br.of_set hC hsc hap hP;simp only[En] at h9;exact h9
theorem Qg:∀(l:List Px.St),H0 l->M3 l->∀s∈l,Aj7 s
 | [],_,_=>λ s hs=>by cases hs
 | x :: r,h,hn=>by
  rw[H0] at h;rw[M3] at hn;have h1:=Bb6 x h.1 hn.1;have h2:=Qg r h.2 hn.2;intro s hs;rcases mem_cons.1 hs with rfl | hs
  .exact h1
  .exact h2 s hs
end
theorem Bb7{l:List Px.St}(h:H0 l)(hn:M3 l)(hl:l.length<=1000000):S2 l:=H3 (Qg l h hn) h hl
end
section
open Go.RowKit
open Ck (CE CS CF CP Mng)
attribute [local go_sem ↓] Go.wp_at_zero Go.wp_at_succ
structure FnI(n0 b mb cb nb m:Nat)(v0 ss fs:Value)(k:Ck.Kx)(env:Ck.Env)(w:World)(l:List Px.Sl)(C:Ck.R (Ck.Env × List (List UInt8)))(q:Nat)(lvr nvr:Value)(more:Ck.Env)(lsr:List (List UInt8))(wr:World):Prop where
 stp:Stp b mb sZ w lvr wr
 ck:CkS n0 b mb v0 ss fs k (env ++ more) lsr lvr wr
 sc:Sc n0 b cb nb nvr (more.map Prod.fst) wr
 ap:Apart lvr nvr cb nb
 lv:∀j,lvr.ownBlock=some j->m<=j
 nv:∀j,nvr.ownBlock=some j->m<=j
 grow:Grow k env [] (env ++ more) lsr
 sz:m<=wr
 ans:C=Ck.locs (env ++ more) lsr (l.drop q)
abbrev S5(b mb gf:Nat):Nat->Prop:=λ j=>j=b\/j=mb\/j=gf
def Qh(b mb gf:Nat)(v0 ss fs:Value)(cur:Array Value)(env:Ck.Env)(i:Nat)(w:World)(r:Ck.R CF)(e:Ending)(w':World):Prop:=
 match r with
 | .inl x=>∃lv9 a9 c9,e=.returned (.tuple #[])/\w'.heap[b]?=some (.cells #[v0,ss,fs,.map (some mb),iv i,lv9] 62 (0,0))/\A9 w' mb env/\w'.heap[gf]?=some (.cells ((cur.setIfInBounds (i*7+5) (.slice a9 x.body.length c9)).setIfInBounds (i*7+4) lv9) 36 (0,0))/\Hi (From w) w' x.locals lv9/\Ew (From w) w' x.body (.slice a9 x.body.length c9)/\Fm (S5 b mb gf) w w'
 | .inr (a,er)=>e=.panicked (Ag a er)/\Fm (S5 b mb gf) w w'
theorem Aj9{l:List (List UInt8)}(h:Strs n0 w v l):Hi (From n0) w l v:=by
 obtain⟨h1,h2⟩:=h;refine⟨by simp,?_⟩;rcases h2 with⟨h3,h4⟩ | ⟨g,cap,cur,h3,h4,h5,h6,h7,h8,h9⟩
 .exact AI ⟨h3,h4⟩
 .refine AJ ⟨g,0,cap,h3,h6,h7,h4,(AB h5).1,λ j u hj=>?_⟩;rw[Be h5,Nat.zero_add];rw[<-h9,List.getElem?_take] at hj;split at hj
  .simpa using hj
  .cases hj
theorem Kr{B:AS}{l:List Px.Sl}(h:Et B w l v){s:Px.Sl}(hi:l[i]?=s):∃g o cap,v=sL g o l.length cap/\B g/\g<w.heap.size/\w.cell? ⟨g,o+i*3,none⟩=strV s.name/\w.cell? ⟨g,o+i*3+1,none⟩=strV s.type/\w.cell? ⟨g,o+i*3+2,none⟩=iv s.place:=by
 have a0:=(AK hi).1;obtain⟨g,o,cap,e,-,-,hB,hg,hc⟩:=SlRow.cells h (by omega);have e0:l.flatMap Bh=(l.take i).flatMap Bh ++ (Bh s ++ (l.drop (i+1)).flatMap Bh):=by
  have:l=l.take i ++ s :: l.drop (i+1):=by
   obtain⟨h1,rfl⟩:=AK hi;rw[<-drop_eq_getElem_cons h1,take_append_drop]
  conv=>lhs;rw[this]
  simp
 have e1:((l.take i).flatMap Bh).length=i*3:=by
  have:∀m:List Px.Sl,(m.flatMap Bh).length=m.length*3:=λ m=>by
   induction m with
   | nil=>rfl
   | cons a r ih=>rw[flatMap_cons,length_append,ih];simp[Bh];omega
  rw[this,length_take,Nat.min_eq_left (by omega)]
 have e2:∀j u,(Bh s)[j]?=some u->w.cell? ⟨g,o+(i*3+j),none⟩=some u:=λ j u hj=>hc _ _ (by
  rw[e0,List.getElem?_append_right (by omega),e1,Nat.add_sub_cancel_left,List.getElem?_append_left (List.getElem?_eq_some_iff.1 hj).1];exact hj)
 exact⟨g,o,cap,e,hB,hg,by have:=e2 0 _ rfl;simpa using this,by rw[Nat.add_assoc];exact e2 1 _ rfl,by rw[Nat.add_assoc];exact e2 2 _ rfl⟩
theorem Qi{f:Px.Fn}(ee:S2 f.body){gf num nf fc:Nat}{lv0:Value}{env:Ck.Env}{hs:List Ck.Hd}{cur:Array Value}
  (hblk:w.heap[b]?=some (.cells #[v0,ss,sL gf 0 nf fc,.map (some mb),iv num,lv0] 62 (0,0)))
  (henv:A9 w mb env) (hrow:w.heap[gf]?=some (.cells cur 36 (0,0))) (hcur:nf*7<=cur.size)
  (hds:Qf (λ j=>j<w.heap.size/\j≠b/\j≠mb) w hs (sL gf 0 nf fc)) (hnf:hs.length=nf) (hnc:nf<=fc/\fc<=9223372036854775807) (hi:i<nf) (hhd:hs[i]?=some (Ck.hd f))
  (hf:Ey (λ j=>j<w.heap.size/\j≠b/\j≠mb/\j≠gf) w f cs) (ho:KOk ⟨i,hs,f.result⟩ env) (hty:∀s∈f.params,s.type.length<=1000) (hbm:b≠mb) (hbg:b≠gf) (hmg:mb≠gf) :
  AA 47 #[pt b 0,iv i,.agg cs.toArray] w λ e w'=>Qh b mb gf v0 ss (sL gf 0 nf fc) cur env i w (Ck.fn hs env i f) e w':=by
 obtain⟨ps,bs,rfl,dr,da,d7,eo⟩:=hf;obtain⟨pa,pc,rfl,eu,ev⟩:=SlRow.val dr;obtain⟨ba,bc,rfl,-,-⟩:=d7.val;have hb:b<w:=(AB hblk).1;have hm:mb<w:=henv.lt;have hg:gf<w:=(AB hrow).1;obtain⟨R,HR⟩:∃R:Ck.R CF,Hid (Ck.fn hs env i f=R):=⟨_,rfl⟩;rw[HR.out];obtain⟨w0,df⟩:∃w0,w.alloc (.cells #[strV f.name,.bool f.on,.slice pa f.params.length pc,strV f.result,sZ,.slice ba f.body.length bc,iv f.place] 36)=w0:=⟨_,rfl⟩;have db:Below w w w0:=by rw[<-df];exact (AF _ _).alloc (AD _) _
 have l0:w.heap.size<w0.heap.size:=by rw[<-df];simp
 have eg:w0.heap[w.heap.size]?=some (.cells #[strV f.name,.bool f.on,.slice pa f.params.length pc,strV f.result,sZ,.slice ba f.body.length bc,iv f.place] 36 (0,0)):=by rw[<-df];exact heap_new _ _
 have ay:=(db.block _ hb).trans hblk;obtain⟨w1,dw⟩:∃w1,w0.setCell ⟨b,4,none⟩ (iv i)=w1:=⟨_,rfl⟩;obtain⟨w2,e8⟩:∃w2,w1.setCell ⟨b,5,none⟩ sZ=w2:=⟨_,rfl⟩;have aj:Fm (λ j=>j=b) w0 w1:=by rw[<-dw];exact Fm.set (X:=λ j=>j=b) rfl 4 _
 have a8:Fm (λ j=>j=b) w1 w2:=by rw[<-e8];exact Fm.set (X:=λ j=>j=b) rfl 5 _
 have ak:w1.heap[b]?=some (.cells #[v0,ss,sL gf 0 nf fc,.map (some mb),iv i,lv0] 62 (0,0)):=by rw[<-dw];simp[World.setCell,Array.getElem?_modify,ay]
 have b9:w2.heap[b]?=some (.cells #[v0,ss,sL gf 0 nf fc,.map (some mb),iv i,sZ] 62 (0,0)):=by rw[<-e8];simp[World.setCell,Array.getElem?_modify,ak]
 have gu:w0<=w2.heap.size:=AP aj.size a8.size;have az:Fm (λ j=>j=b) w w2:=((Fm.of_below (X:=λ _=>False) db).trans aj (λ _ _ h=>h.elim) (λ _ _ h=>h)).trans a8 (λ _ _ h=>h) (λ _ _ h=>h);have f1:Since (λ j=>j<w.heap.size/\j≠b/\j≠mb) w w2:=az.since (λ j hj e=>hj.2.1 e);have bx:Since (λ j=>j<w.heap.size/\j≠b/\j≠mb/\j≠gf) w w2:=az.since (λ j hj e=>hj.2.1 e);have ed:w2.heap[w.heap.size]?=some (.cells #[strV f.name,.bool f.on,.slice pa f.params.length pc,strV f.result,sZ,.slice ba f.body.length bc,iv f.place] 36 (0,0)):=(a8.block _ (by have:=aj.size;omega) (by omega)).trans ((aj.block _ l0 (by omega)).trans eg);have cl:A9 w2 mb env:=henv.since (az.block _ hm (by omega));have ce:w2.heap[gf]?=some (.cells cur 36 (0,0)):=(az.block _ hg (by omega)).trans hrow;have ch:CkS w2 b mb v0 ss (sL gf 0 nf fc) ⟨i,hs,f.result⟩ env [] sZ w2:=
  ⟨b9,by
   obtain⟨bg,d1,d2⟩:=hds.since f1;refine⟨bg,d1.base' (λ j hj _=>⟨by have:=az.size;omega,hj.2⟩),λ i' h' hi'=>?_⟩;obtain⟨nm,ps,la,ln,lc,ba,bn,bc,pl,a1,a2,a3,a4,a5,a6,a7,cj,p1,p2⟩:=d2 i' h' hi';exact⟨nm,ps,la,ln,lc,ba,bn,bc,pl,a1,a2,a3,a4,a5,a6,a7,cj,p1.base' (λ j hj _=>⟨by have:=az.size;omega,hj.2⟩),p2⟩,cl,Strs.nil _ _,by omega,by omega,hbm,AD _⟩
 obtain⟨et,⟨fb,fa⟩,dn⟩:=ch.hds;obtain⟨nm',ep,g6,fp,gn,fu,gi,fx,gg,-,-,e2,-,e4,e5,-,cj,cy,e7⟩:=dn _ _ hhd;obtain⟨f4,bj,rfl,-,-⟩:=cy.val;rcases fa with⟨f7,-⟩ | ⟨gc,gj,ft,e9,-,-,-,-,au⟩
 .cases f7
 simp only[Value.slice.injEq,Option.some.injEq,Addr.mk.injEq] at e9;obtain⟨⟨rfl,rfl,-⟩,-,rfl⟩:=e9;have ek:=au _ _ e2;rw[Nat.zero_add] at ek;have fq:(Ck.hd f).params.length=f.params.length:=by simp[Ck.hd]
 have ax:∀j s,f.params[j]?=some s->∃gp op,f4=some ⟨gp,op,none⟩/\gp<w2.heap.size/\gp≠b/\gp≠mb/\w2.cell? ⟨gp,op+j*3+1,none⟩=strV s.type:=λ j s hj=>by
  have e6:=(AK hj).1;obtain⟨gp,op,cp,q1,-,-,q2,q3,q4⟩:=cy.cells (by omega);simp only[Value.slice.injEq] at q1;refine⟨gp,op,q1.1,q3,q2.2.1,q2.2.2,?_⟩;rw[Nat.add_assoc];exact q4 _ _ (e7 j _ (by simp[Ck.hd,hj]))
 have em:=G3 (n0:=w2.heap.size) (b:=b) (w:=w2) (AD _);have cr:Hid (R=Ck.bind (Ck.locs env [] f.params) λ e=>Ck.bind (Ck.cSs ⟨i,hs,f.result⟩ e.1 e.2 f.body) λ a=>.inl ⟨f.name,f.on,Ck.slots f.params,f.result,a.2.2,a.1⟩):=HR.out.symm;obtain⟨C,HC⟩:∃C,Hid (Ck.locs env [] f.params=C):=⟨_,rfl⟩;rw[HC.out] at cr;obtain⟨d0,d1,d2,d3,d4,d5,d6,-⟩:=Cd ed;obtain⟨g0,g1,g2,g3,g4,g5,h0,h1,h2,h3,h4,h5⟩:=Bc ay;obtain⟨k0,k1,k2,k3,k4,k5,m0,m1,m2,m3,m4,m5⟩:=Bc ak;obtain⟨n0,n1,n2,n3,n4,n5,-⟩:=Bc b9;have g8:b<w0:=by omega
 have g9:b<w1:=by have:=aj.size;omega
 have gz:b<w2:=by omega
 have lx2:w<w2.heap.size:=by omega
 have h7:(i:Int)<(nf:Int):=by omega
 have fv:(0:Int)<=(i:Int):=by omega
 have av:=λ (j:Nat) (s:Px.Sl) (hj:f.params[j]?=s)=>Kr dr hj
 have b3:∀lv' w',Stp b mb sZ w2 lv' w'->∀j,j<w2.heap.size->j≠b->j≠mb->w'.heap[j]?=w2.heap[j]?:=λ lv' w' s j hj h1 h2=>(s.block hj h1 h2 (by simp[Value.ownBlock])).1
 replace hds:=Bu hds;have fj:w<=w2.heap.size:=by omega
 clear dn au fb e7 e2 e4 e5 eg db ay ak aj a8 cy HR;go_enter func47,ntmps47;go_wp2_with fail;refine em.mono ?_;rintro e w3 ⟨cb,nb,rfl,eq,gb,ds,bv⟩;clear em g0 g1 g2 g3 g4 g5 h0 h1 h2 h3 h4 h5 k0 k1 k2 k3 k4 k5 m0 m1 m2 m3 m4 m5 n0 n1 n2 n3 n4 n5;have ej:Hid (FnI w2 b mb cb nb w2 v0 ss (sL gf 0 nf fc) ⟨i,hs,f.result⟩ env w2 f.params C 0 sZ sZ [] [] w3):=by
  refine⟨BF bv,by rw[append_nil];exact ch.keep bv,eq,⟨by simp[Value.ownBlock],by simp[Value.ownBlock],λ j e=>by cases e⟩,λ j e=>(by cases e),λ j e=>(by cases e),by rw[append_nil];exact Grow.refl ho (by simp),bv.size,?_⟩;rw[append_nil,drop_zero];exact HC.out.symm
 have fk:=bv.size;obtain⟨dv,-⟩:=bcell bv;have fd:=(dv _ _ lx2).trans d2;have f5:w<w3.heap.size:=by omega
 clear dv d0 d1 d2 d3 d4 d5 d6 HC;go_wp2_with fail
 go_loopg [33] f.params.length (λ gh ii wr=>∃q lvr nvr more lsr,q<=f.params.length/\gh=f.params.length - q/\ii=iv q/\Hid (FnI w2 b mb cb nb w2 v0 ss (sL gf 0 nf fc) ⟨i,hs,f.result⟩ env w2 f.params C q lvr nvr more lsr wr))
 case atStart=>exact⟨0,_,_,[],[],AO _,rfl,rfl,ej⟩
 case round=>
  obtain⟨q,lvr,nvr,more,lsr,hq,rfl,rfl,HI⟩:=hrel;clear ej fd f5;have b0:=HI.out.stp;have fr:=HI.out.sz;by_cases e6:q<f.params.length
  .have d8:(q:Int)<(f.params.length:Int):=by omega
   have gw:(0:Int)<=(q:Int):=by omega
   obtain⟨s,cq⟩:∃s,f.params[q]?=some s:=⟨_,AN e6⟩;obtain⟨ga,oa,ca,ea,ct,ew,u0,u1,u2⟩:=av q s cq;simp only[Value.slice.injEq] at ea;obtain⟨rfl,-,rfl⟩:=ea;obtain⟨gp,op,rfl,f0,cv,dc,b4⟩:=ax q s cq;have b5:=b3 _ _ b0 ga (by omega) ct.2.1 ct.2.2.1;have b7:=az.block ga ew ct.2.1;replace u0:=(Ak (b5.trans b7)).trans u0;replace u1:=(Ak (b5.trans b7)).trans u1;replace u2:=(Ak (b5.trans b7)).trans u2;replace b4:=(Ak (b3 _ _ b0 gp f0 cv dc)).trans b4;have bu:=(Ak (b3 _ _ b0 gf (by omega) (by omega) (by omega))).trans ek;have ff:ga<wr:=by omega
   obtain⟨w5,dh⟩:∃w5,wr.alloc (.cells #[sE,sE,iv 0] 40)=w5:=⟨_,rfl⟩;obtain⟨w6,d9⟩:∃w6,((w5.setCell wr (strV s.name)).setCell ⟨wr,1,none⟩ (strV s.type)).setCell ⟨wr,2,none⟩ (iv s.place)=w6:=⟨_,rfl⟩;have du:Below wr wr w5:=by rw[<-dh];exact (AF _ _).alloc (AD _) _
   have cu:w5.heap[wr.heap.size]?=some (.cells #[sE,sE,iv 0] 40 (0,0)):=by rw[<-dh];exact heap_new _ _
   have l5:wr<w5.heap.size:=(AB cu).1;have c2:Below wr wr w6:=by rw[<-d9];exact ((du.setCell (p:=⟨wr,0,none⟩) (AD _) _).setCell (p:=⟨wr,1,none⟩) (AD _) _).setCell (p:=⟨wr,2,none⟩) (AD _) _
   have dj:w6.heap[wr.heap.size]?=some (.cells #[strV s.name,strV s.type,iv s.place] 40 (0,0)):=by rw[<-d9];simp[World.setCell,Array.getElem?_modify,cu]
   have l6:wr<w6.heap.size:=(AB dj).1;obtain⟨y0,y1,y2,z0,z1,z2⟩:=Az cu;obtain⟨ec,fi,ef,-⟩:=Az dj;obtain⟨dl,-⟩:=bcell c2;have c6:=(dl gf (i*7+2) (by omega)).trans bu;have p6:=(dl gp (op+q*3+1) (by omega)).trans b4;have bo:=HI.out.grow;have c1:more.length<=32:=by
    obtain⟨m2,e1,e2,-⟩:=bo.more;have:=append_cancel_left e1;subst this;have:=bo.len;simp at e2;omega
   have cc:=HI.out.ck.keep c2;have cm:Sc w2 b cb nb nvr (more.map Prod.fst) w6:=HI.out.sc.keep (λ j hj=>c2.block j (by
    rcases hj with rfl | rfl | e
    .exact (AB HI.out.sc.cbk).1
    .exact (AB HI.out.sc.nbk).1
    .exact (HI.out.sc.own.lt e).2))
   have hL:=Jl (w:=w6.drew) (cc.keep (AF _ _).drew) bo.ok.eok (cm.keep (λ j hj=>rfl)) HI.out.ap bo.len (by simp;omega) s.name s.place 3 0 s.type;have b8:f.params.drop q=s :: f.params.drop (q+1):=by
    obtain⟨hi,rfl⟩:=AK cq;exact drop_eq_getElem_cons hi
   have bl:Hid (C=Ck.bind (Ck.loc (env ++ more) lsr s.name s.place 3 s.type) λ e=>Ck.locs e.1 e.2 (f.params.drop (q+1))):=by
    show _=_;rw[HI.out.ans,b8,Ck.locs]
   have co:∀r,Ck.loc (env ++ more) lsr s.name s.place 3 s.type=.inl r->Grow ⟨i,hs,f.result⟩ (env ++ more) lsr r.1 r.2/\r.1=(env ++ more) ++ [(s.name,⟨3,lsr.length,s.type⟩)]:=λ r e=>⟨Grow.loc bo.ok (by decide) (hty s (mem_of_getElem? cq)) e,Kq e⟩
   replace co:=Bu co;generalize Ck.loc (env ++ more) lsr s.name s.place 3 s.type=D at *;have ad:Stp b mb sZ w2 lvr w6:=b0.trans (BF c2);have gr:=c2.size;replace b3:=Bu b3;replace av:=Bu av;replace ax:=Bu ax;clear cu du dj b8 cc cm bo c1 ct b5 b7 b4 bu;go_wp2_with fail;refine Vv.wpE_begin (S:=λ w'=>w'.cell? wr=strV s.name/\w'.cell? ⟨wr,2,none⟩=iv s.place/\w'.cell? ⟨gf,i*7+2,none⟩=some (.slice (some ⟨gp,op,none⟩) (Ck.hd f).params.length bj)/\w'.cell? ⟨gp,op+q*3+1,none⟩=strV s.type) (N:=λ j=>decide (j<15)) (by kernel_rfl) ?_;have ab:w6.drew.cell? wr=strV s.name/\w6.drew.cell? ⟨wr,2,none⟩=iv s.place/\w6.drew.cell? ⟨gf,i*7+2,none⟩=some (.slice (some ⟨gp,op,none⟩) (Ck.hd f).params.length bj)/\w6.drew.cell? ⟨gp,op+q*3+1,none⟩=strV s.type:=⟨ec,ef,c6,p6⟩;refine Aa 38 [15] 0 (pt b 0) ab ?_;refine Aa 39 [15] 1 (.func (.func 112) #[] #[pt cb 0,pt nb 0]) ab ?_;refine Aa 40 [3,15] 2 (pt wr 0) ab ?_;refine Aa 41 [15] 3 (strV s.name) ab ?_;refine Aa 42 [5,15] 4 (pt wr 2) ab ?_;refine Aa 43 [15] 5 (iv s.place) ab ?_;refine Aa 44 [7,8,9,11,12,13,14,15] 6 (pt gf (i*7)) ab ?_;refine Aa 45 [8,9,11,12,13,14,15] 7 (pt gf (i*7)) ab ?_;refine Aa 46 [9,11,12,13,14,15] 8 (pt gf (i*7+2)) ab ?_;refine Aa 47 [11,12,13,14,15] 9 (.slice (some ⟨gp,op,none⟩) (Ck.hd f).params.length bj) ab ?_
   refine Aa 48 [11,12,13,14,15] 10 (iv q) ab ?_;refine Aa 49 [12,13,14,15] 11 (pt gp (op+q*3)) ab ?_;refine Aa 50 [13,14,15] 12 (pt gp (op+q*3+1)) ab ?_;refine Aa 51 [14,15] 13 (strV s.type) ab ?_;refine Aa 52 [15] 14 (.agg #[iv 3,iv 0,strV s.type]) ab ?_;refine Ah 15 λ K hK=>?_
   go_simp;refine hL.mono ?_;rintro e w7 hP;clear hL ab;have b6:∀j,nvr.ownBlock=some j->w2.heap.size<=j:=HI.out.nv;have aq:Stp b mb sZ w2 lvr w6.drew:=⟨⟨ad.fm.os,ad.fm.tape,ad.fm.output,ad.fm.size,ad.fm.block⟩,ad.lv⟩;rcases D with⟨env',ls'⟩ | ⟨a,er⟩
   rotate_left
   .obtain⟨hm,hF⟩:=hP;obtain rfl:=hm;have aa:Qh b mb gf v0 ss (sL gf 0 nf fc) cur env i w R (.panicked (Ag a er)) w7:=by
     rw[cr.out,bl.out];exact⟨rfl,az.trans (aq.turn ds b6 hF (λ j e=>AI e)).fm (λ j _ e=>AI e) (λ j _ e=>by
      rcases e with e | e | e
      .exact AI e
      .exact AJ (AI e)
      .cases e)⟩
    exact⟨rfl,aa⟩
   obtain⟨lv',eh,rfl,eb,dt,el,de,ci,c4⟩:=hP;refine hK _ _ (λ h=>by cases h) ?_;clear hK K
   try simp only[aP]
   refine Vv.wpE_done (by kernel_rfl) ?_;obtain⟨en,dk⟩:=co.out _ rfl;have bh:=aq.turn ds b6 de ci;have f8:w6<=w7.heap.size:=de.size;have dd:Hid (FnI w2 b mb cb nb w2 v0 ss (sL gf 0 nf fc) ⟨i,hs,f.result⟩ env w2 f.params C (q+1) lv' eh (more ++ [(s.name,⟨3,lsr.length,s.type⟩)]) ls' w7):=by
    simp only at dk;subst dk;refine⟨bh,by rw[<-append_assoc];exact eb,by rw[map_append];exact dt,el,λ j e=>?_,λ j e=>?_,by rw[<-append_assoc];exact HI.out.grow.trans en,by omega,?_⟩
    .rcases bh.lv j e with e | e
     .cases e
     .exact e
    .rcases c4 j e with e | e
     .exact b6 j e
     .have:w6.heap.size<=j:=e;omega
    .rw[bl.out,<-append_assoc];rfl
   clear eb dt el de ci c4 en dk bh aq bl co HI ad b6 ec fi ef c6 p6 d9 dh y0 y1 y2 z0 z1 z2 u0 u1 u2;simp only[Exit.inBlock,Exit.then];refine ‹∀(a:Act) (w:World),_->_› _ _ ?_;go_wp2_with fail;go_roundg (f.params.length - (q+1))
   case measure=>omega
   case rel=>exact⟨q+1,lv',eh,_,ls',by omega,rfl,by go_num,dd⟩
  .have d8:¬(q:Int)<(f.params.length:Int):=by omega
   have bl:C=.inl (env ++ more,lsr):=by
    rw[HI.out.ans,drop_of_length_le (by omega)];rfl
   have cw:Hid (R=Ck.bind (Ck.cSs ⟨i,hs,f.result⟩ (env ++ more) lsr f.body) λ a=>.inl ⟨f.name,f.on,Ck.slots f.params,f.result,a.2.2,a.1⟩):=by
    show _=_;rw[cr.out,bl];rfl
   clear bl cr;have bk:∀y∈env,∀x∈more,y.1≠x.1:=by
    obtain⟨m2,e1,-,e3⟩:=HI.out.grow.more;have:=append_cancel_left e1;subst this;exact e3
   replace bk:=Bu bk;have cz:Since (Old w2 b mb) w2 wr:=b0.fm.since (λ j hj e=>by
    rcases e with e | e | e
    .exact hj.2.1 e
    .exact hj.2.2 e
    .cases e)
   have dy:∀{wx:World} j,(j<w.heap.size/\j≠b/\j≠mb/\j≠gf)->j<wx.heap.size->Old w2 b mb j:=λ {wx} j hj _=>⟨by have:=hj.1;omega,hj.2.1,hj.2.2.1⟩
   have bb:=ee w2 b mb v0 ss (sL gf 0 nf fc) ⟨i,hs,f.result⟩ (env ++ more) lsr lvr (.slice ba f.body.length bc) da wr HI.out.ck HI.out.grow.ok HI.out.grow.len (((d7.since bx).base' dy).since cz) (((eo.since bx).base (λ j hj=>⟨by have:=hj.1;omega,hj.2.1,hj.2.2.1⟩)).since cz);generalize Ck.cSs ⟨i,hs,f.result⟩ (env ++ more) lsr f.body=E at *;have dx:=(b3 _ _ b0 w lx2 (by omega) (by omega)).trans ed;obtain⟨d0,d1,d2,d3,d4,d5,d6,-⟩:=Cd dx;have fy:w<wr.heap.size:=by omega
   have bf:=(b3 _ _ b0 gf (by omega) (by omega) (by omega)).trans ce;replace b3:=Bu b3;replace av:=Bu av;replace ax:=Bu ax;clear ee cz dy d7 eo d0 d1 d2 d3 d4 d6;go_wp2_with fail;refine bb.mono ?_;rintro e w9 hP;clear bb d5;rcases E with⟨xs,ex,ls9⟩ | ⟨a,er⟩
   rotate_left
   .obtain⟨hm,hF⟩:=hP;obtain rfl:=hm;have aa:Qh b mb gf v0 ss (sL gf 0 nf fc) cur env i w R (.panicked (Ag a er)) w9:=by
     rw[cw.out];exact⟨rfl,az.trans (b0.trans ⟨hF,λ j h=>AI h⟩:Stp b mb sZ w2 lvr w9).fm (λ j _ e=>AI e) (λ j _ e=>by
      rcases e with e | e | e
      .exact AI e
      .exact AJ (AI e)
      .cases e)⟩
    exact⟨rfl,aa⟩
   obtain⟨gv,a9,c9,rfl,dq,c8,bw,bt⟩:=hP;obtain⟨c3,c0,rfl,-,-⟩:=c8.loc.slice;have h6:=bw.size;have f6:∀j,lvr.ownBlock=some j->w2.heap.size<=j:=HI.out.lv;have br:Stp b mb sZ w2 (.slice c3 ls9.length c0) w9:=b0.trans ⟨bw,bt⟩;have ah:=(bw.block gf (by omega) (by rintro (e | e | e);omega;omega;have:=f6 gf e;omega)).trans bf;have bp:Sc w2 b cb nb nvr (more.map Prod.fst) w9:=HI.out.sc.keep (λ j hj=>bw.block j (by
    rcases hj with rfl | rfl | e
    .exact (AB HI.out.sc.cbk).1
    .exact (AB HI.out.sc.nbk).1
    .exact (HI.out.sc.own.lt e).2) (by
    rintro (e | e | e)
    .rcases hj with rfl | rfl | e2
     .omega
     .omega
     .have:=HI.out.nv j e2;omega
    .rcases hj with rfl | rfl | e2
     .omega
     .omega
     .have:=HI.out.nv j e2;omega
    .rcases hj with rfl | rfl | e2
     .exact HI.out.ap.c e
     .exact HI.out.ap.n e
     .exact HI.out.ap.v j e e2))
   have ey:i*7+5<cur.size:=by omega
   have fh:i*7+4<cur.size:=by omega
   have gm:gf<w9:=by omega
   obtain⟨w10,c7⟩:∃w10,w9.setCell ⟨gf,i*7+5,none⟩ (.slice a9 xs.length c9)=w10:=⟨_,rfl⟩;obtain⟨w11,cf⟩:∃w11,w10.setCell ⟨gf,i*7+4,none⟩ (.slice c3 ls9.length c0)=w11:=⟨_,rfl⟩;have ai:Fm (λ j=>j=gf) w9 w10:=by rw[<-c7];exact Fm.set (X:=λ j=>j=gf) rfl _ _
   have bi:Fm (λ j=>j=gf) w10 w11:=by rw[<-cf];exact Fm.set (X:=λ j=>j=gf) rfl _ _
   have a0:w10.heap[gf]?=some (.cells (cur.setIfInBounds (i*7+5) (.slice a9 xs.length c9)) 36 (0,0)):=by rw[<-c7];simp[World.setCell,Array.getElem?_modify,ah]
   have aw:w11.heap[gf]?=some (.cells ((cur.setIfInBounds (i*7+5) (.slice a9 xs.length c9)).setIfInBounds (i*7+4) (.slice c3 ls9.length c0)) 36 (0,0)):=by rw[<-cf];simp[World.setCell,Array.getElem?_modify,a0]
   have r5:w9.cell? ⟨gf,i*7+5,none⟩=cur[i*7+5]:=by rw[Be ah];exact Array.getElem?_eq_getElem ey
   have gk:w9.frozen? ⟨gf,i*7+5,none⟩=false:=by simp[World.frozen?,ah]
   have r4:w10.cell? ⟨gf,i*7+4,none⟩=cur[i*7+4]:=by rw[Be a0,Array.getElem?_setIfInBounds_ne (by omega)];exact Array.getElem?_eq_getElem fh
   have gy:w10.frozen? ⟨gf,i*7+4,none⟩=false:=by simp[World.frozen?,a0]
   have f2:gf<w10:=by have:=ai.size;omega
   have f9:b<w9:=by omega
   have af:=(ai.block b f9 hbg).trans c8.blk;have ae:=(bi.block b (by have:=ai.size;omega) hbg).trans af;obtain⟨-,-,-,-,-,c5,-⟩:=Bc af;have ez:b<w10:=by have:=ai.size;omega
   have ar:Fm (λ j=>j=gf) w9 w11:=ai.trans bi (λ _ _ h=>h) (λ _ _ h=>h);have fg:mb<w9:=by omega
   have am:A9 w11 mb (env ++ more):=c8.env.since (ar.block mb fg hmg);have cd:Sc w2 b cb nb nvr (more.map Prod.fst) w11:=bp.keep (λ j hj=>ar.block j (by
    rcases hj with rfl | rfl | e
    .exact (AB bp.cbk).1
    .exact (AB bp.nbk).1
    .exact (bp.own.lt e).2) (by
    rintro rfl;rcases hj with e | e | e
    .omega
    .omega
    .have:=HI.out.nv _ e;omega))
   have dm:=Hx ae am cd (by omega) hbm bk.out;have f3:w9<=w11.heap.size:=ar.size;have e0:Hid (R=.inl ⟨f.name,f.on,Ck.slots f.params,f.result,ls9,xs⟩):=cw.out;have bq:Fm (S5 b mb gf) w w9:=az.trans br.fm (λ j _ e=>AI e) (λ j _ e=>by
    rcases e with e | e | e
    .exact AI e
    .exact AJ (AI e)
    .cases e)
   have ag:=c8.loc;clear HI c8 bw bt br ah bp cd am a0 ai bi bf dx b0 cw af;go_wp2_with fail;refine dm.mono ?_;rintro e w12 ⟨rfl,cg,a8⟩;clear dm;have aa:Qh b mb gf v0 ss (sL gf 0 nf fc) cur env i w R (.returned (.tuple #[])) w12:=by
    rw[e0.out];have al:Fm (λ j=>j=gf\/j=mb) w9 w12:=ar.trans a8 (λ _ _ h=>AI h) (λ _ _ h=>AJ h);have dz:∀j,w2.heap.size<=j->j<w9.heap.size->w12.heap[j]?=w9.heap[j]?:=λ j hj hl=>al.block j hl (by rintro (e | e) <;> omega)
    have di:Strs w2 w12 (.slice c3 ls9.length c0) ls9:=ag.since (λ j e=>dz j (ag.lt e).1 (ag.lt e).2);obtain⟨bg,i1,i2⟩:=dq;have ei:Since (λ j=>wr.heap.size<=j/\(Value.slice c3 ls9.length c0).ownBlock≠some j) w9 w12:=⟨al.size,λ j hj hl=>dz j (by have:=hj.1;omega) hl⟩;refine⟨_,a9,c9,rfl,(a8.block b (by omega) hbm).trans ae,cg,(a8.block gf (by omega) (by omega)).trans aw,?_,⟨bg,(i1.since ei).base' (λ j hj _=>by have:=hj.1;show w.heap.size<=j;omega),(i2.since ei).base (λ j hj _=>by have:=hj.1;show w.heap.size<=j;omega)⟩,?_⟩
    .exact SlRow.base' (Aj9 di) (λ j hj _=>by have:w2.heap.size<=j:=hj;show w.heap.size<=j;omega)
    .exact bq.trans al (λ _ _ h=>h) (λ j _ e=>by
      rcases e with e | e
      .exact AJ (AJ e)
      .exact AJ (AI e))
   clear cg a8 dq ag e0 bq ae aw ar;go_wp2_with fail;exact bodyPost_end (results_none rfl _ _ _) rfl aa
def Cls(n0:Nat)(w:World)(v:Value)(l:List (List UInt8 × List UInt8)):Prop:=w.ownsRow n0 40 3 v l.length (l.flatMap A1)
theorem Y5:(prog.info? 40).map (λ i=>(i.zero,i.size,i.bytes))=some (some (.agg #[sE,sE,iv 0]),3,40):=by kernel_rfl
theorem Cls.nil(n0:Nat)(w:World):Cls n0 w sZ []:=⟨rfl,AI ⟨rfl,rfl⟩⟩
theorem Cls.since{l:List (List UInt8 × List UInt8)}(h:Cls n0 w v l)(e:∀j,v.ownBlock=some j->w'.heap[j]?=w.heap[j]?):Cls n0 w' v l:=by
 refine⟨h.1,?_⟩;rcases h.2 with h3 | ⟨g,cap,cur,h3,h4,h5,h6⟩
 .exact AI h3
 .exact AJ ⟨g,cap,cur,h3,h4,by rw[e g (by rw[h3];rfl)];exact h5,h6⟩
theorem Cls.lt{l:List (List UInt8 × List UInt8)}(h:Cls n0 w v l)(e:v.ownBlock=some j):n0<=j/\j<w.heap.size:=World.ownsRow.lt h j e
theorem Cls.row{l:List (List UInt8 × List UInt8)}(h:Cls n0 w v l):B7 (From n0) w l v:=by
 obtain⟨h1,h2⟩:=h;refine⟨⟨by rw[h1],?_⟩,by rcases h2 with⟨rfl,-⟩ | ⟨g,cap,cur,rfl,h4,h5,-⟩;exact .nil;exact .of h5 h4⟩;rcases h2 with⟨h3,h4⟩ | ⟨g,cap,cur,h3,h4,h5,h6,h7,h8,h9⟩
 .exact AI ⟨h3,h4⟩
 .refine AJ ⟨g,0,cap,h3,h6,h7,h4,(AB h5).1,λ j u hj=>?_⟩;rw[Be h5,Nat.zero_add];rw[<-h9,List.getElem?_take] at hj;split at hj
  .simpa using hj
  .cases hj
theorem Cls.push{l:List (List UInt8 × List UInt8)}(h:Cls n0 w v l){x:List UInt8 × List UInt8}{g0:Nat}(hb:w.heap[g0]?=some (.cells #[strV x.1,strV x.2,iv 0] 40 (0,0)))(hn:n0<=w)(hl:l.length<=100000)(c:Nat)(ty:TypeId) :
  ∃g cap w',(Builtin.append_ #[23,23] ty #[v,sL g0 0 1 c]).run prog w=.ok (sL g 0 (l.length+1) cap) w'/\Cls n0 w' (sL g 0 (l.length+1) cap) (l ++ [x])/\w.grownBy w' v.ownBlock/\(v.ownBlock=some g\/w.heap.size<=g):=by
 obtain⟨i,hi,hz,hs,a3⟩:=Fd Y5;obtain⟨g,cap,w',hr,ho,hg,a0,a4⟩:=run_append_lies (P:=prog) w 23 ty n0 40 i _ 3 40 underlying23 hi hz hs a3 rfl (by decide) v l.length (l.flatMap A1) h ⟨g0,0,none⟩ 1 c [strV x.1,strV x.2,iv 0] rfl (λ j u hj=>by
  have h1:w.cell? ⟨g0,j,none⟩=some u:=by rw[Be hb,List.getElem?_toArray];exact hj
  by_cases h0:j=0
  .subst h0;simpa [Addr.add] using h1
  .simpa [Addr.add,h0] using h1) (λ u hu=>by simp at hu;rcases hu with rfl | rfl | rfl <;> rfl) (by omega) (by unfold maxLen;omega) (by omega) hn _ rfl
 refine⟨g,cap,w',hr,?_,hg,?_⟩
 .have e1:(l ++ [x]).length=l.length+1:=by simp
  have e2:(l ++ [x]).flatMap A1=l.flatMap A1 ++ [strV x.1,strV x.2,iv 0]:=by rw[flatMap_append];rfl
  unfold Cls;rw[e1,e2];exact ho
 .rcases a0 with h | h
  .exact AI h
  .exact AJ (by omega)
theorem Vf{k:Nat}(hk:k≠g)(x0 x1 x2 x3 x4 x5 x6:Value):(((((((w.setCell g x0).setCell ⟨g,1,none⟩ x1).setCell ⟨g,2,none⟩ x2).setCell ⟨g,3,none⟩ x3).setCell ⟨g,4,none⟩ x4).setCell ⟨g,5,none⟩ x5).setCell ⟨g,6,none⟩ x6).heap[k]?=w.heap[k]?:=by
 rw[Below.heap_setCell _ _ _ _ hk,Below.heap_setCell _ _ _ _ hk,Below.heap_setCell _ _ _ _ hk,Below.heap_setCell _ _ _ _ hk,Below.heap_setCell _ _ _ _ hk,Below.heap_setCell _ _ _ _ hk,Below.heap_setCell _ _ _ _ hk]
theorem Vg{l:List Px.Sl}{q:Nat}{s:Px.Sl}(h:l[q]?=s):Ck.slots (l.take (q+1))=Ck.slots (l.take q) ++ [(s.name,s.type)]:=by
 unfold Ck.slots;rw[take_add_one,h,map_append];rfl
theorem Oq{B:AS}{l:List Px.Sl}(h:Et B w l v)(hl:l.length<=100000)(hn:∀s∈l,s.name.length<=1000/\s.type.length<=1000) :
  AA 74 #[v] w λ e w'=>∃a c,e=.returned (.slice a l.length c)/\Cls w w' (.slice a l.length c) (Ck.slots l)/\Below w w w':=by
 obtain⟨ao,cap,rfl,b6,bb⟩:=SlRow.val h;have a5:=λ (j:Nat) (s:Px.Sl) (hj:l[j]?=s)=>Kr h hj
 replace a5:=Bu a5;clear h;have b4:Hid (Cls w w sZ (Ck.slots (l.take 0))/\Below w w w):=⟨Cls.nil _ _,AF _ _⟩;go_enter func74,ntmps74;go_wp2_with fail
 go_loopg [3,8] l.length (λ gh out i wr=>∃q oa oc,q<=l.length/\gh=l.length - q/\out=.slice oa q oc/\i=iv q/\Hid (Cls w wr (.slice oa q oc) (Ck.slots (l.take q))/\Below w w wr))
 case atStart=>exact⟨0,none,0,AO _,rfl,rfl,rfl,b4⟩
 case round=>
  obtain⟨q,oa,oc,hq,rfl,rfl,rfl,HI⟩:=hrel;clear b4;by_cases hlt:q<l.length
  .have az:(q:Int)<(l.length:Int):=by omega
   have bl:(0:Int)<=(q:Int):=by omega
   obtain⟨s,al⟩:∃s,l[q]?=some s:=⟨_,AN hlt⟩;obtain⟨ga,og,ca,ea,-,au,u0,u1,u2⟩:=a5.out q s al;simp only[Value.slice.injEq] at ea;obtain⟨rfl,-,rfl⟩:=ea;have ar:=HI.out.2;obtain⟨ai,-⟩:=bcell ar;replace u0:=(ai _ _ au).trans u0;replace u1:=(ai _ _ au).trans u1;replace u2:=(ai _ _ au).trans u2;have bc:=ar.size;have bh:ga<wr:=by omega
   obtain⟨bj,bo⟩:=hn s (mem_of_getElem? al);have ab:=λ w'=>Vv.sclone_l s.name w' (by omega)
   have ad:=λ w'=>Vv.sclone_l s.type w' (by omega)
   obtain⟨w5,b9⟩:∃w5,wr.alloc (.cells #[sE,sE,iv 0] 40)=w5:=⟨_,rfl⟩;obtain⟨w6,b0⟩:∃w6,((w5.setCell wr (strV s.name)).setCell ⟨wr,1,none⟩ (strV s.type)).setCell ⟨wr,2,none⟩ (iv s.place)=w6:=⟨_,rfl⟩;have ba:Below wr wr w5:=by rw[<-b9];exact (AF _ _).alloc (AD _) _
   have ah:w5.heap[wr.heap.size]?=some (.cells #[sE,sE,iv 0] 40 (0,0)):=by rw[<-b9];exact heap_new _ _
   have l5:wr<w5.heap.size:=(AB ah).1;have b8:Below wr wr w6:=by rw[<-b0];exact ((ba.setCell (p:=⟨wr,0,none⟩) (AD _) _).setCell (p:=⟨wr,1,none⟩) (AD _) _).setCell (p:=⟨wr,2,none⟩) (AD _) _
   have av:w6.heap[wr.heap.size]?=some (.cells #[strV s.name,strV s.type,iv s.place] 40 (0,0)):=by rw[<-b0];simp[World.setCell,Array.getElem?_modify,ah]
   have l6:wr<w6.heap.size:=(AB av).1;obtain⟨y0,y1,y2,z0,z1,z2⟩:=Az ah;obtain⟨bi,bf,bk,-⟩:=Az av;clear ah ba av ai;go_wp2_with fail;have hS:∀w',Below w6 w6 w'->(w'.cell? wr=strV s.name/\w'.cell? ⟨wr,1,none⟩=strV s.type):=λ w' hb=>⟨((bcell hb).1 _ _ l6).trans bi,((bcell hb).1 _ _ l6).trans bf⟩
   replace hS:=Bu hS;refine Vv.wpE_begin (S:=λ w'=>w'.cell? wr=strV s.name/\w'.cell? ⟨wr,1,none⟩=strV s.type) (N:=λ j=>decide (j<9)) (by kernel_rfl) ?_;have ak:Below w6 w6 w6.drew:=(AF _ _).drew;have a7:=hS.out w6.drew ak;have am:w6<=w6.drew.heap.size:=AD _;generalize w6.drew=wd at *;refine Aa 12 [9,10] 0 (.slice oa q oc) a7 ?_;refine Aa 13 [2,3,6,7,8,9,10] 1 (pt wr 0) a7 ?_;refine Aa 14 [3,6,7,8,9,10] 2 (strV s.name) a7 ?_;refine Aa 16 [5,6,7,8,9,10] 4 (pt wr 1) a7 ?_;refine Aa 17 [6,7,8,9,10] 5 (strV s.type) a7 ?_;refine Ah 3 λ K hK=>?_
   go_simp;refine (ab _).mono ?_;rintro e w7 ⟨rfl,ae⟩;have aj:Below w6 w6 w7:=ak.trans (ae.mono am);refine hK _ _ (λ _=>hS.out w7 aj) ?_;clear hK K ab
   try simp only[aP]
   refine Ah 6 λ K hK=>?_
   go_simp;refine (ad _).mono ?_;rintro e w8 ⟨rfl,a8⟩;have a9:Below w6 w6 w8:=aj.trans (a8.mono aj.size);refine hK _ _ (λ _=>hS.out w8 a9) ?_;clear hK K ad
   try simp only[aP]
   refine Ah 7 λ K hK=>?_
   go_simp;refine hK _ _ (λ _=>hS.out w8 a9) ?_;clear hK K
   try simp only[aP]
   obtain⟨w9,aw⟩:∃w9,w8.alloc (.cells #[strV s.name,strV s.type,iv 0] 40)=w9:=⟨_,rfl⟩;have af:Below w8 w8 w9:=by rw[<-aw];exact (AF _ _).alloc (AD _) _
   have a4:w9.heap[w8.heap.size]?=some (.cells #[strV s.name,strV s.type,iv 0] 40 (0,0)):=by rw[<-aw];exact heap_new _ _
   have aq:Below w6 w6 w9:=a9.trans (af.mono a9.size);refine Ah 8 λ K hK=>?_
   go_simp
   try rw[aw]
   refine hK _ _ (λ _=>hS.out w9 aq) ?_;clear hK K
   try simp only[aP]
   have a0:Below wr wr w9:=b8.trans (aq.mono b8.size);have bn:=a0.size;have b5:Cls w w9 (.slice oa q oc) (Ck.slots (l.take q)):=HI.out.1.since (λ j e=>a0.block j (HI.out.1.lt e).2);have bg:(Ck.slots (l.take q)).length=q:=by simp[Ck.slots];omega
   obtain⟨b7,b3,w10,a6,a3,aa,ag⟩:=b5.push (x:=(s.name,s.type)) a4 (by omega) (by omega) 1 23;rw[bg] at a6 a3;rw[<-Vg al] at a3;have ay:Hid (Cls w w10 (sL b7 0 (q+1) b3) (Ck.slots (l.take (q+1)))/\Below w w w10):=⟨a3,(ar.trans (a0.mono bc)).grown aa (by omega) (λ j e=>(HI.out.1.lt e).1)⟩;clear b5 a3 aa ag a4 aq af a9 a8 aj ae a0 hS a7 ak HI;refine Ah 9 λ K hK=>?_
   refine Cl _ _ 23 rfl _ _ rfl rfl _ _ a6 ?_;refine hK _ _ (λ h=>by cases h) ?_;clear hK K
   try simp only[aP]
   refine Ah 10 λ K hK=>?_
   go_simp;refine hK _ _ (λ h=>by cases h) ?_;clear hK K
   try simp only[aP]
   refine Vv.wpE_done (by kernel_rfl) ?_;clear a6;simp only[Exit.inBlock,Exit.then];refine ‹∀(a:Act) (w:World),_->_› _ _ ?_;go_wp2_with fail;go_roundg (l.length - (q+1))
   case measure=>omega
   case rel=>exact⟨q+1,some ⟨b7,0,none⟩,b3,by omega,rfl,rfl,by go_num,ay⟩
  .have az:¬(q:Int)<(l.length:Int):=by omega
   have ax:∃a c,Value.slice oa q oc=.slice a l.length c/\Cls w wr (.slice a l.length c) (Ck.slots l)/\Below w w wr:=by
    have e1:q=l.length:=by omega
    have h1:=HI.out;rw[take_of_length_le (by omega)] at h1;subst e1;exact⟨oa,oc,rfl,h1.1,h1.2⟩
   clear HI;go_wp2_with fail;obtain⟨a,c,e1,e2,e3⟩:=ax;exact bodyPost_ret (v:=.slice oa q oc) (by simp[results,results74,go_sem]) rfl ⟨a,c,by rw[e1],e2,e3⟩
theorem Ak0{B:AS}{f:Px.Fn}{pa ba:Option Addr}{pc bn bc:Nat}(h:Et B w f.params (.slice pa f.params.length pc))(hl:f.params.length<=100000)(hn:∀s∈f.params,s.name.length<=1000/\s.type.length<=1000)(ax:f.name.length<=1000)(az:f.result.length<=1000) :
  AA 75 #[.agg #[strV f.name,.bool f.on,.slice pa f.params.length pc,strV f.result,sZ,.slice ba bn bc,iv f.place]] w λ e w'=>∃a9 c9,e=.returned (.agg #[strV f.name,.bool f.on,.slice a9 f.params.length c9,strV f.result,sZ,sZ,iv 0])/\Cls w w' (.slice a9 f.params.length c9) (Ck.slots f.params)/\Below w w w':=by
 obtain⟨w0,au⟩:∃w0,w.alloc (.cells #[strV f.name,.bool f.on,.slice pa f.params.length pc,strV f.result,sZ,.slice ba bn bc,iv f.place] 36)=w0:=⟨_,rfl⟩;obtain⟨w1,ar⟩:∃w1,w0.alloc (.cells #[sE,.bool false,sZ,sE,sZ,sZ,iv 0] 36)=w1:=⟨_,rfl⟩;have al:Below w w w0:=by rw[<-au];exact (AF _ _).alloc (AD _) _
 have a3:Below w0 w0 w1:=by rw[<-ar];exact (AF _ _).alloc (AD _) _
 have ai:w0.heap[w.heap.size]?=some (.cells #[strV f.name,.bool f.on,.slice pa f.params.length pc,strV f.result,sZ,.slice ba bn bc,iv f.place] 36 (0,0)):=by rw[<-au];exact heap_new _ _
 have l0:w<w0.heap.size:=(AB ai).1;have av:=(a3.block _ l0).trans ai;have am:w1.heap[w0.heap.size]?=some (.cells #[sE,.bool false,sZ,sE,sZ,sZ,iv 0] 36 (0,0)):=by rw[<-ar];exact heap_new _ _
 have l1:w0<w1.heap.size:=(AB am).1;have ag:Below w w w1:=al.trans (a3.mono al.size);obtain⟨d0,d1,d2,d3,d4,d5,d6,-⟩:=Cd av;have lx:w<w1.heap.size:=by omega
 have a7:=λ w'=>Vv.sclone_l f.name w' (by omega)
 have a8:=λ w'=>Vv.sclone_l f.result w' (by omega)
 have ae:=λ w' (hb:Below w1 w1 w')=>Oq ((SlRow.since h (Since.of_below ag)).since (Since.of_below hb)) hl hn
 replace ae:=Bu ae;clear h ai al a3 av;go_enter func75,ntmps75;go_wp2_with fail;have hS:∀w',Below w1 w1 w'->(w'.cell? w=strV f.name/\w'.cell? ⟨w,1,none⟩=some (.bool f.on)/\w'.cell? ⟨w,2,none⟩=some (.slice pa f.params.length pc)/\w'.cell? ⟨w,3,none⟩=strV f.result):=λ w' hb=>⟨((bcell hb).1 _ _ lx).trans d0,((bcell hb).1 _ _ lx).trans d1,((bcell hb).1 _ _ lx).trans d2,((bcell hb).1 _ _ lx).trans d3⟩
 replace hS:=Bu hS;refine Vv.wpE_begin (S:=λ w'=>w'.cell? w=strV f.name/\w'.cell? ⟨w,1,none⟩=some (.bool f.on)/\w'.cell? ⟨w,2,none⟩=some (.slice pa f.params.length pc)/\w'.cell? ⟨w,3,none⟩=strV f.result) (N:=λ j=>decide (j<11)) (by kernel_rfl) ?_;have aj:Below w1 w1 w1.drew:=(AF _ _).drew;have a0:=hS.out w1.drew aj;have ak:w1<=w1.drew.heap.size:=AD _;generalize w1.drew=wd at *;refine Aa 3 [1,2,7,10,11,12] 0 (pt w 0) a0 ?_;refine Aa 4 [2,7,10,11,12] 1 (strV f.name) a0 ?_;refine Aa 6 [4,11,12] 3 (pt w 1) a0 ?_;refine Aa 7 [11,12] 4 (.bool f.on) a0 ?_;refine Aa 8 [6,7,10,11,12] 5 (pt w 2) a0 ?_;refine Aa 9 [7,10,11,12] 6 (.slice pa f.params.length pc) a0 ?_;refine Aa 11 [9,10,11,12] 8 (pt w 3) a0 ?_;refine Aa 12 [10,11,12] 9 (strV f.result) a0 ?_;refine Ah 2 λ K hK=>?_
 go_simp;refine (a7 _).mono ?_;rintro e w7 ⟨rfl,aa⟩;have a5:Below w1 w1 w7:=aj.trans (aa.mono ak);refine hK _ _ (λ _=>hS.out w7 a5) ?_;clear hK K a7
 try simp only[aP]
 refine Ah 7 λ K hK=>?_
 go_simp;refine (ae.out w7 a5).mono ?_;rintro e w8 ⟨a9,c9,rfl,ah,a6⟩;have ad:Below w1 w1 w8:=a5.trans (a6.mono a5.size);refine hK _ _ (λ _=>hS.out w8 ad) ?_;clear hK K ae
 try simp only[aP]
 refine Ah 10 λ K hK=>?_
 go_simp;refine (a8 _).mono ?_;rintro e w9 ⟨rfl,a4⟩;have af:Below w1 w1 w9:=ad.trans (a4.mono ad.size);refine hK _ _ (λ _=>hS.out w9 af) ?_;clear hK K a8
 try simp only[aP]
 have aq:=(af.block _ l1).trans am;obtain⟨r0,r1,r2,r3,r4,r5,r6,t0,t1,t2,t3,t4,t5,t6⟩:=Cd aq;have l9:w0<w9.heap.size:=(AB aq).1;have ab:Hid (∃a9' c9',Ending.returned (.agg #[strV f.name,.bool f.on,.slice a9 f.params.length c9,strV f.result,sZ,sZ,iv 0])=.returned (.agg #[strV f.name,.bool f.on,.slice a9' f.params.length c9',strV f.result,sZ,sZ,iv 0])/\Cls w (((((((w9.setCell w0 (strV f.name)).setCell ⟨w0,1,none⟩ (.bool f.on)).setCell ⟨w0,2,none⟩ (.slice a9 f.params.length c9)).setCell ⟨w0,3,none⟩ (strV f.result)).setCell ⟨w0,4,none⟩ sZ).setCell ⟨w0,5,none⟩ sZ).setCell ⟨w0,6,none⟩ (iv 0)) (.slice a9' f.params.length c9') (Ck.slots f.params)/\Below w w (((((((w9.setCell w0 (strV f.name)).setCell ⟨w0,1,none⟩ (.bool f.on)).setCell ⟨w0,2,none⟩ (.slice a9 f.params.length c9)).setCell ⟨w0,3,none⟩ (strV f.result)).setCell ⟨w0,4,none⟩ sZ).setCell ⟨w0,5,none⟩ sZ).setCell ⟨w0,6,none⟩ (iv 0))):=by
  have ay:=a5.size;have aw:Below w w w9:=ag.trans (af.mono ag.size);have hW:Below w0 w9 (((((((w9.setCell w0 (strV f.name)).setCell ⟨w0,1,none⟩ (.bool f.on)).setCell ⟨w0,2,none⟩ (.slice a9 f.params.length c9)).setCell ⟨w0,3,none⟩ (strV f.result)).setCell ⟨w0,4,none⟩ sZ).setCell ⟨w0,5,none⟩ sZ).setCell ⟨w0,6,none⟩ (iv 0)):=(((((((AF _ _).setCell (p:=⟨w0,0,none⟩) (AD _) _).setCell (p:=⟨w0,1,none⟩) (AD _) _).setCell (p:=⟨w0,2,none⟩) (AD _) _).setCell (p:=⟨w0,3,none⟩) (AD _) _).setCell (p:=⟨w0,4,none⟩) (AD _) _).setCell (p:=⟨w0,5,none⟩) (AD _) _).setCell (p:=⟨w0,6,none⟩) (AD _) _;have ho:∀j,j≠w0.heap.size->(((((((w9.setCell w0 (strV f.name)).setCell ⟨w0,1,none⟩ (.bool f.on)).setCell ⟨w0,2,none⟩ (.slice a9 f.params.length c9)).setCell ⟨w0,3,none⟩ (strV f.result)).setCell ⟨w0,4,none⟩ sZ).setCell ⟨w0,5,none⟩ sZ).setCell ⟨w0,6,none⟩ (iv 0)).heap[j]?=w9.heap[j]?:=λ j hj=>Vf hj _ _ _ _ _ _ _
  refine⟨a9,c9,rfl,?_,aw.trans (hW.mono (by omega))⟩;have h1:Cls w7 w9 (.slice a9 f.params.length c9) (Ck.slots f.params):=ah.since (λ j e=>a4.block j (ah.lt e).2);have h2:Cls w7 (((((((w9.setCell w0 (strV f.name)).setCell ⟨w0,1,none⟩ (.bool f.on)).setCell ⟨w0,2,none⟩ (.slice a9 f.params.length c9)).setCell ⟨w0,3,none⟩ (strV f.result)).setCell ⟨w0,4,none⟩ sZ).setCell ⟨w0,5,none⟩ sZ).setCell ⟨w0,6,none⟩ (iv 0)) (.slice a9 f.params.length c9) (Ck.slots f.params):=h1.since (λ j e=>ho j (by have:=(h1.lt e).1;omega));refine⟨h2.1,?_⟩;rcases h2.2 with h3 | ⟨g,cap,cur,h3,h4,h5,h6⟩
  .exact AI h3
  .exact AJ ⟨g,cap,cur,h3,by omega,h5,h6⟩
 clear hS a0 ah aq a5 ad af aa a6 a4 aj ag am;refine Ah 11 λ K hK=>?_
 go_simp;refine hK _ _ (λ h=>by cases h) ?_;clear hK K
 try simp only[aP]
 refine Ah 12 λ K hK=>?_
 go_simp;refine hK _ _ (λ h=>by cases h) ?_;clear hK K
 try simp only[aP]
 refine Vv.wpE_done (by kernel_rfl) ?_;simp only[Exit.inBlock,Exit.then];refine ‹∀(a:Act) (w:World),_->_› _ _ ?_;go_wp2_with fail;exact bodyPost_ret (v:=.agg #[strV f.name,.bool f.on,.slice a9 f.params.length c9,strV f.result,sZ,sZ,iv 0]) (by simp[results,results75,go_sem,l9,r0,r1,r2,r3,r4,r5,r6]) rfl ab.out
end
section
open Go.RowKit
open Ck (CE CS CF CP Mng)
theorem Aq6:(prog.info? 36).map (λ i=>(i.zero,i.size,i.bytes))=some (some (.agg #[sE,.bool false,sZ,sE,sZ,sZ,iv 0]),7,120):=by kernel_rfl
theorem E3.since{B:AS}(s:Since B w w'){e:CF}(h:E3 B w e cs):E3 B w' e cs:=by
 obtain⟨ps,ls,bs,h1,h2,h3,row,h4,h5⟩:=h;exact⟨ps,ls,bs,h1,Cq.since h2 s,SlRow.since h3 s,row,h4.since s,h5.since s⟩
theorem E3.base{B:AS}(hb:∀k,B k->k<w.heap.size->B' k){e:CF}(h:E3 B w e cs):E3 B' w e cs:=by
 obtain⟨ps,ls,bs,h1,h2,h3,row,h4,h5⟩:=h;exact⟨ps,ls,bs,h1,Cq.base' h2 hb,SlRow.base' h3 hb,row,h4.base' hb,Aq.base hb h5⟩
theorem E3.ln{B:AS}{e:CF}(h:E3 B w e cs):cs.length=7:=by
 obtain⟨ps,ls,bs,hc,_⟩:=h;rw[hc];rfl
theorem E3.ones{B:AS}{e:CF}(h:E3 B w e cs):∀u∈cs,u.oneCell'=true:=by
 obtain⟨ps,ls,bs,rfl,h2,h3,row,h4,h5⟩:=h;have a1:=SlRow.one h2.1;have a2:=SlRow.one h3;have a3:=h4.one;intro u hu;simp only[mem_cons,not_mem_nil,or_false] at hu;rcases hu with rfl | rfl | rfl | rfl | rfl | rfl | rfl <;> first | rfl | assumption
theorem Bm.since{B:AS}{w w':World}(s:Since B w w'):∀{l:List CF} {cs:AR},Bm B w l cs->Bm B w' l cs
 | [],cs,h=>h
 | e :: r,cs,h=>by
  obtain⟨c1,c2,hc,h1,h2⟩:=h;exact⟨c1,c2,hc,h1.since s,Bm.since s h2⟩
theorem Bm.base{B B':AS}{w:World}(hb:∀k,B k->k<w.heap.size->B' k):∀{l:List CF} {cs:AR},Bm B w l cs->Bm B' w l cs
 | [],cs,h=>h
 | e :: r,cs,h=>by
  obtain⟨c1,c2,hc,h1,h2⟩:=h;exact⟨c1,c2,hc,h1.base hb,Bm.base hb h2⟩
theorem Bm.snoc{B:AS}{w:World}:∀{l:List CF} {row:AR} {e:CF} {cs:AR},Bm B w l row->E3 B w e cs->Bm B w (l ++ [e]) (row ++ cs)
 | [],row,e,cs,h1,h2=>by
  have h1:row=[]:=h1;subst h1;exact⟨cs,[],by simp,h2,rfl⟩
 | x :: r,row,e,cs,h1,h2=>by
  obtain⟨c1,c2,rfl,h3,h4⟩:=h1;exact⟨c1,c2 ++ cs,by simp,h3,Bm.snoc h4 h2⟩
theorem Bm.at{B:AS}{w:World}:∀{l:List CF} {row:AR} {i:Nat} {e:CF},Bm B w l row->l[i]?=e->∃cs,E3 B w e cs/\∀j,j<7->row[i*7+j]?=cs[j]?
 | [],row,i,e,h,hi=>by simp at hi
 | a :: r,row,0,e,h,hi=>by
  obtain⟨c1,c2,hc,h1,h2⟩:=h;simp at hi;subst hi;exact⟨c1,h1,λ j hj=>by rw[hc,List.getElem?_append_left (by have:=h1.ln;omega)];simp⟩
 | a :: r,row,i+1,e,h,hi=>by
  obtain⟨c1,c2,hc,h1,h2⟩:=h;obtain⟨cs,k1,k2⟩:=Bm.at h2 (by simpa using hi);refine⟨cs,k1,λ j hj=>?_⟩;have:=h1.ln;rw[hc,List.getElem?_append_right (by omega),<-k2 j hj];congr 1;omega
def Di(B:AS)(w:World)(cur:Array Value)(l:List CF):Prop:=l.length*7<=cur.size/\∀(i:Nat) (x:CF),l[i]?=x->∃cs,E3 B w x cs/\∀j,j<7->cur[i*7+j]?=cs[j]?
theorem Di.since{B:AS}{cur:Array Value}{l:List CF}(h:Di B w cur l)(s:Since B w w'):Di B w' cur l:=⟨h.1,λ i x hi=>by
 obtain⟨cs,h1,h2⟩:=h.2 i x hi;exact⟨cs,h1.since s,h2⟩⟩
theorem Di.base{B:AS}{cur:Array Value}{l:List CF}(h:Di B w cur l)(hb:∀k,B k->k<w.heap.size->B' k):Di B' w cur l:=⟨h.1,λ i x hi=>by
 obtain⟨cs,h1,h2⟩:=h.2 i x hi;exact⟨cs,h1.base hb,h2⟩⟩
def Gf(P:AS)(w:World)(sl:Value)(acc:List CF):Prop:=∃row,w.ownsRow 0 36 7 sl acc.length row/\(∀k,sl.ownBlock=some k->P k)/\Bm (λ k=>P k/\sl.ownBlock≠some k) w acc row
theorem Gf.nil(P:AS)(w:World):Gf P w sZ []:=⟨[],⟨rfl,AI ⟨rfl,rfl⟩⟩,λ k h=>by simp[Value.ownBlock] at h,by rw[Bm]⟩
theorem Gf.since{P:AS}{acc:List CF}(h:Gf P w sl acc)(s:Since P w w'):Gf P w' sl acc:=by
 obtain⟨row,h1,h0,h2⟩:=h;refine⟨row,⟨h1.1,?_⟩,h0,h2.since ⟨s.size,λ k hk hl=>s.block k hk.1 hl⟩⟩;rcases h1.2 with h3 | ⟨g,cap,cur,h3,h4,h5,h6⟩
 .exact AI h3
 .exact AJ ⟨g,cap,cur,h3,h4,by rw[s.block g (h0 g (by rw[h3];rfl)) (Array.getElem?_eq_some_iff.1 h5).1];exact h5,h6⟩
theorem Gf.below{P:AS}{acc:List CF}(h:Gf P w sl acc)(hb:Below w w w'):Gf P w' sl acc:=h.since (Since.of_below hb)
theorem Gf.row{P:AS}{w:World}{sl:Value}{acc:List CF}(h:Gf P w sl acc):∃row,Cq P w 7 sl acc.length row/\Bm P w acc row:=by
 obtain⟨row,h1,h0,h2⟩:=h;refine⟨row,⟨⟨by have:=h1.1;omega,?_⟩,by rcases h1.2 with⟨rfl,-⟩ | ⟨g,cap,cur,rfl,h4,h5,-⟩;exact .nil;exact .of h5 (h0 g rfl)⟩,h2.base (λ k hk _=>hk.1)⟩;rcases h1.2 with⟨h3,h4⟩ | ⟨g,cap,cur,h3,h4,h5,h6,h7,h8,h9⟩
 .exact AI ⟨h3,h4⟩
 .refine AJ ⟨g,0,cap,h3,h6,h7,h0 g (by rw[h3];rfl),(AB h5).1,λ j u hj=>?_⟩;rw[Be h5,Nat.zero_add];rw[<-h9,List.getElem?_take] at hj;split at hj
  .simpa using hj
  .cases hj
theorem Gf.apart{P:AS}{acc:List CF}(h:Gf P w sl acc){k:Nat}(hk:w<=k):sl.ownBlock≠k:=by
 obtain⟨row,h1,_⟩:=h;intro e;have:=(h1.lt k e).2;omega
theorem Gf.base{P P':AS}{acc:List CF}(h:Gf P w sl acc)(hb:∀k,P k->k<w.heap.size->P' k):Gf P' w sl acc:=by
 obtain⟨row,h1,h0,h2⟩:=h;exact⟨row,h1,λ k hk=>hb k (h0 k hk) (h1.lt k hk).2,h2.base (λ k hk hl=>⟨hb k hk.1 hl,hk.2⟩)⟩
theorem Gf.push{P:AS}{acc:List CF}(h:Gf P w sl acc){x:CF}{ad:Addr}(a4:∀(j:Nat) (u:Value),cs[j]?=u->w.cell? (ad.add j)=u)(hx:E3 (λ k=>P k/\sl.ownBlock≠some k) w x cs)(hn:acc.length+1<=1000000)(hm:∀k,w.heap.size<=k->P k)(c:Nat)(ty:TypeId) :
  ∃g cap w',(Builtin.append_ #[24,24] ty #[sl,.slice (some ad) 1 c]).run prog w=.ok (sL g 0 (acc.length+1) cap) w'/\Gf P w' (sL g 0 (acc.length+1) cap) (acc ++ [x])/\(∀m,m<=w.heap.size->(∀k,P k->m<=k)->Below m w w')/\(∀k,k<w.heap.size->sl.ownBlock≠some k->w'.heap[k]?=w.heap[k]?)/\w.heap.size<=w'.heap.size/\(sl.ownBlock=some g\/w.heap.size<=g):=by
 obtain⟨row,a5,hP,a7⟩:=h;obtain⟨i,hi,hz,hs,hb⟩:=Fd Aq6;obtain⟨g,cap,w',hr,ho,hg,a6,aa⟩:=run_append_lies (P:=prog) w 24 ty 0 36 i _ 7 120 underlying24 hi hz hs hb rfl (by decide) sl acc.length row a5 ad 1 c cs (by rw[hx.ln]) a4 hx.ones (by omega) (by unfold maxLen;omega) (by omega) (AO _) _ rfl;have a8:∀k,P k/\sl.ownBlock≠some k->k<w.heap.size->k≠g:=by
  intro k hk hl he;subst he;rcases a6 with h | h
  .exact hk.2 h
  .omega
 have a3:∀k,(P k/\sl.ownBlock≠some k)->k<w.heap.size->P k/\(sL g 0 (acc.length+1) cap).ownBlock≠some k/\(P k/\sl.ownBlock≠some k):=λ k h1 h2=>⟨h1.1,λ e=>a8 k h1 h2 (by simpa [Value.ownBlock] using e.symm),h1⟩
 have a0:Since (λ k=>P k/\(sL g 0 (acc.length+1) cap).ownBlock≠some k/\(P k/\sl.ownBlock≠some k)) w w':=⟨hg.size,λ k h1 h2=>hg.block k h2 (λ e=>h1.2.2.2 e.symm)⟩;refine⟨g,cap,w',hr,⟨row ++ cs,by simpa using ho,?_,?_⟩,λ m hm1 hm2=>(AF _ _).grown hg hm1 (λ k hk=>hm2 k (hP k hk)),λ k h1 h2=>hg.block k h1 (λ e=>h2 e.symm),hg.size,?_⟩
 .intro k hk;have a9:g=k:=by simpa [Value.ownBlock] using hk
  rw[<-a9];rcases a6 with h | h
  .exact hP g h
  .exact hm g (by omega)
 .exact (((a7.base a3).since a0).snoc ((hx.base a3).since a0)).base (λ k h _=>⟨h.1,h.2.1⟩)
 .rcases a6 with h | h
  .exact AI h
  .exact AJ (by omega)
theorem Gf.arr{P:AS}{acc:List CF}(h:Gf P w sl acc)(hn:0<acc.length):∃g cap cur,sl=sL g 0 acc.length cap/\P g/\w.heap[g]?=some (.cells cur 36 (0,0))/\acc.length<=cap/\cap<=9223372036854775807/\Di (λ k=>P k/\k≠g) w cur acc:=by
 obtain⟨row,h1,h2,h3⟩:=h;rcases h1.2 with⟨_,h0⟩ | ⟨g,cap,cur,e1,-,e3,e4,e5,e6,e7⟩
 .omega
 .refine⟨g,cap,cur,e1,h2 g (by rw[e1];rfl),e3,e4,by unfold maxLen at e5;omega,?_,λ i x hi=>?_⟩
  .rw[e6];exact Nat.mul_le_mul_right 7 e4
  .obtain⟨cs,k1,k2⟩:=h3.at hi;refine⟨cs,k1.base (λ k hk _=>⟨hk.1,λ e=>hk.2 (by rw[e1,e];rfl)⟩),λ j hj=>?_⟩;have hl:=(AK hi).1;have h9:=k2 j hj;rw[<-e7,List.getElem?_take,if_pos (by omega)] at h9;simpa using h9
theorem Di.all{B:AS}{w:World}:∀{l:List CF} {row:AR},row.length=l.length*7->(∀(i:Nat) (x:CF),l[i]?=x->∃cs,E3 B w x cs/\∀j,j<7->row[i*7+j]?=cs[j]?)->Bm B w l row
 | [],row,hl,_=>by have:row=[]:=length_eq_zero_iff.1 (by simpa using hl);exact this
 | x :: r,row,hl,h=>by
  obtain⟨cs,k1,k2⟩:=h 0 x rfl;have a3:=k1.ln;have a0:row.length=(r.length+1)*7:=by simpa using hl
  have e1:row.take 7=cs:=by
   refine ext_getElem? λ j=>?_
   rw[List.getElem?_take];split
   .rename_i hj;have:=k2 j hj;simpa using this
   .rw[List.getElem?_eq_none_iff.2 (by omega)]
  refine⟨cs,row.drop 7,by rw[<-e1,take_append_drop],k1,Di.all (by rw[length_drop,a0];omega) (λ i y hy=>?_)⟩;obtain⟨ds,m1,m2⟩:=h (i+1) y (by simpa using hy);refine⟨ds,m1,λ j hj=>?_⟩;rw[List.getElem?_drop,<-m2 j hj];congr 1;omega
theorem Di.fns{B:AS}{cur:Array Value}{l:List CF}{cap:Nat}(h:Di B w cur l)(hb:w.heap[g]?=some (.cells cur 36 (0,0)))(hB:B g)(h1:l.length<=cap)(h2:cap<=9223372036854775807):Ah8 B w l (sL g 0 l.length cap):=by
 have a0:(cur.toList.take (l.length*7)).length=l.length*7:=by have:=h.1;simp;omega
 refine⟨cur.toList.take (l.length*7),⟨⟨a0,AJ ⟨g,0,cap,rfl,h1,by unfold maxLen;omega,hB,(AB hb).1,λ j u hj=>?_⟩⟩,.of hb hB⟩,Di.all (a0) (λ i x hi=>?_)⟩
 .rw[Be hb,Nat.zero_add];rw[List.getElem?_take] at hj;split at hj
  .simpa using hj
  .cases hj
 .obtain⟨cs,k1,k2⟩:=h.2 i x hi;have hl:=(AK hi).1;refine⟨cs,k1,λ j hj=>?_⟩;rw[List.getElem?_take,if_pos (by omega),<-k2 j hj];simp
def Ix(f:CF):Ck.Hd:=⟨f.on,f.params.map Prod.snd,f.result⟩
theorem Ak1{l:List (List UInt8 × List UInt8)}{s:List UInt8 × List UInt8}(h:l[i]?=s):(l.flatMap A1)[i*3+1]?=strV s.2:=by
 induction l generalizing i with
 | nil=>simp at h
 | cons a r ih=>
  have e:(a :: r).flatMap A1=A1 a ++ r.flatMap A1:=by simp
  have hl:(A1 a).length=3:=rfl;rw[e];rcases i with _ | i
  .simp at h;subst h;rfl
  .rw[List.getElem?_append_right (by omega),hl,show (i+1)*3+1 - 3=i*3+1 by omega];exact ih (by simpa using h)
theorem Di.hds{B:AS}{cur:Array Value}{l:List CF}{cap:Nat}(h:Di B w cur l)(hb:w.heap[g]?=some (.cells cur 36 (0,0)))(hB:B g)(h1:l.length<=cap)(h2:cap<=9223372036854775807):Qf B w (l.map Ix) (sL g 0 l.length cap):=by
 obtain⟨row,⟨⟨e1,e2⟩,-⟩,e3⟩:=h.fns hb hB h1 h2;refine⟨row,⟨by rw[length_map];exact e1,by rw[length_map];exact e2⟩,λ i hd hi=>?_⟩;rw[List.getElem?_map] at hi;rcases hx:l[i]? with _ | x
 .rw[hx] at hi;cases hi
 .rw[hx] at hi;simp only[Option.map_some,Option.some.injEq] at hi;subst hi;obtain⟨cs,⟨ps,ls,bs,rfl,m1,m2,m3⟩,k2⟩:=e3.at hx;obtain⟨la,lc,rfl,-,-⟩:=SlRow.val m2;obtain⟨a0,m3,-⟩:=m3;obtain⟨ba,bc,rfl,-,-⟩:=m3.val;refine⟨_,ps,la,_,lc,ba,_,bc,0,k2 0 (by omega),k2 1 (by omega),k2 2 (by omega),k2 3 (by omega),k2 4 (by omega),k2 5 (by omega),k2 6 (by omega),x.params.flatMap A1,?_,λ j t hj=>?_⟩
  .have m1:SlRow B w 3 ps x.params.length (x.params.flatMap A1):=m1.1;show SlRow B w 3 ps (x.params.map Prod.snd).length _;rw[length_map];exact m1
  .have hj:(x.params.map Prod.snd)[j]?=some t:=hj;rw[List.getElem?_map] at hj;rcases hy:x.params[j]? with _ | y
   .rw[hy] at hj;cases hj
   .rw[hy] at hj;simp only[Option.map_some,Option.some.injEq] at hj;subst hj;exact Ak1 hy
end
end Go.Proofs.YtpckmjfabiallaaGreatDoor
