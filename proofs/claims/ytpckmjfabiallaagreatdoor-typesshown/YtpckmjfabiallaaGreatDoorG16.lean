/- Texts of ours, joined. -/
import Derived.Test.YtpckmjfabiallaaGreatDoorG10
set_option linter.unusedVariables false
set_option linter.unusedSimpArgs false
set_option maxRecDepth 100000
set_option maxHeartbeats 16000000
namespace Go.Proofs.YtpckmjfabiallaaGreatDoor
variable{B':Nat->Prop}{b d ga ge gp j m p pl:Nat}{sl v:Value}{w w':World}
open List
open Tryz
section
open Go.RowKit
theorem Mg{w4:World}{x:Px.Ex}{l':List Lx.Tok}{kk k o n:Nat}{t:Lx.B}{ao:Option Addr}{an ac:Nat}{B:AS}(h4:Ps b ga l' w4)(hF:Fo b w.heap.size w w4)(hg:w.heap.size≠b)(a8:w.heap.size≠ga)(hl:w.heap.size<w4.heap.size)(hx:IsEx B w4 x (eL k o n t (.slice ao an ac) p))(hB:∀g,B g->w.heap.size<g) :
  Dc b ga w (.inl (.mk kk 0 0 [] [x] pl,l')) (.returned (eV kk 0 0 [] (sL w4.heap.size 0 1 1) pl)) ((eS w4 w.heap.size kk 0 0 [] (sL w4.heap.size 0 1 1) pl).alloc (eO k o n t (.slice ao an ac) p)):=by
 have a4:=h4.set8 hg a8 (iv kk) (iv (0:Nat)) (iv (0:Nat)) sE (iv 0) sE (sL w4.heap.size 0 1 1) (iv pl);have a7:=hF.set8 (AD _) (iv kk) (iv (0:Nat)) (iv (0:Nat)) sE (iv 0) sE (sL w4.heap.size 0 1 1) (iv pl);have a6:=Qf w4 w.heap.size kk 0 0 pl [] (sL w4.heap.size 0 1 1);have a5:∀j,j≠w.heap.size->(eS w4 w.heap.size kk 0 0 [] (sL w4.heap.size 0 1 1) pl).heap[j]?=w4.heap[j]?:=λ j hj=>Ah2 hj
 replace a4:Ps b ga l' (eS w4 w.heap.size kk 0 0 [] (sL w4.heap.size 0 1 1) pl):=a4;replace a7:Fo b w.heap.size w (eS w4 w.heap.size kk 0 0 [] (sL w4.heap.size 0 1 1) pl):=a7;generalize eS w4 w.heap.size kk 0 0 [] (sL w4.heap.size 0 1 1) pl=wX at *;have a3:=heap_new wX (eO k o n t (.slice ao an ac) p);rw[a6] at a3;have a0:Since B w4 (wX.alloc (eO k o n t (.slice ao an ac) p)):=⟨by simp[a6],λ j h1 h2=>(Al (by omega)).trans (a5 j (by have:=hB j h1;omega))⟩;refine⟨_,rfl,⟨kk,0,0,[],_,1,1,pl,rfl,?_⟩,a4.alloc _,a7.alloc (by omega) _⟩;exact Ax3 (B:=From w.heap.size) (show w.heap.size<=w4.heap.size by omega) (by simp[a6]) (λ j u hj=>Md a3 (by rw[List.getElem?_toArray];exact hj)) ((hx.since a0).base (λ g h=>Nat.le_of_lt (hB g h)))
theorem Ah5{P:AS}{wD wF:World}{g7 k o nn k2 o2 n2 p2 kk op:Nat}{t t2:Lx.B}{sl2:Value}(hP:P wD.heap.size)(a8:¬P g7)(h7:wD.heap[g7]?=some (eO k o nn t sl p))
  (hwF:wF=(eS wD g7 kk op 0 [] (sL wD.heap.size 0 2 2) pl).alloc (.cells (eL k o nn t sl p ++ eL k2 o2 n2 t2 sl2 p2).toArray 48 (0,0))) :
  wF.heap[g7]?=some (eO kk op 0 [] (sL wD.heap.size 0 2 2) pl)/\Fo g7 wD.heap.size wD wF/\wF.heap.size=wD.heap.size+1/\∀x y,IsEx P wD x (eL k o nn t sl p)->IsEx P wD y (eL k2 o2 n2 t2 sl2 p2)->IsEx P wF (.mk kk op 0 [] [x,y] pl) (eL kk op 0 [] (sL wD.heap.size 0 2 2) pl):=by
 have a9:g7<wD.heap.size:=(AB h7).1;have a7:=Qf wD g7 kk op 0 pl [] (sL wD.heap.size 0 2 2);have a6:=At5 wD g7 kk op 0 pl [] (sL wD.heap.size 0 2 2) wD.heap.size;have a5:=Ah1 (k:=kk) (o:=op) (n:=0) (t:=[]) (sl:=sL wD.heap.size 0 2 2) (p:=pl) h7;generalize eS wD g7 kk op 0 [] (sL wD.heap.size 0 2 2) pl=wX at *;have hb:Below wX.heap.size wX wF:=by
  rw[hwF];exact (AF _ _).alloc (AD _) _
 have a3:wF.heap[wD.heap.size]?=some (.cells (eL k o nn t sl p ++ eL k2 o2 n2 t2 sl2 p2).toArray 48 (0,0)):=by
  rw[hwF,<-a7];exact heap_new _ _
 have a4:wF.heap.size=wD.heap.size+1:=by rw[hwF];simp[a7]
 clear hwF;have a0:Since P wD wF:=⟨by omega,λ j h1 h2=>(hb.block j (by omega)).trans (a6.block j h2 (λ e=>a8 (by rw[<-e];exact h1)))⟩;exact⟨(hb.block g7 (by omega)).trans a5,a6.trans (AW (hb.mono (by omega))),a4,λ x y hx hy=>Ah0 hP (by omega) (λ j v hj=>Md a3 (by rw[List.getElem?_toArray];exact hj)) (hx.since a0) (hy.since a0)⟩
theorem ats_fuel{e:Px.P Px.Ex}(he:Px.Ok e):∀(f g:Nat) (acc:Px.Ex) (l:List Lx.Tok),Px.Good l->l.length<f->l.length<g->Px.ats e f acc l=Px.ats e g acc l
 | 0,_,_,_,_,h,_=>by omega
 | _,0,_,_,_,_,h=>by omega
 | f+1,g+1,acc,l,hg,h1,h2=>by
  simp only[Px.ats];split
  .rename_i hs;have a:=Px.sees4 hs hg;refine Px.bind_congr λ x l1 e1=>Px.bind_congr λ u l2 e2=>?_
   have a1:=(he _ a.good).ok x l1 e1;have a2:=(Px.need_res a1.good).ok u l2 e2;exact ats_fuel he f g _ l2 a2.good (by have:=a.less;have:=a1.less;have:=a2.less;omega) (by have:=a.less;have:=a1.less;have:=a2.less;omega)
  .rfl
theorem Sz:Y0 25 (Px.unary 0):=by
 intro b ga l w h;have h0:=h.alloc zeroE;have a0:Fo b w.heap.size w (w.alloc zeroE):=(AV _ _ _).alloc (AD _) _;go_enter func216,ntmps216;go_wp2_with fail;generalize w.alloc zeroE=w0 at *;refine (pwithin_bad h0 25 24 (by omega)).mono ?_;rintro e w1 ⟨rfl,a3⟩;exact⟨rfl,rfl,a0.call a3 a0.size⟩
theorem S0{k:Nat}(cr:d+(k+1)=25)(IH:Y0 (d+1) (Px.unary k)):Y0 d (Px.unary (k+1)):=by
 have bf:Ek (d+1) (Px.expr' k):=Og (by omega) (Px.unary_ok k) IH;have bv:=Px.expr'_ok k;have bi:=Qh (d:=d) (by omega) bv bf;intro b ga l w h;obtain⟨res,a0⟩:∃res,Aside (res=Px.unary (k+1) l):=⟨_,rfl⟩;rw[<-a0.out];replace a0:Aside (res=_):=a0.out.trans (Px.unary_as h.good);obtain⟨t,r,rfl,_⟩:=h.head;have a8:w.heap.size≠b:=by have:=h.there;omega
 have az:w.heap.size≠ga:=by have:=h.gl;omega
 have cp:=h.there;have h0:=h.alloc zeroE;have c9:=Ec w;have bu:Fo b w.heap.size w (w.alloc zeroE):=(AV _ _ _).alloc (AD _) _;have bs:w.heap.size<(w.alloc zeroE).heap.size:=by simp
 have ce:∀(l:List Lx.Tok) (w:World),Ps b ga l w->AA 216 #[pt b 0,iv ((d:Int)+1)] w λ r w'=>Dc b ga w (Px.unary k l) r w':=λ l w h=>IH b ga l w h
 have bg:∀(l:List Lx.Tok) (w:World),Ps b ga l w->AA 164 #[pt b 0,iv ((d:Int)+1)] w λ r w'=>Dc b ga w (Px.expr' k l) r w':=λ l w h=>bf b ga l w h
 have cw:(d:Int)<=24:=by omega
 have ct:=Sf;go_enter func216,ntmps216;go_wp2_with fail;generalize w.alloc zeroE=w0 at *;refine (pwithin_ok h0 d 24 (by omega)).mono ?_;rintro e w0' ⟨rfl,rfl⟩;go_wp2_with fail;refine (Ce h0).mono ?_;rintro e w1 ⟨rfl,bj⟩;have h1:=h0.below bj;have br:=(bj.block _ bs).trans c9;have b7:=bu.below bj bu.size;have b6:w.heap.size<w1.heap.size:=AL bs bj.size;clear c9 bu bs bj h0;rcases hm:Px.sees 4 [45] (t :: r) with _ | _
 rotate_left
 .replace a0:Aside (res=Px.bind (Px.unary k r) λ x l1=>.inl (.mk 13 0 0 [] [x] t.place,l1)):=by
   show _=_;rw[a0.out,if_pos hm];rfl
  go_wp2_with fail
  refine (Ay h1 [45] (by decide) hm).mono ?_;rintro e w2 ⟨rfl,h2,bo⟩;have b5:=(bo.block _ b6 a8).trans br;have af:=b7.call bo b7.size;have ag:w.heap.size<w2.heap.size:=AL b6 bo.size;clear hm br b7 b6 h1 bo;go_wp2_with fail;refine (ce r w2 h2).mono ?_;rcases hq:Px.unary k r with⟨x,l1⟩ | ⟨a,er⟩
  .rintro e w4 ⟨v,rfl,⟨kk,o,n,tt,ao,an,ac,p,rfl,hx⟩,h4,a5⟩;replace a0:Aside (res=.inl (.mk 13 0 0 [] [x] t.place,l1)):=by
    show _=_;rw[a0.out,hq];rfl
   have c0:=(a5.block _ ag a8).trans b5;have av:w.heap.size<w4.heap.size:=AL ag a5.size;obtain⟨e0,e1,e2,e3,e4,e5,e6,e7,m0,m1,m2,m3,m4,m5,m6,m7⟩:=Ab c0;have aa:=Mg (kk:=13) (pl:=t.place) h4 (af.call a5 af.size) a8 az av hx (λ g hg=>AL ag hg);clear hq;go_wp2;rw[a0.out];exact bodyPost_ret (by simp[results,results216,go_sem,e0,e1,e2,e3,e4,e5,e6,e7,av]) rfl aa
  .rintro e w4 ⟨rfl,a5⟩;refine⟨rfl,?_⟩;rw[a0.out,hq];exact⟨rfl,af.call a5 af.size⟩
 replace a0:Aside (res=if Px.sees 4 [33] (t :: r) then Px.bind (Px.unary k r) λ x l1=>.inl (.mk 14 0 0 [] [x] t.place,l1) else Px.bind (Px.primary (Px.expr' k) (t :: r)) λ x l1=>Px.ats (Px.expr' k) (l1.length+1) x l1):=by
  show _=_;rw[a0.out,if_neg (by rw[hm];simp)];rfl
 go_wp2_with fail
 refine (A8 h1 [45] hm).mono ?_;rintro e w2 ⟨rfl,h2,bn⟩;have b5:=(bn.block _ b6).trans br;have af:=b7.below bn b7.size;have ag:w.heap.size<w2.heap.size:=AL b6 bn.size;clear hm br b7 b6 h1 bn;rcases hm:Px.sees 4 [33] (t :: r) with _ | _
 rotate_left
 .replace a0:Aside (res=Px.bind (Px.unary k r) λ x l1=>.inl (.mk 14 0 0 [] [x] t.place,l1)):=by
   show _=_;rw[a0.out,if_pos hm]
  go_wp2_with fail
  refine (Ay h2 [33] (by decide) hm).mono ?_;rintro e w3 ⟨rfl,h3,aj⟩;have bk:=(aj.block _ ag a8).trans b5;have ah:=af.call aj af.size;have ay:w.heap.size<w3.heap.size:=AL ag aj.size;clear hm b5 af ag h2 aj;go_wp2_with fail;refine (ce r w3 h3).mono ?_;rcases hq:Px.unary k r with⟨x,l1⟩ | ⟨a,er⟩
  .rintro e w4 ⟨v,rfl,⟨kk,o,n,tt,ao,an,ac,p,rfl,hx⟩,h4,a5⟩;replace a0:Aside (res=.inl (.mk 14 0 0 [] [x] t.place,l1)):=by
    show _=_;rw[a0.out,hq];rfl
   have c0:=(a5.block _ ay a8).trans bk;have av:w.heap.size<w4.heap.size:=AL ay a5.size;obtain⟨e0,e1,e2,e3,e4,e5,e6,e7,m0,m1,m2,m3,m4,m5,m6,m7⟩:=Ab c0;have aa:=Mg (kk:=14) (pl:=t.place) h4 (ah.call a5 ah.size) a8 az av hx (λ g hg=>AL ay hg);clear hq;go_wp2;rw[a0.out];exact bodyPost_ret (by simp[results,results216,go_sem,e0,e1,e2,e3,e4,e5,e6,e7,av]) rfl aa
  .rintro e w4 ⟨rfl,a5⟩;refine⟨rfl,?_⟩;rw[a0.out,hq];exact⟨rfl,ah.call a5 ah.size⟩
 replace a0:Aside (res=Px.bind (Px.primary (Px.expr' k) (t :: r)) λ x l1=>Px.ats (Px.expr' k) (l1.length+1) x l1):=by
  show _=_;rw[a0.out,if_neg (by rw[hm];simp)]
 go_wp2_with fail
 refine (A8 h2 [33] hm).mono ?_;rintro e w3 ⟨rfl,h3,bp⟩;have bk:=(bp.block _ ag).trans b5;have ah:=af.below bp af.size;have ay:w.heap.size<w3.heap.size:=AL ag bp.size;clear hm b5 af ag h2 bp;go_wp2_with fail;refine (bi b ga (t :: r) w3 h3).mono ?_;rcases hq:Px.primary (Px.expr' k) (t :: r) with⟨x,l1⟩ | ⟨a,er⟩
 rotate_left
 .rintro e w4 ⟨rfl,a5⟩;refine⟨rfl,?_⟩;rw[a0.out,hq];exact⟨rfl,ah.call a5 ah.size⟩
 rintro e w4 ⟨v,rfl,⟨kk,o,n,tt,ao,an,ac,p,rfl,hx⟩,h4,a5⟩;replace a0:Aside (res=Px.ats (Px.expr' k) (l1.length+1) x l1):=by
  show _=_;rw[a0.out,hq];rfl
 have av:w.heap.size<w4.heap.size:=AL ay a5.size;have hA:BinAt b ga w4.heap.size w x l1 (w4.alloc (eO kk o n tt (.slice ao an ac) p)):=by
  refine⟨h4.alloc _,⟨kk,o,n,tt,ao,an,ac,p,heap_new w4 _,?_⟩,(Al av).trans ((a5.block _ ay a8).trans bk),(ah.call a5 ah.size).alloc (Nat.le_of_lt av) _⟩;exact (hx.plow (λ g hg hlt=>⟨AL ay hg,Nat.ne_of_lt hlt⟩)).since (Since.of_below ((AF _ _).alloc (AD _) _))
 have b3:w4.heap.size≠b:=by have:=h4.there;omega
 have cg:w4.heap.size≠ga:=by have:=h4.gl;omega
 clear hq bk ah a5 h3 hx h4;go_wp2_with fail;generalize w4.alloc (eO kk o n tt (.slice ao an ac) p)=w5 at *;generalize w4.heap.size=g7 at *
 go_loopg [] (l1.length+1) (λ m wr=>∃(acc:Px.Ex) (l4:List Lx.Tok),m=l4.length+1/\BinAt b ga g7 w acc l4 wr/\Aside (res=Px.ats (Px.expr' k) (l4.length+1) acc l4))
 case atStart=>exact⟨x,l1,rfl,hA,a0⟩
 case round=>
  clear a0 hA;obtain⟨acc,l4,rfl,hA,a0⟩:=hrel;have hI:=G9 hA.ps [91];have c8:w.heap.size<wr.heap.size:=(AB hA.out).1;obtain⟨kk,o,nn,tt,ao,an,ac,p,ad,ai⟩:=hA.box;have cc:g7<wr.heap.size:=(AB ad).1;have bq:¬(w.heap.size<b/\b≠g7):=by omega
  rcases hm:Px.sees 4 [91] l4 with _ | _
  .rw[show Px.sees (cls [91]) [91] l4=false from hm] at hI;replace a0:Aside (res=.inl (acc,l4)):=by
    show _=_;rw[a0.out];simp only[Px.ats];rw[if_neg (by rw[hm];simp)]
   clear hm;go_wp2_with fail;refine hI.mono ?_;rintro e w6 ⟨rfl,a6⟩;have ak:=(a6.block g7 cc).trans ad;have am:=(a6.block _ c8).trans hA.out;have cj:g7<w6.heap.size:=(AB ak).1;have cm:w.heap.size<w6.heap.size:=(AB am).1;have aa:=D8 (hA.ps.below a6) (hA.fo.below a6 hA.fo.size) a8 az (ai.since (Since.of_below a6)) (λ g hg=>hg.1);obtain⟨y0,y1,y2,y3,y4,y5,y6,y7,_⟩:=Ab ak;obtain⟨e0,e1,e2,e3,e4,e5,e6,e7,m0,m1,m2,m3,m4,m5,m6,m7⟩:=Ab am;clear a6 ad ai hI hA;go_wp2;rw[a0.out];exact bodyPost_ret (by simp[results,results216,go_sem,e0,e1,e2,e3,e4,e5,e6,e7]) rfl aa
  .rw[show Px.sees (cls [91]) [91] l4=true from hm] at hI;obtain⟨u,rr,rfl,cy,_⟩:=Px.sees_head hm;replace a0:Aside (res=Px.bind (Px.expr' k rr) λ x l1=>Px.bind (Px.need [93] l1) λ _ l2=>Px.ats (Px.expr' k) (rr.length+1) (.mk 12 0 0 [] [acc,x] u.place) l2):=by
    show _=_;rw[a0.out];simp only[Px.ats,length_cons];rw[if_pos hm];rfl
   clear hm;go_wp2_with fail;refine hI.mono ?_;rintro e w6 ⟨rfl,a6⟩;have ca:=hA.ps.below a6;go_wp2_with fail;refine (ptake_any ca (by omega)).mono ?_;rintro e w7 ⟨rfl,bx,bc⟩;have ab:=(bc.block g7 (by have:=a6.size;omega) b3).trans ((a6.block g7 cc).trans ad);have a9:=(bc.block _ (by have:=a6.size;omega) a8).trans ((a6.block _ c8).trans hA.out);have ar:=(ai.since (Since.of_below a6)).since (bc.sinceB bq);have ba:=(hA.fo.below a6 hA.fo.size).call bc (by have:=a6.size;have:=hA.fo.size;omega);clear a6 bc ad ai hI ca hA;go_wp2_with fail;refine (bg rr w7 bx).mono ?_;rcases hqr:Px.expr' k rr with⟨y,l6⟩ | ⟨a,er⟩
   rotate_left
   .rintro e w8' ⟨rfl,aq⟩;refine⟨rfl,?_⟩;rw[a0.out,hqr];exact⟨rfl,ba.call aq ba.size⟩
   rintro e w8' ⟨v,rfl,⟨k2,o2,n2,t2,bh,b8,b9,p2,rfl,hy⟩,c3,aq⟩;have cv:=((bv rr bx.good).ok y l6 hqr).less;replace a0:Aside (res=Px.bind (Px.need [93] l6) λ _ l2=>Px.ats (Px.expr' k) (rr.length+1) (.mk 12 0 0 [] [acc,y] u.place) l2):=by
    show _=_;rw[a0.out,hqr];rfl
   have c6:g7<w7.heap.size:=(AB ab).1;have c7:w.heap.size<w7.heap.size:=(AB a9).1;have b4:Below w8'.heap.size w8' (w8'.alloc (eO k2 o2 n2 t2 (.slice bh b8 b9) p2)):=(AF _ _).alloc (AD _) _;have cq:=aq.size;have aw:=(b4.block g7 (by omega)).trans ((aq.block g7 c6 b3).trans ab);have au:=(b4.block _ (by omega)).trans ((aq.block _ c7 a8).trans a9);have al:=(ar.since (aq.sinceB bq)).since (Since.of_below b4);have cf:=(hy.plow (B':=λ g=>w.heap.size<g/\g≠g7) (λ g hg _=>by have cu:w7.heap.size<=g:=hg;omega)).since (Since.of_below b4);have bl:=c3.below b4;have be:=(ba.call aq ba.size).below b4 (by omega);have ch:=heap_new w8' (eO k2 o2 n2 t2 (.slice bh b8 b9) p2);have cz:(w8'.alloc (eO k2 o2 n2 t2 (.slice bh b8 b9) p2)).heap.size=w8'.heap.size+1:=by simp
   have c2:w8'.heap.size≠b:=by have:=c3.there;omega
   clear aq hqr ar ab a9 hy ba bx c3 b4
   go_upto_region 11 with fail
   generalize w8'.alloc (eO k2 o2 n2 t2 (.slice bh b8 b9) p2)=w9 at *;generalize w8'.heap.size=g8 at *;go_wp2_with fail;refine (pneed_any bl 4 [93] (by decide) (by decide)).mono ?_;rcases hqn:Px.need [93] l6 with⟨uu,l9⟩ | ⟨a,er⟩
   rotate_left
   .rw[show Px.needK 4 [93] l6=_ from hqn];rintro e w10 ⟨rfl,a4⟩;refine⟨rfl,?_⟩;rw[a0.out,hqn];exact⟨rfl,be.call a4 be.size⟩
   rw[show Px.needK 4 [93] l6=_ from hqn];rintro e w10 ⟨v,rfl,rfl,b0,a4⟩;have ci:=((Px.need_res bl.good).ok uu l9 hqn).less;have c4:=((Px.need_res bl.good).ok uu l9 hqn).good;replace a0:Aside (res=Px.ats (Px.expr' k) (l9.length+1) (.mk 12 0 0 [] [acc,y] u.place) l9):=by
    show _=_;rw[a0.out,hqn];exact ats_fuel bv _ _ _ _ c4 (by omega) (by omega)
   have a7:=(a4.block g7 (by omega) b3).trans aw;have ae:=(a4.block _ (by omega) a8).trans au;have bd:=(a4.block g8 (by omega) c2).trans ch;have ax:=al.since (a4.sinceB bq);have c1:=cf.since (a4.sinceB bq);have bw:=be.call a4 be.size;have cd:g7<w10.heap.size:=(AB a7).1;have bb:w.heap.size<w10.heap.size:=(AB ae).1;have co:g8<w10.heap.size:=(AB bd).1;obtain⟨y0,y1,y2,y3,y4,y5,y6,y7,j0,j1,j2,j3,j4,j5,j6,j7⟩:=Ab a7;obtain⟨x0,x1,x2,x3,x4,x5,x6,x7,_⟩:=Ab bd;clear hqn a4 aw au ch al cf be bl;go_wp2;obtain⟨bt,a3,cl,c5⟩:=Ah5 (P:=λ g=>w.heap.size<g/\g≠g7) (kk:=12) (op:=0) (pl:=u.place) (k2:=k2) (o2:=o2) (n2:=n2) (p2:=p2) (t2:=t2) (sl2:=.slice bh b8 b9) (by omega) (λ hh=>hh.2 rfl) a7 rfl;go_roundg (l9.length+1)
   case measure=>simp only[length_cons];omega
   case rel=>
    refine⟨_,l9,rfl,⟨?_,⟨12,0,0,[],_,2,2,u.place,bt,c5 acc y ax c1⟩,?_,?_⟩,a0⟩
    .exact b0.keep (a3.block _ b0.there (by omega)) (a3.block _ b0.gl (by omega)) a3.size
    .exact (a3.block _ bb (by omega)).trans ae
    .exact bw.trans ⟨a3.os,a3.tape,a3.output,a3.size,λ j h1 h2=>a3.block j (by omega) (by omega)⟩
theorem Mh:∀(k d:Nat),d+k=25->Y0 d (Px.unary k)
 | 0,d,h=>by
  have:d=25:=by omega
  subst this;exact Sz
 | k+1,d,h=>S0 h (Mh k (d+1) (by omega))
theorem pexpr_deep(k d:Nat)(h:d+k=25):Ek d (Px.expr' k):=Og (by omega) (Px.unary_ok k) (Mh k d h)
theorem F5.since{acc:List Px.Ex}(h:F5 m w sl acc)(f:∀k,m<=k->k<w.heap.size->w'.heap[k]?=w.heap[k]?)(hs:w.heap.size<=w'.heap.size):F5 m w' sl acc:=by
 obtain⟨row,⟨h1,h2⟩,h3⟩:=h;refine⟨row,⟨h1,?_⟩,h3.since ⟨hs,λ k hk hl=>f k hk.1 hl⟩⟩;rcases h2 with h2 | ⟨g,cap,cur,hv,hg,hh,r⟩
 .exact AI h2
 .exact AJ ⟨g,cap,cur,hv,hg,(f g hg (AB hh).1).trans hh,r⟩
theorem PStBox.set{gd gx k k':Nat}{nm nm':Lx.B}{b1 b2 b1' b2':Value}{acc:List Px.Ex}(h:PStBox b gp gd gx ge d k nm b1 b2 pl acc w)(h2:gp<gd)(h3:gd<gx)(h4:gx<ge)
  (hset:∀sl,w.heap[gx]?=some (sO k nm sl b1 b2 pl)->(w.setCell ⟨gx,j,none⟩ v).heap[gx]?=some (sO k' nm' sl b1' b2' pl)):PStBox b gp gd gx ge d k' nm' b1' b2' pl acc (w.setCell ⟨gx,j,none⟩ v):=by
 obtain⟨hp,hd,he,sl,hx,hg⟩:=h;have a0:∀i,i≠gx->(w.setCell ⟨gx,j,none⟩ v).heap[i]?=w.heap[i]?:=λ i hi=>AG _ _ _ _ hi
 exact⟨(a0 _ (by omega)).trans hp,(a0 _ (by omega)).trans hd,(a0 _ (by omega)).trans he,sl,hset sl hx,hg.since (λ i hi _=>a0 i (by omega)) (by simp[World.setCell])⟩
theorem PStBox.lts{gd gx k:Nat}{nm:Lx.B}{b1 b2:Value}{acc:List Px.Ex}(h:PStBox b gp gd gx ge d k nm b1 b2 pl acc w):gp<w.heap.size/\gd<w.heap.size/\ge<w.heap.size/\gx<w.heap.size:=by
 obtain⟨hp,hd,he,sl,hx,hg⟩:=h;exact⟨(AB hp).1,(AB hd).1,(AB he).1,(AB hx).1⟩
def Ah6(b ga gp gd gx ge d k:Nat)(b1 b2:Value)(pl:Nat)(acc:List Px.Ex)(w:World)(r:Px.R Lx.Tok)(e:Ending)(w':World):Prop:=
 match r with
 | .inl (t,l')=>e=.returned (.tuple #[])/\PStBox b gp gd gx ge d k t.text b1 b2 pl acc w'/\Ps b ga l' w'/\Fo b gx w w'
 | .inr (a,er)=>e=.panicked (Bs a er)/\Fo b gx w w'
theorem I9{gd gx k:Nat}{nm:Lx.B}{b1 b2:Value}{acc:List Px.Ex}{l:List Lx.Tok}(h1:b<gp)(h2:gp<gd)(h3:gd<gx)(h4:gx<ge)(a6:ga<gp)(h:Ps b ga l w)(hi:PStBox b gp gd gx ge d k nm b1 b2 pl acc w) :
  AA 162 #[pt gp 0,pt gx 0] w λ e w'=>Ah6 b ga gp gd gx ge d k b1 b2 pl acc w (Px.name l) e w':=by
 obtain⟨l1,l2,l3,l4⟩:=hi.lts;have c0:=cell_of_one hi.ptr;have a7:=W4;have hC:=Ha h;obtain⟨res,a0⟩:∃res,Aside (res=Px.name l):=⟨_,rfl⟩;rw[<-a0.out] at hC ⊢;clear a0;go_enter func162,ntmps162;go_wp2_with fail;refine hC.mono ?_;rcases res with⟨t,l'⟩ | ⟨a,er⟩
 .rintro e w1 ⟨v,rfl,rfl,hP,hf⟩;have a5:=hi.fo hf h1 h2 h3 h4;obtain⟨m1,m2,m3,m4⟩:=a5.lts;obtain⟨sl,hx,_⟩:=a5.box;have a3:=a5.set (j:=1) (v:=.string ⟨t.text.toArray⟩) (k':=k) (nm':=t.text) (b1':=b1) (b2':=b2) h2 h3 h4 (λ sl hh=>by simp[World.setCell,Array.getElem?_modify,hh]);obtain⟨_,x1,_,_,_,_,_,_,_,_,f1,_⟩:=Ad hx;have a4:Ah6 b ga gp gd gx ge d k b1 b2 pl acc w (.inl (t,l')) (.returned (.tuple #[])) (w1.setCell ⟨gx,1,none⟩ (.string ⟨t.text.toArray⟩)):=⟨rfl,a3,hP.other 1 _ (by omega) (by omega),(hf.mono (by omega)).fresh (AD _) 1 _⟩;clear hC hi a5 a3;go_wp2
  go_end0
  exact a4
 .rintro e w1 ⟨rfl,hf⟩;exact⟨rfl,rfl,hf.mono (by omega)⟩
def placeR(e:Px.P Px.Ex)(l:List Lx.Tok):Px.R Px.Ex:=Px.bind (Px.need [91] l) λ _ l1=>Px.bind (e l1) λ x l2=>Px.bind (Px.need [93] l2) λ _ l3=>.inl (x,l3)
theorem Oo{gd gx k:Nat}{nm:Lx.B}{b1 b2:Value}{acc:List Px.Ex}{l:List Lx.Tok}{q:Px.P Px.Ex}(hd:d<=30)(aj:Px.Ok q)(aa:Ek (d+1) q)(h1:b<gp)(h2:gp<gd)(h3:gd<gx)(h4:gx<ge)(ag:ga<gp)(h:Ps b ga l w)(hi:PStBox b gp gd gx ge d k nm b1 b2 pl acc w)(ak:acc.length+l.length<=4096) :
  AA 165 #[pt gp 0,pt ge 0] w λ e w'=>Dq b ga gx (PStBox b gp gd gx ge d k nm b1 b2 pl) acc w (placeR q l) e w':=by
 obtain⟨res,a0⟩:∃res,Aside (res=placeR q l):=⟨_,rfl⟩;rw[<-a0.out];obtain⟨l1,l2,l3,l4⟩:=hi.lts;have c0:=cell_of_one hi.ptr;have a3:∀u l1,Px.need [91] l=.inl (u,l1)->l1.length<=l.length:=λ u l1 hh=>by have:=((Px.need_res h.good).ok u l1 hh).less;omega
 go_enter func165,ntmps165;go_wp2_with fail;refine (pneed_any h 4 [91] (by decide) (by decide)).mono ?_;rcases hq:Px.need [91] l with⟨u,l1⟩ | ⟨a,er⟩
 rotate_left
 .rw[show Px.needK 4 [91] l=_ from hq];rintro e w1 ⟨rfl,a4⟩;refine⟨rfl,?_⟩;rw[a0.out,placeR,hq];exact⟨rfl,a4.mono (by omega)⟩
 rw[show Px.needK 4 [91] l=_ from hq];rintro e w1 ⟨v,rfl,rfl,ae,a4⟩;replace a0:Aside (res=Px.bind (q l1) λ x l2=>Px.bind (Px.need [93] l2) λ _ l3=>.inl (x,l3)):=by
  show _=_;rw[a0.out,placeR,hq];rfl
 have ai:=a3 u l1 hq;have a5:=hi.fo a4 h1 h2 h3 h4;obtain⟨m1,m2,m3,m4⟩:=a5.lts;have e1:=cell_of_one a5.fe;have a9:Fo b gx w w1:=a4.mono (by omega);have hC:=Ff (n:=gx) hd aa h1 h2 h3 h4 ag (AD _) acc l1 w1 ae a5 (by omega) (by omega);clear hq hi c0 a4 a3;go_wp2_with fail;refine hC.mono ?_;rcases hq:q l1 with⟨x,l2⟩ | ⟨a,er⟩
 rotate_left
 .rintro e w2 ⟨rfl,a7⟩;refine⟨rfl,?_⟩;rw[a0.out,hq];exact⟨rfl,a9.trans a7⟩
 rintro e w2 ⟨rfl,a8,af,a7⟩;replace a0:Aside (res=Px.bind (Px.need [93] l2) λ _ l3=>.inl (x,l3)):=by
  show _=_;rw[a0.out,hq];rfl
 have c2:=cell_of_one a8.ptr;have ab:=a9.trans a7;obtain⟨n1,n2,n3,n4⟩:=a8.lts;clear hq a5 e1 a7 hC a9;go_wp2_with fail;refine (pneed_any af 4 [93] (by decide) (by decide)).mono ?_;rcases hq:Px.need [93] l2 with⟨u,l3⟩ | ⟨a,er⟩
 .rw[show Px.needK 4 [93] l2=_ from hq];rintro e w3 ⟨v,rfl,rfl,ad,a6⟩;replace a0:Aside (res=.inl (x,l3)):=by
   show _=_;rw[a0.out,hq];rfl
  have ah:=a8.fo a6 h1 h2 h3 h4;clear hq;go_wp2
  go_end0
  rw[a0.out];exact⟨rfl,ah,ad,ab.trans (a6.mono (by omega))⟩
 .rw[show Px.needK 4 [93] l2=_ from hq];rintro e w3 ⟨rfl,a6⟩;refine⟨rfl,?_⟩;rw[a0.out,hq];exact⟨rfl,ab.trans (a6.mono (by omega))⟩
def valueR(e:Px.P Px.Ex)(l:List Lx.Tok):Px.R Px.Ex:=Px.bind (Px.need [61] l) λ _ l1=>Px.bind (e l1) λ x l2=>Px.bind (Px.need [59] l2) λ _ l3=>.inl (x,l3)
theorem J1{gd gx k:Nat}{nm:Lx.B}{b1 b2:Value}{acc:List Px.Ex}{l:List Lx.Tok}{q:Px.P Px.Ex}(hd:d<=30)(aj:Px.Ok q)(aa:Ek (d+1) q)(h1:b<gp)(h2:gp<gd)(h3:gd<gx)(h4:gx<ge)(ag:ga<gp)(h:Ps b ga l w)(hi:PStBox b gp gd gx ge d k nm b1 b2 pl acc w)(ak:acc.length+l.length<=4096) :
  AA 166 #[pt gp 0,pt ge 0] w λ e w'=>Dq b ga gx (PStBox b gp gd gx ge d k nm b1 b2 pl) acc w (valueR q l) e w':=by
 obtain⟨res,a0⟩:∃res,Aside (res=valueR q l):=⟨_,rfl⟩;rw[<-a0.out];obtain⟨l1,l2,l3,l4⟩:=hi.lts;have c0:=cell_of_one hi.ptr;have a3:∀u l1,Px.need [61] l=.inl (u,l1)->l1.length<=l.length:=λ u l1 hh=>by have:=((Px.need_res h.good).ok u l1 hh).less;omega
 go_enter func166,ntmps166;go_wp2_with fail;refine (pneed_any h 4 [61] (by decide) (by decide)).mono ?_;rcases hq:Px.need [61] l with⟨u,l1⟩ | ⟨a,er⟩
 rotate_left
 .rw[show Px.needK 4 [61] l=_ from hq];rintro e w1 ⟨rfl,a4⟩;refine⟨rfl,?_⟩;rw[a0.out,valueR,hq];exact⟨rfl,a4.mono (by omega)⟩
 rw[show Px.needK 4 [61] l=_ from hq];rintro e w1 ⟨v,rfl,rfl,ae,a4⟩;replace a0:Aside (res=Px.bind (q l1) λ x l2=>Px.bind (Px.need [59] l2) λ _ l3=>.inl (x,l3)):=by
  show _=_;rw[a0.out,valueR,hq];rfl
 have ai:=a3 u l1 hq;have a5:=hi.fo a4 h1 h2 h3 h4;obtain⟨m1,m2,m3,m4⟩:=a5.lts;have e1:=cell_of_one a5.fe;have a9:Fo b gx w w1:=a4.mono (by omega);have hC:=Ff (n:=gx) hd aa h1 h2 h3 h4 ag (AD _) acc l1 w1 ae a5 (by omega) (by omega);clear hq hi c0 a4 a3;go_wp2_with fail;refine hC.mono ?_;rcases hq:q l1 with⟨x,l2⟩ | ⟨a,er⟩
 rotate_left
 .rintro e w2 ⟨rfl,a7⟩;refine⟨rfl,?_⟩;rw[a0.out,hq];exact⟨rfl,a9.trans a7⟩
 rintro e w2 ⟨rfl,a8,af,a7⟩;replace a0:Aside (res=Px.bind (Px.need [59] l2) λ _ l3=>.inl (x,l3)):=by
  show _=_;rw[a0.out,hq];rfl
 have c2:=cell_of_one a8.ptr;have ab:=a9.trans a7;obtain⟨n1,n2,n3,n4⟩:=a8.lts;clear hq a5 e1 a7 hC a9;go_wp2_with fail;refine (pneed_any af 4 [59] (by decide) (by decide)).mono ?_;rcases hq:Px.need [59] l2 with⟨u,l3⟩ | ⟨a,er⟩
 .rw[show Px.needK 4 [59] l2=_ from hq];rintro e w3 ⟨v,rfl,rfl,ad,a6⟩;replace a0:Aside (res=.inl (x,l3)):=by
   show _=_;rw[a0.out,hq];rfl
  have ah:=a8.fo a6 h1 h2 h3 h4;clear hq;go_wp2
  go_end0
  rw[a0.out];exact⟨rfl,ah,ad,ab.trans (a6.mono (by omega))⟩
 .rw[show Px.needK 4 [59] l2=_ from hq];rintro e w3 ⟨rfl,a6⟩;refine⟨rfl,?_⟩;rw[a0.out,hq];exact⟨rfl,ab.trans (a6.mono (by omega))⟩
def Qi(d:Nat)(q:Px.P (List Px.St)):Prop:=∀(b ga:Nat) (l:List Lx.Tok) (w:World),Ps b ga l w->AA 111 #[pt b 0,iv d] w λ e w'=>Cw b ga w (q l) (λ x v w'=>Bn (From w.heap.size) w' x v) e w'
theorem J2{gd:Nat}{l:List Lx.Tok}{q:Px.P (List Px.St)}(hd:d<=30)(a3:Qi (d+1) q)(h:Ps b ga l w)(hp:w.heap[gp]?=some (Db b))(a4:w.heap[gd]?=some (Fw d)) :
  AA 167 #[pt gp 0,pt gd 0] w λ e w'=>Cw b ga w (q l) (λ x v w'=>Bn (From w.heap.size) w' x v) e w':=by
 have c0:=cell_of_one hp;have d0:=cell_of_one a4;have a5:(d:Int)<=30:=by omega
 have hC:AA 111 #[pt b 0,iv ((d:Int)+1)] w λ e w'=>Cw b ga w (q l) (λ x v w'=>Bn (From w.heap.size) w' x v) e w':=a3 b ga l w h
 obtain⟨res,a0⟩:∃res,Aside (res=q l):=⟨_,rfl⟩;rw[<-a0.out] at hC ⊢;clear a0;go_enter func167,ntmps167;go_wp2_with fail;refine hC.mono ?_;rcases res with⟨x,l'⟩ | ⟨a,er⟩
 .rintro e w1 ⟨v,rfl,hv,hP,hf⟩;obtain⟨ao,an,ac,rfl⟩:∃ao an ac,v=.slice ao an ac:=by
   obtain⟨row,h1,_⟩:=hv;obtain⟨ao,ac,hh,_⟩:=h1.slice;exact⟨ao,_,ac,hh⟩
  go_wp2;go_ret;exact⟨_,rfl,hv,hP,hf⟩
 .rintro e w1 ⟨rfl,hf⟩;exact⟨rfl,rfl,hf⟩
theorem Cq{α β γ:Type}(r:Px.R α)(f:α->List Lx.Tok->Px.R β)(g:β->List Lx.Tok->Px.R γ):Px.bind (Px.bind r f) g=Px.bind r λ x l=>Px.bind (f x l) g:=by
 match r with
 | .inl (x,l)=>rfl
 | .inr e=>rfl
theorem Dw{α β:Type}(x:α)(l:List Lx.Tok)(f:α->List Lx.Tok->Px.R β):Px.bind (.inl (x,l)) f=f x l:=rfl
def Bb2(e:Px.P Px.Ex)(pl:Nat)(l:List Lx.Tok):Px.R Px.St:=Px.bind (Px.name l) λ t l1=>Px.bind (valueR e l1) λ x l4=>.inl (.mk 1 t.text [x] [] [] pl,l4)
def Ax6(e:Px.P Px.Ex)(pl:Nat)(l:List Lx.Tok):Px.R Px.St:=Px.bind (Px.name l) λ t l1=>if Px.sees 4 [91] l1 then Px.bind (placeR e l1) λ y l2=>Px.bind (valueR e l2) λ x l4=>.inl (.mk 2 t.text [y,x] [] [] pl,l4) else Px.bind (valueR e l1) λ x l4=>.inl (.mk 2 t.text [x] [] [] pl,l4)
def Ar0(e:Px.P Px.Ex)(pl:Nat)(l:List Lx.Tok):Px.R Px.St:=Px.bind (Px.name l) λ t l1=>Px.bind (placeR e l1) λ x l4=>Px.bind (Px.need [59] l4) λ _ l5=>.inl (.mk 3 t.text [x] [] [] pl,l5)
def ifR(e:Px.P Px.Ex)(blk:Px.P (List Px.St))(pl:Nat)(l:List Lx.Tok):Px.R Px.St:=Px.bind (e l) λ x l1=>Px.bind (blk l1) λ b l2=>if Px.sees 1 [101,108,115,101] l2 then Px.bind (blk l2.tail) λ c l3=>.inl (.mk 4 [] [x] b c pl,l3) else .inl (.mk 4 [] [x] b [] pl,l2)
def Ah7(e:Px.P Px.Ex)(blk:Px.P (List Px.St))(pl:Nat)(l:List Lx.Tok):Px.R Px.St:=Px.bind (Px.name l) λ t l1=>Px.bind (Px.needK 1 [116,111] l1) λ _ l2=>Px.bind (e l2) λ x l3=>Px.bind (blk l3) λ b l4=>.inl (.mk 5 t.text [x] b [] pl,l4)
def Va(e:Px.P Px.Ex)(pl:Nat)(l:List Lx.Tok):Px.R Px.St:=Px.bind (Px.needK 1 [114,101,116] l) λ _ l1=>Px.bind (e l1) λ x l2=>Px.bind (Px.need [59] l2) λ _ l3=>.inl (.mk 6 [] [x] [] [] pl,l3)
theorem Vb(e:Px.P Px.Ex)(blk:Px.P (List Px.St))(l:List Lx.Tok):Px.stmt e blk l =
  if Px.sees 1 [108,101,116] l then Bb2 e (Px.place l) l.tail else if Px.sees 1 [115,101,116] l then Ax6 e (Px.place l) l.tail else if Px.sees 1 [100,101,108] l then Ar0 e (Px.place l) l.tail
  else if Px.sees 1 [105,102] l then ifR e blk (Px.place l) l.tail else if Px.sees 1 [102,111,114] l then Ah7 e blk (Px.place l) l.tail else Va e (Px.place l) l:=by
 unfold Px.stmt;split
 .simp only[Bb2,valueR,Cq,Dw]
 split
 .simp only[Ax6,valueR,placeR,Cq,Dw];refine Px.bind_congr λ t l1 _=>?_
  unfold Px.opt;rcases hs:Px.sees 4 [91] l1 with _ | _
  .rfl
  .simp only[if_true];have hn:Px.need [91] l1=.inl ((),l1.tail):=by unfold Px.need Px.needK;rw[if_pos hs]
   rw[hn];simp only[Cq,Dw];rfl
 split
 .simp only[Ar0,placeR,Cq,Dw]
 split
 .simp only[ifR];refine Px.bind_congr λ x l1 _=>Px.bind_congr λ b l2 _=>?_
  unfold Px.other;rcases hs:Px.sees 1 [101,108,115,101] l2 with _ | _
  .rfl
  .rfl
 split
 .rfl
 .unfold Va Px.needK;rcases hs:Px.sees 1 [114,101,116] l with _ | _
  .rfl
  .rfl
abbrev Ja:Obj:=sO 0 [] sZ sZ sZ 0
abbrev sV(k:Nat)(nm:Lx.B)(es b1 b2:Value)(pl:Nat):Value:=.agg #[iv k,.string ⟨nm.toArray⟩,iv 0,.bool false,iv 0,es,b1,b2,iv pl]
abbrev sJ(k:Nat)(nm:Lx.B)(es b1 b2:Value)(pl:Nat):List Value:=[iv k,.string ⟨nm.toArray⟩,iv 0,.bool false,iv 0,es,b1,b2,iv pl]
abbrev sS(w:World)(g k:Nat)(nm:Lx.B)(es b1 b2:Value)(pl:Nat):World:=w9 w g (iv k) (.string ⟨nm.toArray⟩) (iv 0) (.bool false) (iv 0) es b1 b2 (iv pl)
def StV(B:AS)(w:World)(s:Px.St)(v:Value):Prop:=∃k nm a1 n1 c1 a2 n2 c2 a3 n3 c3 pl,v=sV k nm (.slice a1 n1 c1) (.slice a2 n2 c2) (.slice a3 n3 c3) pl/\IsSt B w s (sJ k nm (.slice a1 n1 c1) (.slice a2 n2 c2) (.slice a3 n3 c3) pl)
abbrev Ah8(b ga:Nat)(w:World)(r:Px.R Px.St)(e:Ending)(w':World):Prop:=Cw b ga w r (λ x v w'=>StV (From w.heap.size) w' x v) e w'
theorem Bn.since'{B:AS}{l:List Px.St}(h:Bn B w l v)(s:Since B w w'):Bn B w' l v:=by
 obtain⟨row,h1,h2⟩:=h;exact⟨row,h1.since s,h2.since s⟩
theorem Bn.base'{B:AS}{l:List Px.St}(h:Bn B w l v)(hb:∀k,B k->B' k):Bn B' w l v:=by
 obtain⟨row,h1,h2⟩:=h;exact⟨row,h1.base hb,h2.base hb⟩
theorem Bn.nil'(B:AS)(w:World):Bn B w [] sZ:=⟨[],⟨rfl,AI ⟨rfl,rfl⟩⟩,by rw[As]⟩
abbrev BC:=@Bn.nil'
theorem Bn.slc{B:AS}{l:List Px.St}(h:Bn B w l v):∃ao an ac,v=.slice ao an ac:=by
 obtain⟨row,h1,_⟩:=h;obtain⟨ao,ac,hh,_⟩:=h1.slice;exact⟨ao,_,ac,hh⟩
structure SS(b ga gs ge d pl:Nat)(k:Nat)(nm:Lx.B)(b1 b2:Value)(body other:List Px.St)(acc:List Px.Ex)(l:List Lx.Tok)(w0 w:World):Prop where
 ps:Ps b ga l w
 st:PStBox b w0.heap.size (w0.heap.size+1) gs ge d k nm b1 b2 pl acc w
 out:w.heap[w0.heap.size+1+1]?=some Ja
 fo:Fo b w0.heap.size w0 w
 i1:Bn (From (ge+1)) w body b1
 i2:Bn (From (ge+1)) w other b2
 lo:b<w0.heap.size/\ga<w0.heap.size/\w0.heap.size+2<gs/\gs<ge
theorem SS.call{gs k:Nat}{nm:Lx.B}{b1 b2:Value}{body other:List Px.St}{acc:List Px.Ex}{l l':List Lx.Tok}{w0:World}(h:SS b ga gs ge d pl k nm b1 b2 body other acc l w0 w)(f:Fo b w.heap.size w w')(hp:Ps b ga l' w'):SS b ga gs ge d pl k nm b1 b2 body other acc l' w0 w':=by
 obtain⟨h1,h2,h3,h4⟩:=h.lo;exact⟨hp,h.st.fo f (by omega) (by omega) (by omega) h4,(f.block _ (AB h.out).1 (by omega)).trans h.out,h.fo.call f h.fo.size,h.i1.since' (f.since (by omega)),h.i2.since' (f.since (by omega)),h.lo⟩
theorem SS.below{gs k:Nat}{nm:Lx.B}{b1 b2:Value}{body other:List Px.St}{acc:List Px.Ex}{l:List Lx.Tok}{w0:World}(h:SS b ga gs ge d pl k nm b1 b2 body other acc l w0 w)(f:Below w.heap.size w w'):SS b ga gs ge d pl k nm b1 b2 body other acc l w0 w':=h.call (AW f) (h.ps.below f)
theorem SS.part{gs k:Nat}{nm nm':Lx.B}{acc acc':List Px.Ex}{l l':List Lx.Tok}{w0:World}(h:SS b ga gs ge d pl k nm sZ sZ [] [] acc l w0 w)(hs:PStBox b w0.heap.size (w0.heap.size+1) gs ge d k nm' sZ sZ pl acc' w')(hp:Ps b ga l' w')(f:Fo b gs w w'):SS b ga gs ge d pl k nm' sZ sZ [] [] acc' l' w0 w':=by
 obtain⟨h1,h2,h3,h4⟩:=h.lo;exact⟨hp,hs,(f.block _ (by omega) (by omega)).trans h.out,h.fo.trans (f.mono (by omega)),BC _ _,BC _ _,h.lo⟩
theorem SS.set{gs k k':Nat}{nm:Lx.B}{b1 b2 b1' b2':Value}{body other body' other':List Px.St}{acc:List Px.Ex}{l:List Lx.Tok}{w0:World}(h:SS b ga gs ge d pl k nm b1 b2 body other acc l w0 w)
  (hset:∀sl,w.heap[gs]?=some (sO k nm sl b1 b2 pl)->(w.setCell ⟨gs,j,none⟩ v).heap[gs]?=some (sO k' nm sl b1' b2' pl)) (h1:Bn (From (ge+1)) w body' b1') (h2:Bn (From (ge+1)) w other' b2'):SS b ga gs ge d pl k' nm b1' b2' body' other' acc l w0 (w.setCell ⟨gs,j,none⟩ v):=by
 obtain⟨l1,l2,l3,l4⟩:=h.lo;have a0:Since (From (ge+1)) w (w.setCell ⟨gs,j,none⟩ v):=⟨by simp[World.setCell],λ i hi _=>AG _ _ _ _ (by have:ge+1<=i:=hi;show i≠gs;omega)⟩;exact⟨h.ps.other j v (by omega) (by omega),h.st.set (by omega) (by omega) l4 hset,(AG _ _ _ _ (by show w0.heap.size+1+1≠gs;omega)).trans h.out,h.fo.fresh (by omega) j v,h1.since' a0,h2.since' a0,h.lo⟩
theorem SS.lts{gs k:Nat}{nm:Lx.B}{b1 b2:Value}{body other:List Px.St}{acc:List Px.Ex}{l:List Lx.Tok}{w0:World}(h:SS b ga gs ge d pl k nm b1 b2 body other acc l w0 w):w0.heap.size<w.heap.size/\w0.heap.size+1<w.heap.size/\ge<w.heap.size/\gs<w.heap.size/\w0.heap.size+1+1<w.heap.size:=by
 obtain⟨a1,a2,a3,a4⟩:=h.st.lts;exact⟨a1,a2,a3,a4,(AB h.out).1⟩
theorem Gm{gs k:Nat}{nm:Lx.B}{a2 a3:Option Addr}{n2 c2 n3 c3:Nat}{body other:List Px.St}{acc:List Px.Ex}{l:List Lx.Tok}{w0:World}{a1:Option Addr}{n1 c1:Nat}(h:SS b ga gs ge d pl k nm (.slice a2 n2 c2) (.slice a3 n3 c3) body other acc l w0 w)(hx:w.heap[gs]?=some (sO k nm (.slice a1 n1 c1) (.slice a2 n2 c2) (.slice a3 n3 c3) pl))(hg:F5 (ge+1) w (.slice a1 n1 c1) acc) :
  Ah8 b ga w0 (.inl (.mk k nm acc body other pl,l)) (.returned (sV k nm (.slice a1 n1 c1) (.slice a2 n2 c2) (.slice a3 n3 c3) pl)) (sS w (w0.heap.size+1+1) k nm (.slice a1 n1 c1) (.slice a2 n2 c2) (.slice a3 n3 c3) pl):=by
 obtain⟨l1,l2,l3,l4⟩:=h.lo;obtain⟨r1,g1,g2⟩:=hg.rows (B:=From (ge+1)) (λ k hk _=>hk);obtain⟨r2,x1,x2⟩:=h.i1;obtain⟨r3,y1,y2⟩:=h.i2;have hs:IsSt (From (ge+1)) w (.mk k nm acc body other pl) (sJ k nm (.slice a1 n1 c1) (.slice a2 n2 c2) (.slice a3 n3 c3) pl):=by
  rw[IsSt];exact⟨_,_,_,r1,r2,r3,rfl,g1,g2,x1,x2,y1,y2⟩
 refine⟨_,rfl,⟨k,nm,a1,n1,c1,a2,n2,c2,a3,n3,c3,pl,rfl,?_⟩,h.ps.set9 (by omega) (by omega) _ _ _ _ _ _ _ _ _,h.fo.set9 (by omega) _ _ _ _ _ _ _ _ _⟩;exact (hs.since (Since.set9' (λ hh=>by have:ge+1<=w0.heap.size+1+1:=hh;omega) _ _ _ _ _ _ _ _ _)).base (Cd (by omega))
theorem Vc{e:Px.P Px.Ex}(he:Px.Ok e){l:List Lx.Tok}(hg:Px.Good l):Px.Res 1 l (placeR e l):=(Px.need_res hg).bind1 λ _ l1 _ a1=>(he l1 a1.good).weak.bind0 λ _ l2 _ a2=>(Px.need_res a2.good).weak.bind0 λ _ l3 _ a3=>Px.Res.here a3.good
def Ah9(d:Nat)(q:Px.P Px.St):Prop:=∀(b ga:Nat) (l:List Lx.Tok) (w:World),Ps b ga l w->AA 138 #[pt b 0,iv d] w λ e w'=>Ah8 b ga w (q l) e w'
theorem pstmt_any{k:Nat}(cp:d+(k+1)=25)(bh:Ek (d+1) (Px.expr' k))(c4:1<=k->Qi (d+1) (Px.block k)):Ah9 d (Px.stmt (Px.expr' k) (Px.block k)):=by
 intro b ga l w h;have c7:=Px.expr'_ok k;obtain⟨res,a0⟩:∃res,Aside (res=Px.stmt (Px.expr' k) (Px.block k) l):=⟨_,rfl⟩;rw[<-a0.out];replace a0:Aside (res=_):=a0.out.trans (Vb _ _ l);obtain⟨t,r,rfl,_⟩:=h.head;have cv:∀(fn:Fn) (first cap:Array Value) (w:World),(Instr.makeFunc fn first cap).run prog w=.ok (.func fn first cap) w:=λ _ _ _ _=>rfl
 have cj:=h.there;have cl:=h.gl;have ca:=Kl w b d Ja;have h0:=h.below ca;have p0:=Ol w b d Ja;have d0:=Om w b d Ja;have o0:=On w b d Ja;have z0:=Mf w b d Ja;have ce:Fo b w.heap.size w (Fx w b d Ja):=AW ca;have c0:=cell_of_one p0;have cq:=Sf;have cm:∀(a:Addr) (fn:Fn) (f c:Array Value) (m:Mode) (w:World),(store a (.func fn f c) m).run prog w=stored prog w a (.func fn f c) m:=λ a fn f c m w=>run_store prog w a _ m rfl
 go_enter func138,ntmps138
 go_upto_region 1 with fail
 generalize cd:((w.alloc (Db b)).alloc (Fw d)).alloc Ja=w0;replace cd:Fx w b d Ja=w0:=cd;rw[cd] at ca h0 p0 d0 o0 z0 ce c0;clear cd;have ct:w.heap.size<w0.heap.size:=by omega
 go_wp2_with fail
 refine (Ce h0).mono ?_;rintro e w1 ⟨rfl,c6⟩;have co:=c6.size;have c8:Below w1.heap.size w1 ((w1.alloc (sO 0 [] sZ sZ sZ t.place)).alloc (Sy w1.heap.size w.heap.size (w.heap.size+1))):=((AF _ _).alloc (AD _) _).alloc (by simp) _;have hS:SS b ga w1.heap.size (w1.heap.size+1) d t.place 0 [] sZ sZ [] [] [] (t :: r) w ((w1.alloc (sO 0 [] sZ sZ sZ t.place)).alloc (Sy w1.heap.size w.heap.size (w.heap.size+1))):=by
  refine⟨(h0.below c6).below c8,⟨(c8.block _ (by omega)).trans ((c6.block _ (by omega)).trans p0),(c8.block _ (by omega)).trans ((c6.block _ (by omega)).trans d0),?_,sZ,?_,F5.nil _ _⟩,(c8.block _ (by omega)).trans ((c6.block _ (by omega)).trans o0),(ce.below c6 (by omega)).below c8 (by omega),BC _ _,BC _ _,⟨cj,cl,by omega,by omega⟩⟩
  .have:=heap_new (w1.alloc (sO 0 [] sZ sZ sZ t.place)) (Sy w1.heap.size w.heap.size (w.heap.size+1));simpa using this
  .exact (Al (by simp)).trans (heap_new w1 _)
 clear ca h0 p0 d0 o0 ce c0 c6 c8
 go_upto_region 11 with fail
 generalize (w1.alloc (sO 0 [] sZ sZ sZ t.place)).alloc (Sy w1.heap.size w.heap.size (w.heap.size+1))=w2s at hS ⊢;generalize w1.heap.size=gs at *;obtain⟨ge,ci⟩:∃ge,ge=gs+1:=⟨_,rfl⟩;rw[<-ci] at hS ⊢;clear ci co z0;rcases hs:Px.sees 1 [108,101,116] (t :: r) with _ | _
 rotate_left
 .replace a0:Aside (res=Px.bind (Px.name r) λ u l1=>Px.bind (valueR (Px.expr' k) l1) λ x l4=>.inl (.mk 1 u.text [x] [] [] t.place,l4)):=by
   show _=_;rw[a0.out,if_pos hs];rfl
  obtain⟨q1,q2,q3,q4,q5⟩:=hS.lts;have c0:=cell_of_one hS.st.ptr;go_wp2_with fail;refine (Ay hS.ps [108,101,116] (by decide) hs).mono ?_;rintro e w3s ⟨rfl,a4,a3⟩;replace a4:Ps b ga r w3s:=a4;have bw:=hS.call a3 a4;clear hs hS a3 a4 c0 q1 q2 q3 q4 q5;obtain⟨av,a5,a7⟩:=bw.st.box;have x0:=(Ad a5).1;have f0:=(Ad a5).2.2.2.2.2.2.2.2.2.1;clear a7;obtain⟨q1,q2,q3,q4,q5⟩:=bw.lts;have bg:=bw.set (j:=0) (v:=iv 1) (k':=1) (b1':=sZ) (b2':=sZ) (body':=[]) (other':=[]) (λ sl hh=>by simp[World.setCell,Array.getElem?_modify,hh]) (BC _ _) (BC _ _)
  go_upto_region 13 with fail
  generalize w3s.setCell ⟨gs,0,none⟩ (iv 1)=w4s at bg ⊢;clear bw a5 x0 f0 av q1 q2 q3 q4 q5;obtain⟨o1,o2,o3,o4⟩:=bg.lo;have aq:=bg.ps.good;go_wp2_with fail;refine (I9 (by omega) (by omega) (by omega) o4 (by omega) bg.ps bg.st).mono ?_;rcases hq:Px.name r with⟨u,l1⟩ | ⟨a,er⟩
  rotate_left
  .rintro e wz ⟨rfl,a3⟩;refine⟨rfl,?_⟩;rw[a0.out,hq];exact⟨rfl,bg.fo.trans (a3.mono (by omega))⟩
  rintro e w5s ⟨rfl,a9,a4,a3⟩;have b6:=bg.part a9 a4 a3;have c5:l1.length+1<=r.length:=((Px.name_res aq).ok u l1 hq).less;replace a0:Aside (res=Px.bind (valueR (Px.expr' k) l1) λ x l4=>.inl (.mk 1 u.text [x] [] [] t.place,l4)):=by
   show _=_;rw[a0.out,hq];rfl
  clear hq bg a9 a4 a3 aq o1 o2 o3 o4;obtain⟨o1,o2,o3,o4⟩:=b6.lo;have aq:=b6.ps.good;have b5:=b6.ps.few;obtain⟨q1,q2,q3,q4,q5⟩:=b6.lts;have bo:=cell_of_one b6.st.fe;go_wp2_with fail;refine (J1 (by omega) c7 bh (by omega) (by omega) (by omega) o4 (by omega) b6.ps b6.st (by simpa using b5)).mono ?_;rcases hq:valueR (Px.expr' k) l1 with⟨x,l4⟩ | ⟨a,er⟩
  rotate_left
  .rintro e wz ⟨rfl,a3⟩;refine⟨rfl,?_⟩;rw[a0.out,hq];exact⟨rfl,b6.fo.trans (a3.mono (by omega))⟩
  rintro e w6s ⟨rfl,a9,a4,a3⟩;have bv:=b6.part a9 a4 a3;replace a0:Aside (res=(.inl (.mk 1 u.text [x] [] [] t.place,l4):Px.R Px.St)):=by
   show _=_;rw[a0.out,hq];rfl
  clear hq b6 a9 a4 a3 aq b5 bo o1 o2 o3 o4 q1 q2 q3 q4 q5;obtain⟨av,a5,a7⟩:=bv.st.box;obtain⟨az,cz,rfl⟩:=A5 a7.choose_spec.1;have aj:=Gm bv a5 a7;obtain⟨y0,y1,y2,y3,y4,y5,y6,y7,y8,_⟩:=Ad a5;obtain⟨e0,e1,e2,e3,e4,e5,e6,e7,e8,m0,m1,m2,m3,m4,m5,m6,m7,m8⟩:=Ad bv.out;obtain⟨q1,q2,q3,q4,q5⟩:=bv.lts;obtain⟨o1,o2,o3,o4⟩:=bv.lo;have bq:gs≠w.heap.size+1+1:=by omega
  have bp:w.heap.size+1+1≠gs:=by omega
  clear bv a7;generalize w.heap.size+1+1=gr at *;go_wp2;rw[a0.out];exact bodyPost_ret (by simp[results,results138,go_sem,e0,e1,e2,e3,e4,e5,e6,e7,e8]) rfl aj
 replace a0:Aside (res=if Px.sees 1 [115,101,116] (t :: r) then Ax6 (Px.expr' k) t.place r else if Px.sees 1 [100,101,108] (t :: r) then Ar0 (Px.expr' k) t.place r else if Px.sees 1 [105,102] (t :: r) then ifR (Px.expr' k) (Px.block k) t.place r else if Px.sees 1 [102,111,114] (t :: r) then Ah7 (Px.expr' k) (Px.block k) t.place r else Va (Px.expr' k) t.place (t :: r)):=by
  exact a0.out.trans (if_neg (by rw[hs];simp))
 obtain⟨q1,q2,q3,q4,q5⟩:=hS.lts;have c0:=cell_of_one hS.st.ptr;go_wp2_with fail;refine (A8 hS.ps [108,101,116] hs).mono ?_;rintro e w7s ⟨rfl,a4,b9⟩;have b7:=hS.below b9;clear hs hS b9 a4 c0 q1 q2 q3 q4 q5;rcases hs:Px.sees 1 [115,101,116] (t :: r) with _ | _
 rotate_left
 .replace a0:Aside (res=Px.bind (Px.name r) λ u l1=>if Px.sees 4 [91] l1 then Px.bind (placeR (Px.expr' k) l1) λ y l2=>Px.bind (valueR (Px.expr' k) l2) λ x l4=>.inl (.mk 2 u.text [y,x] [] [] t.place,l4) else Px.bind (valueR (Px.expr' k) l1) λ x l4=>.inl (.mk 2 u.text [x] [] [] t.place,l4)):=by
   show _=_;rw[a0.out,if_pos hs];rfl
  obtain⟨q1,q2,q3,q4,q5⟩:=b7.lts;have c0:=cell_of_one b7.st.ptr;go_wp2_with fail;refine (Ay b7.ps [115,101,116] (by decide) hs).mono ?_;rintro e w8s ⟨rfl,a4,a3⟩;replace a4:Ps b ga r w8s:=a4;have bx:=b7.call a3 a4;clear hs b7 a3 a4 c0 q1 q2 q3 q4 q5;obtain⟨av,a5,a7⟩:=bx.st.box;have x0:=(Ad a5).1;have f0:=(Ad a5).2.2.2.2.2.2.2.2.2.1;clear a7;obtain⟨q1,q2,q3,q4,q5⟩:=bx.lts;have bl:=bx.set (j:=0) (v:=iv 2) (k':=2) (b1':=sZ) (b2':=sZ) (body':=[]) (other':=[]) (λ sl hh=>by simp[World.setCell,Array.getElem?_modify,hh]) (BC _ _) (BC _ _)
  go_upto_region 17 with fail
  generalize w8s.setCell ⟨gs,0,none⟩ (iv 2)=w9s at bl ⊢;clear bx a5 x0 f0 av q1 q2 q3 q4 q5;obtain⟨o1,o2,o3,o4⟩:=bl.lo;have aq:=bl.ps.good;go_wp2_with fail;refine (I9 (by omega) (by omega) (by omega) o4 (by omega) bl.ps bl.st).mono ?_;rcases hq:Px.name r with⟨u,l1⟩ | ⟨a,er⟩
  rotate_left
  .rintro e wz ⟨rfl,a3⟩;refine⟨rfl,?_⟩;rw[a0.out,hq];exact⟨rfl,bl.fo.trans (a3.mono (by omega))⟩
  rintro e w10s ⟨rfl,a9,a4,a3⟩;have bj:=bl.part a9 a4 a3;have c5:l1.length+1<=r.length:=((Px.name_res aq).ok u l1 hq).less;replace a0:Aside (res=if Px.sees 4 [91] l1 then Px.bind (placeR (Px.expr' k) l1) λ y l2=>Px.bind (valueR (Px.expr' k) l2) λ x l4=>.inl (.mk 2 u.text [y,x] [] [] t.place,l4) else Px.bind (valueR (Px.expr' k) l1) λ x l4=>.inl (.mk 2 u.text [x] [] [] t.place,l4)):=by
   show _=_;rw[a0.out,hq];rfl
  clear hq bl a9 a4 a3 aq o1 o2 o3 o4;obtain⟨q1,q2,q3,q4,q5⟩:=bj.lts;have c0:=cell_of_one bj.st.ptr;have hI:=G9 bj.ps [91];go_wp2_with fail;refine hI.mono ?_;rintro e w11s ⟨rfl,b9⟩;have a6:=bj.below b9;clear bj b9 c0 hI q1 q2 q3 q4 q5;rcases hs2:Px.sees 4 [91] l1 with _ | _
  .rw[show Px.sees (cls [91]) [91] l1=false from hs2];replace a0:Aside (res=Px.bind (valueR (Px.expr' k) l1) λ x l4=>.inl (.mk 2 u.text [x] [] [] t.place,l4)):=by
    show _=_;rw[a0.out,if_neg (by rw[hs2];simp)]
   clear hs2;obtain⟨o1,o2,o3,o4⟩:=a6.lo;have aq:=a6.ps.good;have b5:=a6.ps.few;obtain⟨q1,q2,q3,q4,q5⟩:=a6.lts;have bo:=cell_of_one a6.st.fe;go_wp2_with fail;refine (J1 (by omega) c7 bh (by omega) (by omega) (by omega) o4 (by omega) a6.ps a6.st (by simpa using b5)).mono ?_;rcases hq:valueR (Px.expr' k) l1 with⟨x,l4⟩ | ⟨a,er⟩
   rotate_left
   .rintro e wz ⟨rfl,a3⟩;refine⟨rfl,?_⟩;rw[a0.out,hq];exact⟨rfl,a6.fo.trans (a3.mono (by omega))⟩
   rintro e w12s ⟨rfl,a9,a4,a3⟩;have be:=a6.part a9 a4 a3;replace a0:Aside (res=(.inl (.mk 2 u.text [x] [] [] t.place,l4):Px.R Px.St)):=by
    show _=_;rw[a0.out,hq];rfl
   clear hq a6 a9 a4 a3 aq b5 bo o1 o2 o3 o4 q1 q2 q3 q4 q5;obtain⟨av,a5,a7⟩:=be.st.box;obtain⟨az,cz,rfl⟩:=A5 a7.choose_spec.1;have aj:=Gm be a5 a7;obtain⟨y0,y1,y2,y3,y4,y5,y6,y7,y8,_⟩:=Ad a5;obtain⟨e0,e1,e2,e3,e4,e5,e6,e7,e8,m0,m1,m2,m3,m4,m5,m6,m7,m8⟩:=Ad be.out;obtain⟨q1,q2,q3,q4,q5⟩:=be.lts;obtain⟨o1,o2,o3,o4⟩:=be.lo;have bq:gs≠w.heap.size+1+1:=by omega
   have bp:w.heap.size+1+1≠gs:=by omega
   clear be a7;generalize w.heap.size+1+1=gr at *;go_wp2;rw[a0.out];exact bodyPost_ret (by simp[results,results138,go_sem,e0,e1,e2,e3,e4,e5,e6,e7,e8]) rfl aj
  .rw[show Px.sees (cls [91]) [91] l1=true from hs2];replace a0:Aside (res=Px.bind (placeR (Px.expr' k) l1) λ y l2=>Px.bind (valueR (Px.expr' k) l2) λ x l4=>.inl (.mk 2 u.text [y,x] [] [] t.place,l4)):=by
    show _=_;rw[a0.out,if_pos hs2]
   clear hs2;obtain⟨o1,o2,o3,o4⟩:=a6.lo;have aq:=a6.ps.good;have b5:=a6.ps.few;obtain⟨q1,q2,q3,q4,q5⟩:=a6.lts;have bo:=cell_of_one a6.st.fe;go_wp2_with fail;refine (Oo (by omega) c7 bh (by omega) (by omega) (by omega) o4 (by omega) a6.ps a6.st (by simpa using b5)).mono ?_;rcases hq:placeR (Px.expr' k) l1 with⟨y,l2⟩ | ⟨a,er⟩
   rotate_left
   .rintro e wz ⟨rfl,a3⟩;refine⟨rfl,?_⟩;rw[a0.out,hq];exact⟨rfl,a6.fo.trans (a3.mono (by omega))⟩
   rintro e w13s ⟨rfl,a9,a4,a3⟩;have ad:=a6.part a9 a4 a3;replace a0:Aside (res=Px.bind (valueR (Px.expr' k) l2) λ x l4=>.inl (.mk 2 u.text [y,x] [] [] t.place,l4)):=by
    show _=_;rw[a0.out,hq];rfl
   have cr:l2.length<=l1.length:=by have:=((Vc c7 aq).ok y l2 hq).less;omega
   have cu:r.length+1<=4096:=by simpa using h.few
   clear hq a6 a9 a4 a3 aq b5 bo o1 o2 o3 o4 q1 q2 q3 q4 q5;obtain⟨o1,o2,o3,o4⟩:=ad.lo;have aq:=ad.ps.good;have b5:=ad.ps.few;obtain⟨q1,q2,q3,q4,q5⟩:=ad.lts;have bo:=cell_of_one ad.st.fe;go_wp2_with fail;refine (J1 (by omega) c7 bh (by omega) (by omega) (by omega) o4 (by omega) ad.ps ad.st (by simp;omega)).mono ?_;rcases hq:valueR (Px.expr' k) l2 with⟨x,l4⟩ | ⟨a,er⟩
   rotate_left
   .rintro e wz ⟨rfl,a3⟩;refine⟨rfl,?_⟩;rw[a0.out,hq];exact⟨rfl,ad.fo.trans (a3.mono (by omega))⟩
   rintro e w14s ⟨rfl,a9,a4,a3⟩;have ba:=ad.part a9 a4 a3;replace a0:Aside (res=(.inl (.mk 2 u.text [y,x] [] [] t.place,l4):Px.R Px.St)):=by
    show _=_;rw[a0.out,hq];rfl
   clear hq ad a9 a4 a3 aq b5 bo o1 o2 o3 o4 q1 q2 q3 q4 q5;obtain⟨av,a5,a7⟩:=ba.st.box;obtain⟨az,cz,rfl⟩:=A5 a7.choose_spec.1;have aj:=Gm ba a5 a7;obtain⟨y0,y1,y2,y3,y4,y5,y6,y7,y8,_⟩:=Ad a5;obtain⟨e0,e1,e2,e3,e4,e5,e6,e7,e8,m0,m1,m2,m3,m4,m5,m6,m7,m8⟩:=Ad ba.out;obtain⟨q1,q2,q3,q4,q5⟩:=ba.lts;obtain⟨o1,o2,o3,o4⟩:=ba.lo;have bq:gs≠w.heap.size+1+1:=by omega
   have bp:w.heap.size+1+1≠gs:=by omega
   clear ba a7;generalize w.heap.size+1+1=gr at *;go_wp2;rw[a0.out];exact bodyPost_ret (by simp[results,results138,go_sem,e0,e1,e2,e3,e4,e5,e6,e7,e8]) rfl aj
 replace a0:Aside (res=if Px.sees 1 [100,101,108] (t :: r) then Ar0 (Px.expr' k) t.place r else if Px.sees 1 [105,102] (t :: r) then ifR (Px.expr' k) (Px.block k) t.place r else if Px.sees 1 [102,111,114] (t :: r) then Ah7 (Px.expr' k) (Px.block k) t.place r else Va (Px.expr' k) t.place (t :: r)):=by
  exact a0.out.trans (if_neg (by rw[hs];simp))
 obtain⟨q1,q2,q3,q4,q5⟩:=b7.lts;have c0:=cell_of_one b7.st.ptr;go_wp2_with fail;refine (A8 b7.ps [115,101,116] hs).mono ?_;rintro e w15s ⟨rfl,a4,b9⟩;have ai:=b7.below b9;clear hs b7 b9 a4 c0 q1 q2 q3 q4 q5;rcases hs:Px.sees 1 [100,101,108] (t :: r) with _ | _
 rotate_left
 .replace a0:Aside (res=Px.bind (Px.name r) λ u l1=>Px.bind (placeR (Px.expr' k) l1) λ x l4=>Px.bind (Px.need [59] l4) λ _ l5=>.inl (.mk 3 u.text [x] [] [] t.place,l5)):=by
   show _=_;rw[a0.out,if_pos hs];rfl
  obtain⟨q1,q2,q3,q4,q5⟩:=ai.lts;have c0:=cell_of_one ai.st.ptr;go_wp2_with fail;refine (Ay ai.ps [100,101,108] (by decide) hs).mono ?_;rintro e w16s ⟨rfl,a4,a3⟩;replace a4:Ps b ga r w16s:=a4;have bt:=ai.call a3 a4;clear hs ai a3 a4 c0 q1 q2 q3 q4 q5;obtain⟨av,a5,a7⟩:=bt.st.box;have x0:=(Ad a5).1;have f0:=(Ad a5).2.2.2.2.2.2.2.2.2.1;clear a7;obtain⟨q1,q2,q3,q4,q5⟩:=bt.lts;have au:=bt.set (j:=0) (v:=iv 3) (k':=3) (b1':=sZ) (b2':=sZ) (body':=[]) (other':=[]) (λ sl hh=>by simp[World.setCell,Array.getElem?_modify,hh]) (BC _ _) (BC _ _)
  go_upto_region 23 with fail
  generalize w16s.setCell ⟨gs,0,none⟩ (iv 3)=w17s at au ⊢;clear bt a5 x0 f0 av q1 q2 q3 q4 q5;obtain⟨o1,o2,o3,o4⟩:=au.lo;have aq:=au.ps.good;go_wp2_with fail;refine (I9 (by omega) (by omega) (by omega) o4 (by omega) au.ps au.st).mono ?_;rcases hq:Px.name r with⟨u,l1⟩ | ⟨a,er⟩
  rotate_left
  .rintro e wz ⟨rfl,a3⟩;refine⟨rfl,?_⟩;rw[a0.out,hq];exact⟨rfl,au.fo.trans (a3.mono (by omega))⟩
  rintro e w18s ⟨rfl,a9,a4,a3⟩;have ag:=au.part a9 a4 a3;have c5:l1.length+1<=r.length:=((Px.name_res aq).ok u l1 hq).less;replace a0:Aside (res=Px.bind (placeR (Px.expr' k) l1) λ x l4=>Px.bind (Px.need [59] l4) λ _ l5=>.inl (.mk 3 u.text [x] [] [] t.place,l5)):=by
   show _=_;rw[a0.out,hq];rfl
  clear hq au a9 a4 a3 aq o1 o2 o3 o4;obtain⟨o1,o2,o3,o4⟩:=ag.lo;have aq:=ag.ps.good;have b5:=ag.ps.few;obtain⟨q1,q2,q3,q4,q5⟩:=ag.lts;have bo:=cell_of_one ag.st.fe;go_wp2_with fail;refine (Oo (by omega) c7 bh (by omega) (by omega) (by omega) o4 (by omega) ag.ps ag.st (by simpa using b5)).mono ?_;rcases hq:placeR (Px.expr' k) l1 with⟨x,l4⟩ | ⟨a,er⟩
  rotate_left
  .rintro e wz ⟨rfl,a3⟩;refine⟨rfl,?_⟩;rw[a0.out,hq];exact⟨rfl,ag.fo.trans (a3.mono (by omega))⟩
  rintro e w19s ⟨rfl,a9,a4,a3⟩;have aw:=ag.part a9 a4 a3;replace a0:Aside (res=Px.bind (Px.need [59] l4) λ _ l5=>.inl (.mk 3 u.text [x] [] [] t.place,l5)):=by
   show _=_;rw[a0.out,hq];rfl
  clear hq ag a9 a4 a3 aq b5 bo o1 o2 o3 o4 q1 q2 q3 q4 q5;obtain⟨q1,q2,q3,q4,q5⟩:=aw.lts;have c0:=cell_of_one aw.st.ptr;go_wp2_with fail;refine (pneed_any aw.ps 4 [59] (by decide) (by decide)).mono ?_;rcases hq:Px.needK 4 [59] l4 with⟨uz,l5⟩ | ⟨a,er⟩
  rotate_left
  .rintro e wz ⟨rfl,a3⟩;refine⟨rfl,?_⟩;rw[a0.out];simp only[Px.need,hq];exact⟨rfl,aw.fo.call a3 aw.fo.size⟩
  rintro e w20s ⟨v,rfl,rfl,a4,a3⟩;have b8:=aw.call a3 a4;replace a0:Aside (res=(.inl (.mk 3 u.text [x] [] [] t.place,l5):Px.R Px.St)):=by
   show _=_;rw[a0.out];simp only[Px.need,hq];rfl
  clear hq aw a3 a4 c0 q1 q2 q3 q4 q5;obtain⟨av,a5,a7⟩:=b8.st.box;obtain⟨az,cz,rfl⟩:=A5 a7.choose_spec.1;have aj:=Gm b8 a5 a7;obtain⟨y0,y1,y2,y3,y4,y5,y6,y7,y8,_⟩:=Ad a5;obtain⟨e0,e1,e2,e3,e4,e5,e6,e7,e8,m0,m1,m2,m3,m4,m5,m6,m7,m8⟩:=Ad b8.out;obtain⟨q1,q2,q3,q4,q5⟩:=b8.lts;obtain⟨o1,o2,o3,o4⟩:=b8.lo;have bq:gs≠w.heap.size+1+1:=by omega
  have bp:w.heap.size+1+1≠gs:=by omega
  clear b8 a7;generalize w.heap.size+1+1=gr at *;go_wp2;rw[a0.out];exact bodyPost_ret (by simp[results,results138,go_sem,e0,e1,e2,e3,e4,e5,e6,e7,e8]) rfl aj
 replace a0:Aside (res=if Px.sees 1 [105,102] (t :: r) then ifR (Px.expr' k) (Px.block k) t.place r else if Px.sees 1 [102,111,114] (t :: r) then Ah7 (Px.expr' k) (Px.block k) t.place r else Va (Px.expr' k) t.place (t :: r)):=by
  exact a0.out.trans (if_neg (by rw[hs];simp))
 obtain⟨q1,q2,q3,q4,q5⟩:=ai.lts;have c0:=cell_of_one ai.st.ptr;go_wp2_with fail;refine (A8 ai.ps [100,101,108] hs).mono ?_;rintro e w21s ⟨rfl,a4,b9⟩;have af:=ai.below b9;clear hs ai b9 a4 c0 q1 q2 q3 q4 q5;rcases hs:Px.sees 1 [105,102] (t :: r) with _ | _
 rotate_left
 .replace a0:Aside (res=Px.bind (Px.expr' k r) λ x l1=>Px.bind (Px.block k l1) λ b l2=>if Px.sees 1 [101,108,115,101] l2 then Px.bind (Px.block k l2.tail) λ c l3=>.inl (.mk 4 [] [x] b c t.place,l3) else .inl (.mk 4 [] [x] b [] t.place,l2)):=by
   show _=_;rw[a0.out,if_pos hs];rfl
  obtain⟨q1,q2,q3,q4,q5⟩:=af.lts;have c0:=cell_of_one af.st.ptr;go_wp2_with fail;refine (Ay af.ps [105,102] (by decide) hs).mono ?_;rintro e w22s ⟨rfl,a4,a3⟩;replace a4:Ps b ga r w22s:=a4;have bu:=af.call a3 a4;clear hs af a3 a4 c0 q1 q2 q3 q4 q5;obtain⟨av,a5,a7⟩:=bu.st.box;have x0:=(Ad a5).1;have f0:=(Ad a5).2.2.2.2.2.2.2.2.2.1;clear a7;obtain⟨q1,q2,q3,q4,q5⟩:=bu.lts;have ab:=bu.set (j:=0) (v:=iv 4) (k':=4) (b1':=sZ) (b2':=sZ) (body':=[]) (other':=[]) (λ sl hh=>by simp[World.setCell,Array.getElem?_modify,hh]) (BC _ _) (BC _ _)
  go_upto_region 28 with fail
  generalize w22s.setCell ⟨gs,0,none⟩ (iv 4)=w23s at ab ⊢;clear bu a5 x0 f0 av q1 q2 q3 q4 q5;obtain⟨o1,o2,o3,o4⟩:=ab.lo;have aq:=ab.ps.good;have b5:=ab.ps.few;obtain⟨q1,q2,q3,q4,q5⟩:=ab.lts;have bo:=cell_of_one ab.st.fe;go_wp2_with fail;refine (Ff (n:=gs) (by omega) bh (by omega) (by omega) (by omega) o4 (by omega) (AD _) [] r _ ab.ps ab.st (by omega) (by simpa using b5)).mono ?_;rcases hq:Px.expr' k r with⟨x,l1⟩ | ⟨a,er⟩
  rotate_left
  .rintro e wz ⟨rfl,a3⟩;refine⟨rfl,?_⟩;rw[a0.out,hq];exact⟨rfl,ab.fo.trans (a3.mono (by omega))⟩
  rintro e w24s ⟨rfl,a9,a4,a3⟩;have c9:1<=k:=by
   rcases Nat.eq_zero_or_pos k with h0 | h0
   .subst h0;rw[Px.expr'_zero] at hq;simp[Px.fail] at hq
   .exact h0
  have al:=ab.part (acc':=[x]) a9 a4 a3;replace a0:Aside (res=Px.bind (Px.block k l1) λ b l2=>if Px.sees 1 [101,108,115,101] l2 then Px.bind (Px.block k l2.tail) λ c l3=>.inl (.mk 4 [] [x] b c t.place,l3) else .inl (.mk 4 [] [x] b [] t.place,l2)):=by
   show _=_;rw[a0.out,hq];rfl
  clear hq ab a9 a4 a3 aq b5 bo o1 o2 o3 o4 q1 q2 q3 q4 q5;obtain⟨q1,q2,q3,q4,q5⟩:=al.lts;obtain⟨o1,o2,o3,o4⟩:=al.lo;go_wp2_with fail;refine (J2 (by omega) (c4 c9) al.ps al.st.ptr al.st.dep).mono ?_;rcases hq:Px.block k l1 with⟨bb,l2⟩ | ⟨a,er⟩
  rotate_left
  .rintro e wz ⟨rfl,a3⟩;refine⟨rfl,?_⟩;rw[a0.out,hq];exact⟨rfl,al.fo.call a3 al.fo.size⟩
  rintro e w25s ⟨v,rfl,bi,a4,a3⟩;obtain⟨c1,c3,c2,rfl⟩:=bi.slc;have bn:=al.call a3 a4;replace bi:=bi.base' (B':=From (ge+1)) (Cd (by omega));replace a0:Aside (res=if Px.sees 1 [101,108,115,101] l2 then Px.bind (Px.block k l2.tail) λ c l3=>.inl (.mk 4 [] [x] bb c t.place,l3) else .inl (.mk 4 [] [x] bb [] t.place,l2)):=by
   show _=_;rw[a0.out,hq];rfl
  clear hq al a3 a4 q1 q2 q3 q4 q5 o1 o2 o3 o4;obtain⟨av,a5,a7⟩:=bn.st.box;have x6:=(Ad a5).2.2.2.2.2.2.1;have x7:=(Ad a5).2.2.2.2.2.2.2.1;have f6:=(Ad a5).2.2.2.2.2.2.2.2.2.2.2.2.2.2.2.1;have f7:=(Ad a5).2.2.2.2.2.2.2.2.2.2.2.2.2.2.2.2.1;clear a7;obtain⟨q1,q2,q3,q4,q5⟩:=bn.lts;have aa:=bn.set (j:=6) (v:=.slice c1 c3 c2) (k':=4) (b1':=(.slice c1 c3 c2)) (b2':=sZ) (body':=bb) (other':=[]) (λ sl hh=>by simp[World.setCell,Array.getElem?_modify,hh]) bi bn.i2
  go_upto_region 30 with fail
  generalize w25s.setCell ⟨gs,6,none⟩ (.slice c1 c3 c2)=w26s at aa ⊢;clear bn a5 x6 x7 f6 f7 av bi q1 q2 q3 q4 q5;rcases hs:Px.sees 1 [101,108,115,101] l2 with _ | _
  .replace a0:Aside (res=.inl (.mk 4 [] [x] bb [] t.place,l2)):=by
    show _=_;rw[a0.out,if_neg (by rw[hs];simp)]
   obtain⟨q1,q2,q3,q4,q5⟩:=aa.lts;have c0:=cell_of_one aa.st.ptr;go_wp2_with fail;refine (A8 aa.ps [101,108,115,101] hs).mono ?_;rintro e w27s ⟨rfl,a4,b9⟩;have bd:=aa.below b9;clear hs aa b9 a4 c0 q1 q2 q3 q4 q5;obtain⟨av,a5,a7⟩:=bd.st.box;obtain⟨az,cz,rfl⟩:=A5 a7.choose_spec.1;have aj:=Gm bd a5 a7;obtain⟨y0,y1,y2,y3,y4,y5,y6,y7,y8,_⟩:=Ad a5;obtain⟨e0,e1,e2,e3,e4,e5,e6,e7,e8,m0,m1,m2,m3,m4,m5,m6,m7,m8⟩:=Ad bd.out;obtain⟨q1,q2,q3,q4,q5⟩:=bd.lts;obtain⟨o1,o2,o3,o4⟩:=bd.lo;have bq:gs≠w.heap.size+1+1:=by omega
   have bp:w.heap.size+1+1≠gs:=by omega
   clear bd a7;generalize w.heap.size+1+1=gr at *;go_wp2;rw[a0.out];exact bodyPost_ret (by simp[results,results138,go_sem,e0,e1,e2,e3,e4,e5,e6,e7,e8]) rfl aj
  .replace a0:Aside (res=Px.bind (Px.block k l2.tail) λ c l3=>.inl (.mk 4 [] [x] bb c t.place,l3)):=by
    show _=_;rw[a0.out,if_pos hs]
   obtain⟨q1,q2,q3,q4,q5⟩:=aa.lts;have c0:=cell_of_one aa.st.ptr;go_wp2_with fail;refine (Ay aa.ps [101,108,115,101] (by decide) hs).mono ?_;rintro e w28s ⟨rfl,a4,a3⟩
   skip
   have am:=aa.call a3 a4;clear hs aa a3 a4 c0 q1 q2 q3 q4 q5;obtain⟨q1,q2,q3,q4,q5⟩:=am.lts;obtain⟨o1,o2,o3,o4⟩:=am.lo;go_wp2_with fail;refine (J2 (by omega) (c4 c9) am.ps am.st.ptr am.st.dep).mono ?_;rcases hq:Px.block k l2.tail with⟨cc,l3⟩ | ⟨a,er⟩
   rotate_left
   .rintro e wz ⟨rfl,a3⟩;refine⟨rfl,?_⟩;rw[a0.out,hq];exact⟨rfl,am.fo.call a3 am.fo.size⟩
   rintro e w29s ⟨v,rfl,bi,a4,a3⟩;obtain⟨cg,cf,ch,rfl⟩:=bi.slc;have bf:=am.call a3 a4;replace bi:=bi.base' (B':=From (ge+1)) (Cd (by omega));replace a0:Aside (res=(.inl (.mk 4 [] [x] bb cc t.place,l3):Px.R Px.St)):=by
    show _=_;rw[a0.out,hq];rfl
   clear hq am a3 a4 q1 q2 q3 q4 q5 o1 o2 o3 o4;obtain⟨av,a5,a7⟩:=bf.st.box;have x6:=(Ad a5).2.2.2.2.2.2.1;have x7:=(Ad a5).2.2.2.2.2.2.2.1;have f6:=(Ad a5).2.2.2.2.2.2.2.2.2.2.2.2.2.2.2.1;have f7:=(Ad a5).2.2.2.2.2.2.2.2.2.2.2.2.2.2.2.2.1;clear a7;obtain⟨q1,q2,q3,q4,q5⟩:=bf.lts;have ax:=bf.set (j:=7) (v:=.slice cg cf ch) (k':=4) (b1':=(.slice c1 c3 c2)) (b2':=(.slice cg cf ch)) (body':=bb) (other':=cc) (λ sl hh=>by simp[World.setCell,Array.getElem?_modify,hh]) bf.i1 bi
   go_upto_region 38 with fail
   generalize w29s.setCell ⟨gs,7,none⟩ (.slice cg cf ch)=w30s at ax ⊢;clear bf a5 x6 x7 f6 f7 av bi q1 q2 q3 q4 q5;obtain⟨av,a5,a7⟩:=ax.st.box;obtain⟨az,cz,rfl⟩:=A5 a7.choose_spec.1;have aj:=Gm ax a5 a7;obtain⟨y0,y1,y2,y3,y4,y5,y6,y7,y8,_⟩:=Ad a5;obtain⟨e0,e1,e2,e3,e4,e5,e6,e7,e8,m0,m1,m2,m3,m4,m5,m6,m7,m8⟩:=Ad ax.out;obtain⟨q1,q2,q3,q4,q5⟩:=ax.lts;obtain⟨o1,o2,o3,o4⟩:=ax.lo;have bq:gs≠w.heap.size+1+1:=by omega
   have bp:w.heap.size+1+1≠gs:=by omega
   clear ax a7;generalize w.heap.size+1+1=gr at *;go_wp2;rw[a0.out];exact bodyPost_ret (by simp[results,results138,go_sem,e0,e1,e2,e3,e4,e5,e6,e7,e8]) rfl aj
 replace a0:Aside (res=if Px.sees 1 [102,111,114] (t :: r) then Ah7 (Px.expr' k) (Px.block k) t.place r else Va (Px.expr' k) t.place (t :: r)):=by
  exact a0.out.trans (if_neg (by rw[hs];simp))
 obtain⟨q1,q2,q3,q4,q5⟩:=af.lts;have c0:=cell_of_one af.st.ptr;go_wp2_with fail;refine (A8 af.ps [105,102] hs).mono ?_;rintro e w31s ⟨rfl,a4,b9⟩;have ah:=af.below b9;clear hs af b9 a4 c0 q1 q2 q3 q4 q5;rcases hs:Px.sees 1 [102,111,114] (t :: r) with _ | _
 rotate_left
 .replace a0:Aside (res=Px.bind (Px.name r) λ u l1=>Px.bind (Px.needK 1 [116,111] l1) λ _ l2=>Px.bind (Px.expr' k l2) λ x l3=>Px.bind (Px.block k l3) λ b l4=>.inl (.mk 5 u.text [x] b [] t.place,l4)):=by
   show _=_;rw[a0.out,if_pos hs];rfl
  obtain⟨q1,q2,q3,q4,q5⟩:=ah.lts;have c0:=cell_of_one ah.st.ptr;go_wp2_with fail;refine (Ay ah.ps [102,111,114] (by decide) hs).mono ?_;rintro e w32s ⟨rfl,a4,a3⟩;replace a4:Ps b ga r w32s:=a4;have br:=ah.call a3 a4;clear hs ah a3 a4 c0 q1 q2 q3 q4 q5;obtain⟨av,a5,a7⟩:=br.st.box;have x0:=(Ad a5).1;have f0:=(Ad a5).2.2.2.2.2.2.2.2.2.1;clear a7;obtain⟨q1,q2,q3,q4,q5⟩:=br.lts;have ar:=br.set (j:=0) (v:=iv 5) (k':=5) (b1':=sZ) (b2':=sZ) (body':=[]) (other':=[]) (λ sl hh=>by simp[World.setCell,Array.getElem?_modify,hh]) (BC _ _) (BC _ _)
  go_upto_region 34 with fail
  generalize w32s.setCell ⟨gs,0,none⟩ (iv 5)=w33s at ar ⊢;clear br a5 x0 f0 av q1 q2 q3 q4 q5;obtain⟨o1,o2,o3,o4⟩:=ar.lo;have aq:=ar.ps.good;go_wp2_with fail;refine (I9 (by omega) (by omega) (by omega) o4 (by omega) ar.ps ar.st).mono ?_;rcases hq:Px.name r with⟨u,l1⟩ | ⟨a,er⟩
  rotate_left
  .rintro e wz ⟨rfl,a3⟩;refine⟨rfl,?_⟩;rw[a0.out,hq];exact⟨rfl,ar.fo.trans (a3.mono (by omega))⟩
  rintro e w34s ⟨rfl,a9,a4,a3⟩;have b4:=ar.part a9 a4 a3;have c5:l1.length+1<=r.length:=((Px.name_res aq).ok u l1 hq).less;replace a0:Aside (res=Px.bind (Px.needK 1 [116,111] l1) λ _ l2=>Px.bind (Px.expr' k l2) λ x l3=>Px.bind (Px.block k l3) λ b l4=>.inl (.mk 5 u.text [x] b [] t.place,l4)):=by
   show _=_;rw[a0.out,hq];rfl
  clear hq ar a9 a4 a3 aq o1 o2 o3 o4;obtain⟨q1,q2,q3,q4,q5⟩:=b4.lts;have c0:=cell_of_one b4.st.ptr;go_wp2_with fail;refine (pneed_any b4.ps 1 [116,111] (by decide) (by decide)).mono ?_;rcases hq:Px.needK 1 [116,111] l1 with⟨uz,l2⟩ | ⟨a,er⟩
  rotate_left
  .rintro e wz ⟨rfl,a3⟩;refine⟨rfl,?_⟩;rw[a0.out];simp only[Px.need,hq];exact⟨rfl,b4.fo.call a3 b4.fo.size⟩
  rintro e w35s ⟨v,rfl,rfl,a4,a3⟩;have ae:=b4.call a3 a4;replace a0:Aside (res=Px.bind (Px.expr' k l2) λ x l3=>Px.bind (Px.block k l3) λ b l4=>.inl (.mk 5 u.text [x] b [] t.place,l4)):=by
   show _=_;rw[a0.out];simp only[Px.need,hq];rfl
  clear hq b4 a3 a4 c0 q1 q2 q3 q4 q5;obtain⟨o1,o2,o3,o4⟩:=ae.lo;have aq:=ae.ps.good;have b5:=ae.ps.few;obtain⟨q1,q2,q3,q4,q5⟩:=ae.lts;have bo:=cell_of_one ae.st.fe;go_wp2_with fail;refine (Ff (n:=gs) (by omega) bh (by omega) (by omega) (by omega) o4 (by omega) (AD _) [] l2 _ ae.ps ae.st (by omega) (by simpa using b5)).mono ?_;rcases hq:Px.expr' k l2 with⟨x,l3⟩ | ⟨a,er⟩
  rotate_left
  .rintro e wz ⟨rfl,a3⟩;refine⟨rfl,?_⟩;rw[a0.out,hq];exact⟨rfl,ae.fo.trans (a3.mono (by omega))⟩
  rintro e w36s ⟨rfl,a9,a4,a3⟩;have c9:1<=k:=by
   rcases Nat.eq_zero_or_pos k with h0 | h0
   .subst h0;rw[Px.expr'_zero] at hq;simp[Px.fail] at hq
   .exact h0
  have ak:=ae.part (acc':=[x]) a9 a4 a3;replace a0:Aside (res=Px.bind (Px.block k l3) λ b l4=>.inl (.mk 5 u.text [x] b [] t.place,l4)):=by
   show _=_;rw[a0.out,hq];rfl
  clear hq ae a9 a4 a3 aq b5 bo o1 o2 o3 o4 q1 q2 q3 q4 q5;obtain⟨q1,q2,q3,q4,q5⟩:=ak.lts;obtain⟨o1,o2,o3,o4⟩:=ak.lo;go_wp2_with fail;refine (J2 (by omega) (c4 c9) ak.ps ak.st.ptr ak.st.dep).mono ?_;rcases hq:Px.block k l3 with⟨bb,l4⟩ | ⟨a,er⟩
  rotate_left
  .rintro e wz ⟨rfl,a3⟩;refine⟨rfl,?_⟩;rw[a0.out,hq];exact⟨rfl,ak.fo.call a3 ak.fo.size⟩
  rintro e w37s ⟨v,rfl,bi,a4,a3⟩;obtain⟨c1,c3,c2,rfl⟩:=bi.slc;have bk:=ak.call a3 a4;replace bi:=bi.base' (B':=From (ge+1)) (Cd (by omega));replace a0:Aside (res=(.inl (.mk 5 u.text [x] bb [] t.place,l4):Px.R Px.St)):=by
   show _=_;rw[a0.out,hq];rfl
  clear hq ak a3 a4 q1 q2 q3 q4 q5 o1 o2 o3 o4;obtain⟨av,a5,a7⟩:=bk.st.box;have x6:=(Ad a5).2.2.2.2.2.2.1;have x7:=(Ad a5).2.2.2.2.2.2.2.1;have f6:=(Ad a5).2.2.2.2.2.2.2.2.2.2.2.2.2.2.2.1;have f7:=(Ad a5).2.2.2.2.2.2.2.2.2.2.2.2.2.2.2.2.1;clear a7;obtain⟨q1,q2,q3,q4,q5⟩:=bk.lts;have ay:=bk.set (j:=6) (v:=.slice c1 c3 c2) (k':=5) (b1':=(.slice c1 c3 c2)) (b2':=sZ) (body':=bb) (other':=[]) (λ sl hh=>by simp[World.setCell,Array.getElem?_modify,hh]) bi bk.i2
  go_upto_region 38 with fail
  generalize w37s.setCell ⟨gs,6,none⟩ (.slice c1 c3 c2)=w38s at ay ⊢;clear bk a5 x6 x7 f6 f7 av bi q1 q2 q3 q4 q5;obtain⟨av,a5,a7⟩:=ay.st.box;obtain⟨az,cz,rfl⟩:=A5 a7.choose_spec.1;have aj:=Gm ay a5 a7;obtain⟨y0,y1,y2,y3,y4,y5,y6,y7,y8,_⟩:=Ad a5;obtain⟨e0,e1,e2,e3,e4,e5,e6,e7,e8,m0,m1,m2,m3,m4,m5,m6,m7,m8⟩:=Ad ay.out;obtain⟨q1,q2,q3,q4,q5⟩:=ay.lts;obtain⟨o1,o2,o3,o4⟩:=ay.lo;have bq:gs≠w.heap.size+1+1:=by omega
  have bp:w.heap.size+1+1≠gs:=by omega
  clear ay a7;generalize w.heap.size+1+1=gr at *;go_wp2;rw[a0.out];exact bodyPost_ret (by simp[results,results138,go_sem,e0,e1,e2,e3,e4,e5,e6,e7,e8]) rfl aj
 replace a0:Aside (res=Va (Px.expr' k) t.place (t :: r)):=by
  exact a0.out.trans (if_neg (by rw[hs];simp))
 obtain⟨q1,q2,q3,q4,q5⟩:=ah.lts;have c0:=cell_of_one ah.st.ptr;go_wp2_with fail;refine (A8 ah.ps [102,111,114] hs).mono ?_;rintro e w39s ⟨rfl,a4,b9⟩;have b3:=ah.below b9;clear hs ah b9 a4 c0 q1 q2 q3 q4 q5;replace a0:Aside (res=Px.bind (Px.needK 1 [114,101,116] (t :: r)) λ _ l1=>Px.bind (Px.expr' k l1) λ x l2=>Px.bind (Px.need [59] l2) λ _ l3=>.inl (.mk 6 [] [x] [] [] t.place,l3)):=by
  show _=_;rw[a0.out];rfl
 obtain⟨q1,q2,q3,q4,q5⟩:=b3.lts;have c0:=cell_of_one b3.st.ptr;go_wp2_with fail;refine (pneed_any b3.ps 1 [114,101,116] (by decide) (by decide)).mono ?_;rcases hq:Px.needK 1 [114,101,116] (t :: r) with⟨uz,l1⟩ | ⟨a,er⟩
 rotate_left
 .rintro e wz ⟨rfl,a3⟩;refine⟨rfl,?_⟩;rw[a0.out];simp only[Px.need,hq];exact⟨rfl,b3.fo.call a3 b3.fo.size⟩
 rintro e w40s ⟨v,rfl,rfl,a4,a3⟩;have bs:=b3.call a3 a4;replace a0:Aside (res=Px.bind (Px.expr' k l1) λ x l2=>Px.bind (Px.need [59] l2) λ _ l3=>.inl (.mk 6 [] [x] [] [] t.place,l3)):=by
  show _=_;rw[a0.out];simp only[Px.need,hq];rfl
 clear hq b3 a3 a4 c0 q1 q2 q3 q4 q5;obtain⟨av,a5,a7⟩:=bs.st.box;have x0:=(Ad a5).1;have f0:=(Ad a5).2.2.2.2.2.2.2.2.2.1;clear a7;obtain⟨q1,q2,q3,q4,q5⟩:=bs.lts;have a8:=bs.set (j:=0) (v:=iv 6) (k':=6) (b1':=sZ) (b2':=sZ) (body':=[]) (other':=[]) (λ sl hh=>by simp[World.setCell,Array.getElem?_modify,hh]) (BC _ _) (BC _ _)
 go_upto_region 9 with fail
 generalize w40s.setCell ⟨gs,0,none⟩ (iv 6)=w41s at a8 ⊢;clear bs a5 x0 f0 av q1 q2 q3 q4 q5;obtain⟨o1,o2,o3,o4⟩:=a8.lo;have aq:=a8.ps.good;have b5:=a8.ps.few;obtain⟨q1,q2,q3,q4,q5⟩:=a8.lts;have bo:=cell_of_one a8.st.fe;go_wp2_with fail;refine (Ff (n:=gs) (by omega) bh (by omega) (by omega) (by omega) o4 (by omega) (AD _) [] l1 _ a8.ps a8.st (by omega) (by simpa using b5)).mono ?_;rcases hq:Px.expr' k l1 with⟨x,l2⟩ | ⟨a,er⟩
 rotate_left
 .rintro e wz ⟨rfl,a3⟩;refine⟨rfl,?_⟩;rw[a0.out,hq];exact⟨rfl,a8.fo.trans (a3.mono (by omega))⟩
 rintro e w42s ⟨rfl,a9,a4,a3⟩;have c9:1<=k:=by
  rcases Nat.eq_zero_or_pos k with h0 | h0
  .subst h0;rw[Px.expr'_zero] at hq;simp[Px.fail] at hq
  .exact h0
 have b0:=a8.part (acc':=[x]) a9 a4 a3;replace a0:Aside (res=Px.bind (Px.need [59] l2) λ _ l3=>.inl (.mk 6 [] [x] [] [] t.place,l3)):=by
  show _=_;rw[a0.out,hq];rfl
 clear hq a8 a9 a4 a3 aq b5 bo o1 o2 o3 o4 q1 q2 q3 q4 q5;obtain⟨q1,q2,q3,q4,q5⟩:=b0.lts;have c0:=cell_of_one b0.st.ptr;go_wp2_with fail;refine (pneed_any b0.ps 4 [59] (by decide) (by decide)).mono ?_;rcases hq:Px.needK 4 [59] l2 with⟨uz,l3⟩ | ⟨a,er⟩
 rotate_left
 .rintro e wz ⟨rfl,a3⟩;refine⟨rfl,?_⟩;rw[a0.out];simp only[Px.need,hq];exact⟨rfl,b0.fo.call a3 b0.fo.size⟩
 rintro e w43s ⟨v,rfl,rfl,a4,a3⟩;have bc:=b0.call a3 a4;replace a0:Aside (res=(.inl (.mk 6 [] [x] [] [] t.place,l3):Px.R Px.St)):=by
  show _=_;rw[a0.out];simp only[Px.need,hq];rfl
 clear hq b0 a3 a4 c0 q1 q2 q3 q4 q5;obtain⟨av,a5,a7⟩:=bc.st.box;obtain⟨az,cz,rfl⟩:=A5 a7.choose_spec.1;have aj:=Gm bc a5 a7;obtain⟨y0,y1,y2,y3,y4,y5,y6,y7,y8,_⟩:=Ad a5;obtain⟨e0,e1,e2,e3,e4,e5,e6,e7,e8,m0,m1,m2,m3,m4,m5,m6,m7,m8⟩:=Ad bc.out;obtain⟨q1,q2,q3,q4,q5⟩:=bc.lts;obtain⟨o1,o2,o3,o4⟩:=bc.lo;have bq:gs≠w.heap.size+1+1:=by omega
 have bp:w.heap.size+1+1≠gs:=by omega
 clear bc a7;generalize w.heap.size+1+1=gr at *;go_wp2;rw[a0.out];exact bodyPost_ret (by simp[results,results138,go_sem,e0,e1,e2,e3,e4,e5,e6,e7,e8]) rfl aj
end
end Go.Proofs.YtpckmjfabiallaaGreatDoor
