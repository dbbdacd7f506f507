/- Texts of ours, joined. -/
import Derived.Test.YtpckmjfabiallaaGreatDoorI03
set_option linter.unusedVariables false
set_option linter.unusedSimpArgs false
set_option maxRecDepth 100000
set_option maxHeartbeats 16000000
namespace Go.Proofs.YtpckmjfabiallaaGreatDoor
variable{B':Nat->Prop}{T:TypeId}{b d g ga ge gp j m p pl sz:Nat}{cs xs:List Value}{fs sl ss v:Value}{w w':World}
open List
open Tryz
section
open Go.RowKit
def Av4(d:Nat)(e:Px.P Px.Ex):Prop:=∀(b ga:Nat) (l:List Lx.Tok) (w:World),Ps b ga l w->AA 225 #[pt b 0,iv d] w λ r w'=>C5 b ga w (Px.primary e l) r w'
theorem Uj(e:Px.P Px.Ex)(t:Lx.Tok)(r:List Lx.Tok):Px.primary e (t :: r) =
  if t.kind=2 then .inl (.mk 1 0 t.num [] [] t.place,r)
  else if t.kind=3 then .inl (.mk 3 0 0 t.text [] t.place,r)
  else if Px.sees 1 [116,114,117,101] (t :: r) then .inl (.mk 2 0 1 [] [] t.place,r)
  else if Px.sees 1 [102,97,108,115,101] (t :: r) then .inl (.mk 2 0 0 [] [] t.place,r)
  else if Px.sees 4 [40] (t :: r) then Px.bind (e r) λ x l1=>Px.bind (Px.need [41] l1) λ _ l2=>.inl (x,l2)
  else namedR e (t :: r):=rfl
theorem Pq{e:Px.P Px.Ex}(hd:d<=30)(bl:Px.Ok e)(ar:Ei (d+1) e):Av4 d e:=by
 intro b ga l w h;have al:=Ui hd bl ar;obtain⟨t,r,rfl,_⟩:=h.head;obtain⟨res,a0⟩:∃res,Aside (res=Px.primary e (t :: r)):=⟨_,rfl⟩;rw[<-a0.out];replace a0:Aside (res=_):=a0.out.trans (Uj e t r);have a5:w≠b:=by have:=h.there;omega
 have a6:w≠ga:=by have:=h.gl;omega
 have h0:=h.alloc zeroE;have bg:=Eb w;have b6:Fo b w w (w.alloc zeroE):=(AT _ _ _).alloc (AD _) _;have bj:w.heap.size<(w.alloc zeroE).heap.size:=by simp
 have hC:=Cc h0;have au:∀(l:List Lx.Tok) (w:World),Ps b ga l w->AA 164 #[pt b 0,iv ((d:Int)+1)] w λ r w'=>C5 b ga w (e l) r w':=λ l w h=>ar b ga l w h
 have c3:(d:Int)<=30:=by omega
 go_enter func225,ntmps225;go_wp2_with fail;generalize w.alloc zeroE=w0 at *;refine hC.mono ?_;rintro r1 w1 ⟨rfl,ae⟩;have h2:=(h0.below ae).alloc (tokB t);have ak:(w1.alloc (tokB t)).heap[w.heap.size]?=zeroE:=(Al (by have:=ae.size;omega)).trans ((ae.block _ bj).trans bg);have bc:=heap_new w1 (tokB t);have ah:=(b6.below ae b6.size).alloc (by have:=ae.size;omega) (tokB t);have a9:w.heap.size<(w1.alloc (tokB t)).heap.size:=by have:=ae.size;simp;omega
 have ag:w1.heap.size<(w1.alloc (tokB t)).heap.size:=by simp
 have b3:w1≠b:=by have:=(h0.below ae).there;omega
 have c1:w<w1.heap.size:=by have:=ae.size;omega
 clear hC bg b6 ae h0
 go_upto_region 2 with fail
 generalize w1.alloc (tokB t)=w2 at *;generalize w1.heap.size=g5 at *;obtain⟨x0,x1,x2,x3,_⟩:=cells_of4 bc;have bx:g5≠w.heap.size:=by omega
 have bv:w≠g5:=by omega
 by_cases hk2:t.kind=2
 .replace a0:Aside (res=.inl (.mk 1 0 t.num [] [] t.place,r)):=by
   show _=_;rw[a0.out,if_pos hk2]
  have bq:((t.kind:Int) == 2)=true:=by simp;omega
  have b8:t.kind≠5:=by omega
  have hT:∀w',Ps b ga (t :: r) w'->_:=λ w' h'=>ptake_any h' b8
  have c2:=Ar5;clear hk2
  go_upto_region 3 with fail
  go_region_held3 (λ w'=>w'.cell? ⟨g5,3,none⟩=iv t.place) (go_keep)
   ((go_at_call 70;refine (hT w2.drew (h2.keep rfl rfl (AD _))).mono ?_;rintro e w4 ⟨rfl,h4,a4⟩;have y3:=(a4.cell (o:=3) ag b3).trans x3;have ab:w<w4.heap.size:=AL a9 a4.size;have a7:=(a4.block _ a9 a5).trans ak;obtain⟨e0,e1,e2,e3,e4,e5,e6,e7,m0,m1,m2,m3,m4,m5,m6,m7⟩:=Ab a7))
  have a3:=D3 (x:=.mk 1 0 t.num [] [] t.place) (B:=λ _=>False) h4 ((ah.trans (AV _ _ _)).trans (a4.mono (Nat.le_of_lt a9))) a5 a6 (Ij _ w4 1 0 t.num [] t.place) (λ g hg=>hg.elim);go_wp2;rw[a0.out];exact bodyPost_ret (by simp[results,results225,go_sem,e0,e1,e2,e3,e4,e5,e6,e7]) rfl a3
 have bp:((t.kind:Int) == 2)=false:=by simp;omega
 by_cases hk3:t.kind=3
 .replace a0:Aside (res=.inl (.mk 3 0 0 t.text [] t.place,r)):=by
   show _=_;rw[a0.out,if_neg hk2,if_pos hk3]
  have bq:((t.kind:Int) == 3)=true:=by simp;omega
  have b8:t.kind≠5:=by omega
  have hT:∀w',Ps b ga (t :: r) w'->_:=λ w' h'=>ptake_any h' b8
  have c4:=Wb;clear hk2 hk3
  go_upto_region 5 with fail
  go_region_held3 (λ w'=>w'.cell? ⟨g5,3,none⟩=iv t.place) (go_keep)
   ((go_at_call 70;refine (hT w2.drew (h2.keep rfl rfl (AD _))).mono ?_;rintro e w4 ⟨rfl,h4,a4⟩;have y3:=(a4.cell (o:=3) ag b3).trans x3;have ab:w<w4.heap.size:=AL a9 a4.size;have a7:=(a4.block _ a9 a5).trans ak;obtain⟨e0,e1,e2,e3,e4,e5,e6,e7,m0,m1,m2,m3,m4,m5,m6,m7⟩:=Ab a7))
  have a3:=D3 (x:=.mk 3 0 0 t.text [] t.place) (B:=λ _=>False) h4 ((ah.trans (AV _ _ _)).trans (a4.mono (Nat.le_of_lt a9))) a5 a6 (Ij _ w4 3 0 0 t.text t.place) (λ g hg=>hg.elim);go_wp2;rw[a0.out];exact bodyPost_ret (by simp[results,results225,go_sem,e0,e1,e2,e3,e4,e5,e6,e7]) rfl a3
 have bu:((t.kind:Int) == 3)=false:=by simp;omega
 replace a0:Aside (res=if Px.sees 1 [116,114,117,101] (t :: r) then .inl (.mk 2 0 1 [] [] t.place,r) else if Px.sees 1 [102,97,108,115,101] (t :: r) then .inl (.mk 2 0 0 [] [] t.place,r) else if Px.sees 4 [40] (t :: r) then Px.bind (e r) λ x l1=>Px.bind (Px.need [41] l1) λ _ l2=>.inl (x,l2) else namedR e (t :: r)):=by
  show _=_;rw[a0.out,if_neg hk2,if_neg hk3]
 clear hk2 hk3;rcases hs1:Px.sees 1 [116,114,117,101] (t :: r) with _ | _
 rotate_left
 .replace a0:Aside (res=.inl (.mk 2 0 1 [] [] t.place,r)):=by
   show _=_;rw[a0.out,if_pos hs1]
  go_wp2_with fail
  refine (Ay h2 [116,114,117,101] (by decide) hs1).mono ?_;rintro r1 w4 ⟨rfl,h4,a4⟩;have y3:=(a4.cell (o:=3) ag b3).trans x3;have ab:w<w4.heap.size:=AL a9 a4.size;have bk:g5<w4:=AL ag a4.size;have a7:=(a4.block _ a9 a5).trans ak;obtain⟨e0,e1,e2,e3,e4,e5,e6,e7,m0,m1,m2,m3,m4,m5,m6,m7⟩:=Ab a7;have a3:=D3 (x:=.mk 2 0 1 [] [] t.place) (B:=λ _=>False) h4 (ah.call a4 ah.size) a5 a6 (Ij _ w4 2 0 1 [] t.place) (λ g hg=>hg.elim);go_wp2;rw[a0.out];exact bodyPost_ret (by simp[results,results225,go_sem,e0,e1,e2,e3,e4,e5,e6,e7]) rfl a3
 replace a0:Aside (res=if Px.sees 1 [102,97,108,115,101] (t :: r) then .inl (.mk 2 0 0 [] [] t.place,r) else if Px.sees 4 [40] (t :: r) then Px.bind (e r) λ x l1=>Px.bind (Px.need [41] l1) λ _ l2=>.inl (x,l2) else namedR e (t :: r)):=by
  show _=_;rw[a0.out,if_neg (by rw[hs1];simp)]
 go_wp2_with fail
 refine (A7 h2 [116,114,117,101] hs1).mono ?_;rintro r1 w3 ⟨rfl,h3,aj⟩;have b5:=(aj.block _ a9).trans ak;have bh:=(aj.block _ ag).trans bc;have aq:=ah.below aj ah.size;have am:w<w3.heap.size:=AL a9 aj.size;have bb:g5<w3:=AL ag aj.size;clear x0 x1 x2 x3 ak bc ah a9 ag h2 aj hs1;obtain⟨x0,x1,x2,x3,_⟩:=cells_of4 bh;rcases hs1:Px.sees 1 [102,97,108,115,101] (t :: r) with _ | _
 rotate_left
 .replace a0:Aside (res=.inl (.mk 2 0 0 [] [] t.place,r)):=by
   show _=_;rw[a0.out,if_pos hs1]
  go_wp2_with fail
  refine (Ay h3 [102,97,108,115,101] (by decide) hs1).mono ?_;rintro r1 w4 ⟨rfl,h4,a4⟩;have y3:=(a4.cell (o:=3) bb b3).trans x3;have ab:w<w4.heap.size:=AL am a4.size;have bk:g5<w4:=AL bb a4.size;have a7:=(a4.block _ am a5).trans b5;obtain⟨e0,e1,e2,e3,e4,e5,e6,e7,m0,m1,m2,m3,m4,m5,m6,m7⟩:=Ab a7;have a3:=D3 (x:=.mk 2 0 0 [] [] t.place) (B:=λ _=>False) h4 (aq.call a4 aq.size) a5 a6 (Ij _ w4 2 0 0 [] t.place) (λ g hg=>hg.elim);go_wp2;rw[a0.out];exact bodyPost_ret (by simp[results,results225,go_sem,e0,e1,e2,e3,e4,e5,e6,e7]) rfl a3
 replace a0:Aside (res=if Px.sees 4 [40] (t :: r) then Px.bind (e r) λ x l1=>Px.bind (Px.need [41] l1) λ _ l2=>.inl (x,l2) else namedR e (t :: r)):=by
  show _=_;rw[a0.out,if_neg (by rw[hs1];simp)]
 go_wp2_with fail
 refine (A7 h3 [102,97,108,115,101] hs1).mono ?_;rintro r1 w4 ⟨rfl,h4,b4⟩;have a7:=(b4.block _ am).trans b5;have ai:=aq.below b4 aq.size;have ab:w<w4.heap.size:=AL am b4.size;clear x0 x1 x2 x3 b5 bh aq am bb h3 b4 hs1;rcases hs1:Px.sees 4 [40] (t :: r) with _ | _
 .replace a0:Aside (res=namedR e (t :: r)):=by
   show _=_;rw[a0.out,if_neg (by rw[hs1];simp)]
  go_wp2_with fail
  refine (A7 h4 [40] hs1).mono ?_;rintro r1 w5 ⟨rfl,h5,b0⟩;have ax:=(b0.block _ ab).trans a7;have aa:=ai.below b0 ai.size;have af:w<w5.heap.size:=AL ab b0.size;clear hs1 a7 ai ab h4 b0;go_wp2_with fail;refine (al b ga (t :: r) w5 h5).mono ?_;rcases hq:namedR e (t :: r) with⟨x,l1⟩ | ⟨a,er⟩
  .rintro r1 w6 ⟨v,rfl,⟨k,o,n,tt,ao,an,ac,p,rfl,hx⟩,h6,a8⟩;have aw:=(a8.block _ af a5).trans ax;have b9:w<w6.heap.size:=AL af a8.size;obtain⟨e0,e1,e2,e3,e4,e5,e6,e7,m0,m1,m2,m3,m4,m5,m6,m7⟩:=Ab aw;have a3:=D3 h6 (aa.call a8 aa.size) a5 a6 hx (λ g hg=>AL af hg);rw[hq] at a0;clear hq;go_wp2;rw[a0.out];exact bodyPost_ret (by simp[results,results225,go_sem,e0,e1,e2,e3,e4,e5,e6,e7]) rfl a3
  .rintro r1 w6 ⟨rfl,a8⟩;refine⟨rfl,?_⟩;rw[a0.out,hq];exact⟨rfl,aa.call a8 aa.size⟩
 .replace a0:Aside (res=Px.bind (e r) λ x l1=>Px.bind (Px.need [41] l1) λ _ l2=>.inl (x,l2)):=by
   show _=_;rw[a0.out,if_pos hs1]
  go_wp2_with fail
  refine (Ay h4 [40] (by decide) hs1).mono ?_;rintro r1 w5 ⟨rfl,h5,ay⟩;have ax:=(ay.block _ ab a5).trans a7;have aa:=ai.call ay ai.size;have af:w<w5.heap.size:=AL ab ay.size;clear hs1 a7 ai ab h4 ay;go_wp2_with fail;refine (au r w5 h5).mono ?_;rcases hq:e r with⟨x,l1⟩ | ⟨a,er⟩
  .rintro r1 w6 ⟨v,rfl,⟨k,o,n,tt,ao,an,ac,p,rfl,hx⟩,h6,a8⟩;replace a0:Aside (res=Px.bind (Px.need [41] l1) λ _ l2=>.inl (x,l2)):=by
    show _=_;rw[a0.out,hq];rfl
   have aw:=(a8.block _ af a5).trans ax;have b9:w<w6.heap.size:=AL af a8.size;have b7:=aa.call a8 aa.size;have h7:=h6.alloc (eO k o n tt (.slice ao an ac) p);have az:Below w6 w6 (w6.alloc (eO k o n tt (.slice ao an ac) p)):=(AF _ _).alloc (AD _) _;have br:=(hx.plow (B':=λ g=>w.heap.size<g/\g≠w6.heap.size) (λ g hg hlt=>⟨AL af hg,Nat.ne_of_lt hlt⟩)).since (Since.of_below az);have bt:=(az.block _ b9).trans aw;have bw:=heap_new w6 (eO k o n tt (.slice ao an ac) p);have av:=b7.below az b7.size;have bi:w.heap.size<(w6.alloc (eO k o n tt (.slice ao an ac) p)).heap.size:=AL b9 az.size;have bf:w6.heap.size<(w6.alloc (eO k o n tt (.slice ao an ac) p)).heap.size:=by simp
   have ba:w6≠b:=by have:=h6.there;omega
   clear hq ax aw aa b7 h5 h6 a8 hx af
   go_upto_region 12 with fail
   generalize w6.alloc (eO k o n tt (.slice ao an ac) p)=w7 at *;generalize w6.heap.size=g6 at *;go_wp2_with fail;refine (pneed_any h7 4 [41] (by decide) (by decide)).mono ?_;rcases hq:Px.need [41] l1 with⟨u,l2⟩ | ⟨a,er⟩
   .rw[show Px.needK 4 [41] l1=_ from hq];rintro r1 w8' ⟨v,rfl,rfl,h8,ad⟩;replace a0:Aside (res=.inl (x,l2)):=by
     show _=_;rw[a0.out,hq];rfl
    have bn:=(ad.block _ bi a5).trans bt;have bo:=(ad.block _ bf ba).trans bw;have c0:w<w8'.heap.size:=AL bi ad.size;have c5:g6<w8':=AL bf ad.size;have bs:=br.since (ad.sinceB (λ hh=>by have:=h.there;omega));have a3:=D3 h8 (av.call ad av.size) a5 a6 bs (λ g hg=>hg.1);obtain⟨e0,e1,e2,e3,e4,e5,e6,e7,m0,m1,m2,m3,m4,m5,m6,m7⟩:=Ab bn;obtain⟨y0,y1,y2,y3,y4,y5,y6,y7,_⟩:=Ab bo;clear hq ad;go_wp2;rw[a0.out];exact bodyPost_ret (by simp[results,results225,go_sem,e0,e1,e2,e3,e4,e5,e6,e7]) rfl a3
   .rw[show Px.needK 4 [41] l1=_ from hq];rintro r1 w8' ⟨rfl,ad⟩;refine⟨rfl,?_⟩;rw[a0.out,hq];exact⟨rfl,av.call ad av.size⟩
  .rintro r1 w6 ⟨rfl,a8⟩;refine⟨rfl,?_⟩;rw[a0.out,hq];exact⟨rfl,aa.call a8 aa.size⟩
theorem Lk{w4:World}{x:Px.Ex}{l':List Lx.Tok}{kk k o n:Nat}{t:Lx.B}{ao:Option Addr}{an ac:Nat}{B:AS}(h4:Ps b ga l' w4)(hF:Fo b w w w4)(hg:w≠b)(a8:w≠ga)(hl:w<w4.heap.size)(hx:IsEx B w4 x (eL k o n t (.slice ao an ac) p))(hB:∀g,B g->w.heap.size<g) :
  C5 b ga w (.inl (.mk kk 0 0 [] [x] pl,l')) (.returned (eV kk 0 0 [] (sL w4 0 1 1) pl)) ((eS w4 w kk 0 0 [] (sL w4 0 1 1) pl).alloc (eO k o n t (.slice ao an ac) p)):=by
 have a4:=h4.set8 hg a8 (iv kk) (iv (0:Nat)) (iv (0:Nat)) sE (iv 0) sE (sL w4 0 1 1) (iv pl);have a7:=hF.set8 (AD _) (iv kk) (iv (0:Nat)) (iv (0:Nat)) sE (iv 0) sE (sL w4 0 1 1) (iv pl);have a6:=Po w4 w kk 0 0 pl [] (sL w4 0 1 1);have a5:∀j,j≠w.heap.size->(eS w4 w kk 0 0 [] (sL w4 0 1 1) pl).heap[j]?=w4.heap[j]?:=λ j hj=>Ad8 hj
 replace a4:Ps b ga l' (eS w4 w kk 0 0 [] (sL w4 0 1 1) pl):=a4;replace a7:Fo b w w (eS w4 w kk 0 0 [] (sL w4 0 1 1) pl):=a7;generalize eS w4 w kk 0 0 [] (sL w4 0 1 1) pl=wX at *;have a3:=heap_new wX (eO k o n t (.slice ao an ac) p);rw[a6] at a3;have a0:Since B w4 (wX.alloc (eO k o n t (.slice ao an ac) p)):=⟨by simp[a6],λ j h1 h2=>(Al (by omega)).trans (a5 j (by have:=hB j h1;omega))⟩;refine⟨_,rfl,⟨kk,0,0,[],_,1,1,pl,rfl,?_⟩,a4.alloc _,a7.alloc (by omega) _⟩;exact Av2 (B:=From w) (show w<=w4.heap.size by omega) (by simp[a6]) (λ j u hj=>Lh a3 (by rw[List.getElem?_toArray];exact hj)) ((hx.since a0).base (λ g h=>Nat.le_of_lt (hB g h)))
theorem Ae1{P:AS}{wD wF:World}{g7 k o nn k2 o2 n2 p2 kk op:Nat}{t t2:Lx.B}{sl2:Value}(hP:P wD)(a8:¬P g7)(h7:wD.heap[g7]?=eO k o nn t sl p)
  (hwF:wF=(eS wD g7 kk op 0 [] (sL wD 0 2 2) pl).alloc (.cells (eL k o nn t sl p ++ eL k2 o2 n2 t2 sl2 p2).toArray 48 (0,0))) :
  wF.heap[g7]?=eO kk op 0 [] (sL wD 0 2 2) pl/\Fo g7 wD wD wF/\wF=wD.heap.size+1/\∀x y,IsEx P wD x (eL k o nn t sl p)->IsEx P wD y (eL k2 o2 n2 t2 sl2 p2)->IsEx P wF (.mk kk op 0 [] [x,y] pl) (eL kk op 0 [] (sL wD 0 2 2) pl):=by
 have a9:g7<wD:=(AB h7).1;have a7:=Po wD g7 kk op 0 pl [] (sL wD 0 2 2);have a6:=Ar7 wD g7 kk op 0 pl [] (sL wD 0 2 2) wD;have a5:=Ad7 (k:=kk) (o:=op) (n:=0) (t:=[]) (sl:=sL wD 0 2 2) (p:=pl) h7;generalize eS wD g7 kk op 0 [] (sL wD 0 2 2) pl=wX at *;have hb:Below wX wX wF:=by
  rw[hwF];exact (AF _ _).alloc (AD _) _
 have a3:wF.heap[wD.heap.size]?=some (.cells (eL k o nn t sl p ++ eL k2 o2 n2 t2 sl2 p2).toArray 48 (0,0)):=by
  rw[hwF,<-a7];exact heap_new _ _
 have a4:wF=wD.heap.size+1:=by rw[hwF];simp[a7]
 clear hwF;have a0:Since P wD wF:=⟨by omega,λ j h1 h2=>(hb.block j (by omega)).trans (a6.block j h2 (λ e=>a8 (by rw[<-e];exact h1)))⟩;exact⟨(hb.block g7 (by omega)).trans a5,a6.trans (AU (hb.mono (by omega))),a4,λ x y hx hy=>Ad6 hP (by omega) (λ j v hj=>Lh a3 (by rw[List.getElem?_toArray];exact hj)) (hx.since a0) (hy.since a0)⟩
theorem ats_fuel{e:Px.P Px.Ex}(he:Px.Ok e):∀(f g:Nat) (acc:Px.Ex) (l:List Lx.Tok),Px.Good l->l.length<f->l.length<g->Px.ats e f acc l=Px.ats e g acc l
 | 0,_,_,_,_,h,_=>by omega
 | _,0,_,_,_,_,h=>by omega
 | f+1,g+1,acc,l,hg,h1,h2=>by
  simp only[Px.ats];split
  .rename_i hs;have a:=Px.sees4 hs hg;refine Px.bind_congr λ x l1 e1=>Px.bind_congr λ u l2 e2=>?_
   have a1:=(he _ a.good).ok x l1 e1;have a2:=(Px.need_res a1.good).ok u l2 e2;exact ats_fuel he f g _ l2 a2.good (by have:=a.less;have:=a1.less;have:=a2.less;omega) (by have:=a.less;have:=a1.less;have:=a2.less;omega)
  .rfl
theorem R3:Yh 25 (Px.unary 0):=by
 intro b ga l w h;have h0:=h.alloc zeroE;have a0:Fo b w w (w.alloc zeroE):=(AT _ _ _).alloc (AD _) _;go_enter func216,ntmps216;go_wp2_with fail;generalize w.alloc zeroE=w0 at *;refine (pwithin_bad h0 25 24 (by omega)).mono ?_;rintro e w1 ⟨rfl,a3⟩;exact⟨rfl,rfl,a0.call a3 a0.size⟩
theorem R4{k:Nat}(cu:d+(k+1)=25)(IH:Yh (d+1) (Px.unary k)):Yh d (Px.unary (k+1)):=by
 have bh:Ei (d+1) (Px.expr' k):=Nz (by omega) (Px.unary_ok k) IH;have bx:=Px.expr'_ok k;have bk:=Pq (d:=d) (by omega) bx bh;intro b ga l w h;obtain⟨res,a0⟩:∃res,Aside (res=Px.unary (k+1) l):=⟨_,rfl⟩;rw[<-a0.out];replace a0:Aside (res=_):=a0.out.trans (Px.unary_as h.good);obtain⟨t,r,rfl,_⟩:=h.head;have a8:w≠b:=by have:=h.there;omega
 have az:w≠ga:=by have:=h.gl;omega
 have cr:=h.there;have h0:=h.alloc zeroE;have cc:=Eb w;have bw:Fo b w w (w.alloc zeroE):=(AT _ _ _).alloc (AD _) _;have bu:w.heap.size<(w.alloc zeroE).heap.size:=by simp
 have cg:∀(l:List Lx.Tok) (w:World),Ps b ga l w->AA 216 #[pt b 0,iv ((d:Int)+1)] w λ r w'=>C5 b ga w (Px.unary k l) r w':=λ l w h=>IH b ga l w h
 have bi:∀(l:List Lx.Tok) (w:World),Ps b ga l w->AA 164 #[pt b 0,iv ((d:Int)+1)] w λ r w'=>C5 b ga w (Px.expr' k l) r w':=λ l w h=>bh b ga l w h
 have cz:(d:Int)<=24:=by omega
 have cv:=Rn;go_enter func216,ntmps216;go_wp2_with fail;generalize w.alloc zeroE=w0 at *;refine (pwithin_ok h0 d 24 (by omega)).mono ?_;rintro e w0' ⟨rfl,rfl⟩;go_wp2_with fail;refine (Cc h0).mono ?_;rintro e w1 ⟨rfl,bl⟩;have h1:=h0.below bl;have bt:=(bl.block _ bu).trans cc;have b7:=bw.below bl bw.size;have b6:w<w1.heap.size:=AL bu bl.size;clear cc bw bu bl h0;rcases hm:Px.sees 4 [45] (t :: r) with _ | _
 rotate_left
 .replace a0:Aside (res=Px.bind (Px.unary k r) λ x l1=>.inl (.mk 13 0 0 [] [x] t.place,l1)):=by
   show _=_;rw[a0.out,if_pos hm];rfl
  go_wp2_with fail
  refine (Ay h1 [45] (by decide) hm).mono ?_;rintro e w2 ⟨rfl,h2,bq⟩;have b5:=(bq.block _ b6 a8).trans bt;have af:=b7.call bq b7.size;have ag:w<w2.heap.size:=AL b6 bq.size;clear hm bt b7 b6 h1 bq;go_wp2_with fail;refine (cg r w2 h2).mono ?_;rcases hq:Px.unary k r with⟨x,l1⟩ | ⟨a,er⟩
  .rintro e w4 ⟨v,rfl,⟨kk,o,n,tt,ao,an,ac,p,rfl,hx⟩,h4,a5⟩;replace a0:Aside (res=.inl (.mk 13 0 0 [] [x] t.place,l1)):=by
    show _=_;rw[a0.out,hq];rfl
   have c2:=(a5.block _ ag a8).trans b5;have av:w<w4.heap.size:=AL ag a5.size;obtain⟨e0,e1,e2,e3,e4,e5,e6,e7,m0,m1,m2,m3,m4,m5,m6,m7⟩:=Ab c2;have aa:=Lk (kk:=13) (pl:=t.place) h4 (af.call a5 af.size) a8 az av hx (λ g hg=>AL ag hg);clear hq;go_wp2;rw[a0.out];exact bodyPost_ret (by simp[results,results216,go_sem,e0,e1,e2,e3,e4,e5,e6,e7,av]) rfl aa
  .rintro e w4 ⟨rfl,a5⟩;refine⟨rfl,?_⟩;rw[a0.out,hq];exact⟨rfl,af.call a5 af.size⟩
 replace a0:Aside (res=if Px.sees 4 [33] (t :: r) then Px.bind (Px.unary k r) λ x l1=>.inl (.mk 14 0 0 [] [x] t.place,l1) else Px.bind (Px.primary (Px.expr' k) (t :: r)) λ x l1=>Px.ats (Px.expr' k) (l1.length+1) x l1):=by
  show _=_;rw[a0.out,if_neg (by rw[hm];simp)];rfl
 go_wp2_with fail
 refine (A7 h1 [45] hm).mono ?_;rintro e w2 ⟨rfl,h2,bp⟩;have b5:=(bp.block _ b6).trans bt;have af:=b7.below bp b7.size;have ag:w<w2.heap.size:=AL b6 bp.size;clear hm bt b7 b6 h1 bp;rcases hm:Px.sees 4 [33] (t :: r) with _ | _
 rotate_left
 .replace a0:Aside (res=Px.bind (Px.unary k r) λ x l1=>.inl (.mk 14 0 0 [] [x] t.place,l1)):=by
   show _=_;rw[a0.out,if_pos hm]
  go_wp2_with fail
  refine (Ay h2 [33] (by decide) hm).mono ?_;rintro e w3 ⟨rfl,h3,aj⟩;have bn:=(aj.block _ ag a8).trans b5;have ah:=af.call aj af.size;have ay:w<w3.heap.size:=AL ag aj.size;clear hm b5 af ag h2 aj;go_wp2_with fail;refine (cg r w3 h3).mono ?_;rcases hq:Px.unary k r with⟨x,l1⟩ | ⟨a,er⟩
  .rintro e w4 ⟨v,rfl,⟨kk,o,n,tt,ao,an,ac,p,rfl,hx⟩,h4,a5⟩;replace a0:Aside (res=.inl (.mk 14 0 0 [] [x] t.place,l1)):=by
    show _=_;rw[a0.out,hq];rfl
   have c2:=(a5.block _ ay a8).trans bn;have av:w<w4.heap.size:=AL ay a5.size;obtain⟨e0,e1,e2,e3,e4,e5,e6,e7,m0,m1,m2,m3,m4,m5,m6,m7⟩:=Ab c2;have aa:=Lk (kk:=14) (pl:=t.place) h4 (ah.call a5 ah.size) a8 az av hx (λ g hg=>AL ay hg);clear hq;go_wp2;rw[a0.out];exact bodyPost_ret (by simp[results,results216,go_sem,e0,e1,e2,e3,e4,e5,e6,e7,av]) rfl aa
  .rintro e w4 ⟨rfl,a5⟩;refine⟨rfl,?_⟩;rw[a0.out,hq];exact⟨rfl,ah.call a5 ah.size⟩
 replace a0:Aside (res=Px.bind (Px.primary (Px.expr' k) (t :: r)) λ x l1=>Px.ats (Px.expr' k) (l1.length+1) x l1):=by
  show _=_;rw[a0.out,if_neg (by rw[hm];simp)]
 go_wp2_with fail
 refine (A7 h2 [33] hm).mono ?_;rintro e w3 ⟨rfl,h3,br⟩;have bn:=(br.block _ ag).trans b5;have ah:=af.below br af.size;have ay:w<w3.heap.size:=AL ag br.size;clear hm b5 af ag h2 br;go_wp2_with fail;refine (bk b ga (t :: r) w3 h3).mono ?_;rcases hq:Px.primary (Px.expr' k) (t :: r) with⟨x,l1⟩ | ⟨a,er⟩
 rotate_left
 .rintro e w4 ⟨rfl,a5⟩;refine⟨rfl,?_⟩;rw[a0.out,hq];exact⟨rfl,ah.call a5 ah.size⟩
 rintro e w4 ⟨v,rfl,⟨kk,o,n,tt,ao,an,ac,p,rfl,hx⟩,h4,a5⟩;replace a0:Aside (res=Px.ats (Px.expr' k) (l1.length+1) x l1):=by
  show _=_;rw[a0.out,hq];rfl
 have av:w<w4.heap.size:=AL ay a5.size;have hA:BinAt b ga w4 w x l1 (w4.alloc (eO kk o n tt (.slice ao an ac) p)):=by
  refine⟨h4.alloc _,⟨kk,o,n,tt,ao,an,ac,p,heap_new w4 _,?_⟩,(Al av).trans ((a5.block _ ay a8).trans bn),(ah.call a5 ah.size).alloc (Nat.le_of_lt av) _⟩;exact (hx.plow (λ g hg hlt=>⟨AL ay hg,Nat.ne_of_lt hlt⟩)).since (Since.of_below ((AF _ _).alloc (AD _) _))
 have b3:w4≠b:=by have:=h4.there;omega
 have ci:w4≠ga:=by have:=h4.gl;omega
 clear hq bn ah a5 h3 hx h4;go_wp2_with fail;generalize w4.alloc (eO kk o n tt (.slice ao an ac) p)=w5 at *;generalize w4.heap.size=g7 at *
 go_loopg [] (l1.length+1) (λ m wr=>∃(acc:Px.Ex) (l4:List Lx.Tok),m=l4.length+1/\BinAt b ga g7 w acc l4 wr/\Aside (res=Px.ats (Px.expr' k) (l4.length+1) acc l4))
 case atStart=>exact⟨x,l1,rfl,hA,a0⟩
 case round=>
  clear a0 hA;obtain⟨acc,l4,rfl,hA,a0⟩:=hrel;have hI:=Gw hA.ps [91];have ca:w.heap.size<wr.heap.size:=(AB hA.out).1;obtain⟨kk,o,nn,tt,ao,an,ac,p,ad,ai⟩:=hA.box;have ce:g7<wr:=(AB ad).1;have bs:¬(w<b/\b≠g7):=by omega
  rcases hm:Px.sees 4 [91] l4 with _ | _
  .rw[show Px.sees (cls [91]) [91] l4=false from hm] at hI;replace a0:Aside (res=.inl (acc,l4)):=by
    show _=_;rw[a0.out];simp only[Px.ats];rw[if_neg (by rw[hm];simp)]
   clear hm;go_wp2_with fail;refine hI.mono ?_;rintro e w6 ⟨rfl,a6⟩;have ak:=(a6.block g7 ce).trans ad;have am:=(a6.block _ ca).trans hA.out;have cm:g7<w6:=(AB ak).1;have cp:w<w6.heap.size:=(AB am).1;have aa:=D3 (hA.ps.below a6) (hA.fo.below a6 hA.fo.size) a8 az (ai.since (Since.of_below a6)) (λ g hg=>hg.1);obtain⟨y0,y1,y2,y3,y4,y5,y6,y7,_⟩:=Ab ak;obtain⟨e0,e1,e2,e3,e4,e5,e6,e7,m0,m1,m2,m3,m4,m5,m6,m7⟩:=Ab am;clear a6 ad ai hI hA;go_wp2;rw[a0.out];exact bodyPost_ret (by simp[results,results216,go_sem,e0,e1,e2,e3,e4,e5,e6,e7]) rfl aa
  .rw[show Px.sees (cls [91]) [91] l4=true from hm] at hI;obtain⟨u,rr,rfl,d0,_⟩:=Px.sees_head hm;replace a0:Aside (res=Px.bind (Px.expr' k rr) λ x l1=>Px.bind (Px.need [93] l1) λ _ l2=>Px.ats (Px.expr' k) (rr.length+1) (.mk 12 0 0 [] [acc,x] u.place) l2):=by
    show _=_;rw[a0.out];simp only[Px.ats,length_cons];rw[if_pos hm];rfl
   clear hm;go_wp2_with fail;refine hI.mono ?_;rintro e w6 ⟨rfl,a6⟩;have cd:=hA.ps.below a6;go_wp2_with fail;refine (ptake_any cd (by omega)).mono ?_;rintro e w7 ⟨rfl,c1,bc⟩;have ab:=(bc.block g7 (by have:=a6.size;omega) b3).trans ((a6.block g7 ce).trans ad);have a9:=(bc.block _ (by have:=a6.size;omega) a8).trans ((a6.block _ ca).trans hA.out);have ar:=(ai.since (Since.of_below a6)).since (bc.sinceB bs);have ba:=(hA.fo.below a6 hA.fo.size).call bc (by have:=a6.size;have:=hA.fo.size;omega);clear a6 bc ad ai hI cd hA;go_wp2_with fail;refine (bi rr w7 c1).mono ?_;rcases hqr:Px.expr' k rr with⟨y,l6⟩ | ⟨a,er⟩
   rotate_left
   .rintro e w8' ⟨rfl,aq⟩;refine⟨rfl,?_⟩;rw[a0.out,hqr];exact⟨rfl,ba.call aq ba.size⟩
   rintro e w8' ⟨v,rfl,⟨k2,o2,n2,t2,bj,b8,b9,p2,rfl,hy⟩,c5,aq⟩;have cy:=((bx rr c1.good).ok y l6 hqr).less;replace a0:Aside (res=Px.bind (Px.need [93] l6) λ _ l2=>Px.ats (Px.expr' k) (rr.length+1) (.mk 12 0 0 [] [acc,y] u.place) l2):=by
    show _=_;rw[a0.out,hqr];rfl
   have c8:g7<w7:=(AB ab).1;have c9:w<w7.heap.size:=(AB a9).1;have b4:Below w8' w8' (w8'.alloc (eO k2 o2 n2 t2 (.slice bj b8 b9) p2)):=(AF _ _).alloc (AD _) _;have ct:=aq.size;have aw:=(b4.block g7 (by omega)).trans ((aq.block g7 c8 b3).trans ab);have au:=(b4.block _ (by omega)).trans ((aq.block _ c9 a8).trans a9);have al:=(ar.since (aq.sinceB bs)).since (Since.of_below b4);have ch:=(hy.plow (B':=λ g=>w.heap.size<g/\g≠g7) (λ g hg _=>by have cw:w7.heap.size<=g:=hg;omega)).since (Since.of_below b4);have bo:=c5.below b4;have bg:=(ba.call aq ba.size).below b4 (by omega);have cj:=heap_new w8' (eO k2 o2 n2 t2 (.slice bj b8 b9) p2);have d1:(w8'.alloc (eO k2 o2 n2 t2 (.slice bj b8 b9) p2)).heap.size=w8'.heap.size+1:=by simp
   have c4:w8'≠b:=by have:=c5.there;omega
   clear aq hqr ar ab a9 hy ba c1 c5 b4
   go_upto_region 11 with fail
   generalize w8'.alloc (eO k2 o2 n2 t2 (.slice bj b8 b9) p2)=w9 at *;generalize w8'.heap.size=g8 at *;go_wp2_with fail;refine (pneed_any bo 4 [93] (by decide) (by decide)).mono ?_;rcases hqn:Px.need [93] l6 with⟨uu,l9⟩ | ⟨a,er⟩
   rotate_left
   .rw[show Px.needK 4 [93] l6=_ from hqn];rintro e w10 ⟨rfl,a4⟩;refine⟨rfl,?_⟩;rw[a0.out,hqn];exact⟨rfl,bg.call a4 bg.size⟩
   rw[show Px.needK 4 [93] l6=_ from hqn];rintro e w10 ⟨v,rfl,rfl,b0,a4⟩;have cl:=((Px.need_res bo.good).ok uu l9 hqn).less;have c6:=((Px.need_res bo.good).ok uu l9 hqn).good;replace a0:Aside (res=Px.ats (Px.expr' k) (l9.length+1) (.mk 12 0 0 [] [acc,y] u.place) l9):=by
    show _=_;rw[a0.out,hqn];exact ats_fuel bx _ _ _ _ c6 (by omega) (by omega)
   have a7:=(a4.block g7 (by omega) b3).trans aw;have ae:=(a4.block _ (by omega) a8).trans au;have bf:=(a4.block g8 (by omega) c4).trans cj;have ax:=al.since (a4.sinceB bs);have c3:=ch.since (a4.sinceB bs);have c0:=bg.call a4 bg.size;have cf:g7<w10:=(AB a7).1;have bb:w<w10.heap.size:=(AB ae).1;have cq:g8<w10:=(AB bf).1;obtain⟨y0,y1,y2,y3,y4,y5,y6,y7,j0,j1,j2,j3,j4,j5,j6,j7⟩:=Ab a7;obtain⟨x0,x1,x2,x3,x4,x5,x6,x7,_⟩:=Ab bf;clear hqn a4 aw au cj al ch bg bo;go_wp2;obtain⟨bv,a3,co,c7⟩:=Ae1 (P:=λ g=>w.heap.size<g/\g≠g7) (kk:=12) (op:=0) (pl:=u.place) (k2:=k2) (o2:=o2) (n2:=n2) (p2:=p2) (t2:=t2) (sl2:=.slice bj b8 b9) (by omega) (λ hh=>hh.2 rfl) a7 rfl;go_roundg (l9.length+1)
   case measure=>simp only[length_cons];omega
   case rel=>
    refine⟨_,l9,rfl,⟨?_,⟨12,0,0,[],_,2,2,u.place,bv,c7 acc y ax c3⟩,?_,?_⟩,a0⟩
    .exact b0.keep (a3.block _ b0.there (by omega)) (a3.block _ b0.gl (by omega)) a3.size
    .exact (a3.block _ bb (by omega)).trans ae
    .exact c0.trans ⟨a3.os,a3.tape,a3.output,a3.size,λ j h1 h2=>a3.block j (by omega) (by omega)⟩
theorem Ll:∀(k d:Nat),d+k=25->Yh d (Px.unary k)
 | 0,d,h=>by
  have:d=25:=by omega
  subst this;exact R3
 | k+1,d,h=>R4 h (Ll k (d+1) (by omega))
theorem pexpr_deep(k d:Nat)(h:d+k=25):Ei d (Px.expr' k):=Nz (by omega) (Px.unary_ok k) (Ll k d h)
theorem F0.since{acc:List Px.Ex}(h:F0 m w sl acc)(f:∀k,m<=k->k<w.heap.size->w'.heap[k]?=w.heap[k]?)(hs:w<=w'.heap.size):F0 m w' sl acc:=by
 obtain⟨row,⟨h1,h2⟩,h3⟩:=h;refine⟨row,⟨h1,?_⟩,h3.since ⟨hs,λ k hk hl=>f k hk.1 hl⟩⟩;rcases h2 with h2 | ⟨g,cap,cur,hv,hg,hh,r⟩
 .exact AI h2
 .exact AJ ⟨g,cap,cur,hv,hg,(f g hg (AB hh).1).trans hh,r⟩
theorem PStBox.set{gd gx k k':Nat}{nm nm':Lx.B}{b1 b2 b1' b2':Value}{acc:List Px.Ex}(h:PStBox b gp gd gx ge d k nm b1 b2 pl acc w)(h2:gp<gd)(h3:gd<gx)(h4:gx<ge)
  (hset:∀sl,w.heap[gx]?=some (sO k nm sl b1 b2 pl)->(w.setCell ⟨gx,j,none⟩ v).heap[gx]?=some (sO k' nm' sl b1' b2' pl)):PStBox b gp gd gx ge d k' nm' b1' b2' pl acc (w.setCell ⟨gx,j,none⟩ v):=by
 obtain⟨hp,hd,he,sl,hx,hg⟩:=h;have a0:∀i,i≠gx->(w.setCell ⟨gx,j,none⟩ v).heap[i]?=w.heap[i]?:=λ i hi=>AG _ _ _ _ hi
 exact⟨(a0 _ (by omega)).trans hp,(a0 _ (by omega)).trans hd,(a0 _ (by omega)).trans he,sl,hset sl hx,hg.since (λ i hi _=>a0 i (by omega)) (by simp[World.setCell])⟩
theorem PStBox.lts{gd gx k:Nat}{nm:Lx.B}{b1 b2:Value}{acc:List Px.Ex}(h:PStBox b gp gd gx ge d k nm b1 b2 pl acc w):gp<w/\gd<w/\ge<w/\gx<w:=by
 obtain⟨hp,hd,he,sl,hx,hg⟩:=h;exact⟨(AB hp).1,(AB hd).1,(AB he).1,(AB hx).1⟩
def Ae2(b ga gp gd gx ge d k:Nat)(b1 b2:Value)(pl:Nat)(acc:List Px.Ex)(w:World)(r:Px.R Lx.Tok)(e:Ending)(w':World):Prop:=
 match r with
 | .inl (t,l')=>e=.returned (.tuple #[])/\PStBox b gp gd gx ge d k t.text b1 b2 pl acc w'/\Ps b ga l' w'/\Fo b gx w w'
 | .inr (a,er)=>e=.panicked (Bj a er)/\Fo b gx w w'
theorem Il{gd gx k:Nat}{nm:Lx.B}{b1 b2:Value}{acc:List Px.Ex}{l:List Lx.Tok}(h1:b<gp)(h2:gp<gd)(h3:gd<gx)(h4:gx<ge)(a6:ga<gp)(h:Ps b ga l w)(hi:PStBox b gp gd gx ge d k nm b1 b2 pl acc w) :
  AA 162 #[pt gp 0,pt gx 0] w λ e w'=>Ae2 b ga gp gd gx ge d k b1 b2 pl acc w (Px.name l) e w':=by
 obtain⟨l1,l2,l3,l4⟩:=hi.lts;have c0:=cell_of_one hi.ptr;have a7:=Wb;have hC:=Gx h;obtain⟨res,a0⟩:∃res,Aside (res=Px.name l):=⟨_,rfl⟩;rw[<-a0.out] at hC ⊢;clear a0;go_enter func162,ntmps162;go_wp2_with fail;refine hC.mono ?_;rcases res with⟨t,l'⟩ | ⟨a,er⟩
 .rintro e w1 ⟨v,rfl,rfl,hP,hf⟩;have a5:=hi.fo hf h1 h2 h3 h4;obtain⟨m1,m2,m3,m4⟩:=a5.lts;obtain⟨sl,hx,_⟩:=a5.box;have a3:=a5.set (j:=1) (v:=.string ⟨t.text.toArray⟩) (k':=k) (nm':=t.text) (b1':=b1) (b2':=b2) h2 h3 h4 (λ sl hh=>by simp[World.setCell,Array.getElem?_modify,hh]);obtain⟨_,x1,_,_,_,_,_,_,_,_,f1,_⟩:=Ae hx;have a4:Ae2 b ga gp gd gx ge d k b1 b2 pl acc w (.inl (t,l')) (.returned (.tuple #[])) (w1.setCell ⟨gx,1,none⟩ (.string ⟨t.text.toArray⟩)):=⟨rfl,a3,hP.other 1 _ (by omega) (by omega),(hf.mono (by omega)).fresh (AD _) 1 _⟩;clear hC hi a5 a3;go_wp2
  go_end0
  exact a4
 .rintro e w1 ⟨rfl,hf⟩;exact⟨rfl,rfl,hf.mono (by omega)⟩
def placeR(e:Px.P Px.Ex)(l:List Lx.Tok):Px.R Px.Ex:=Px.bind (Px.need [91] l) λ _ l1=>Px.bind (e l1) λ x l2=>Px.bind (Px.need [93] l2) λ _ l3=>.inl (x,l3)
theorem N6{gd gx k:Nat}{nm:Lx.B}{b1 b2:Value}{acc:List Px.Ex}{l:List Lx.Tok}{q:Px.P Px.Ex}(hd:d<=30)(aj:Px.Ok q)(aa:Ei (d+1) q)(h1:b<gp)(h2:gp<gd)(h3:gd<gx)(h4:gx<ge)(ag:ga<gp)(h:Ps b ga l w)(hi:PStBox b gp gd gx ge d k nm b1 b2 pl acc w)(ak:acc.length+l.length<=4096) :
  AA 165 #[pt gp 0,pt ge 0] w λ e w'=>Df b ga gx (PStBox b gp gd gx ge d k nm b1 b2 pl) acc w (placeR q l) e w':=by
 obtain⟨res,a0⟩:∃res,Aside (res=placeR q l):=⟨_,rfl⟩;rw[<-a0.out];obtain⟨l1,l2,l3,l4⟩:=hi.lts;have c0:=cell_of_one hi.ptr;have a3:∀u l1,Px.need [91] l=.inl (u,l1)->l1.length<=l.length:=λ u l1 hh=>by have:=((Px.need_res h.good).ok u l1 hh).less;omega
 go_enter func165,ntmps165;go_wp2_with fail;refine (pneed_any h 4 [91] (by decide) (by decide)).mono ?_;rcases hq:Px.need [91] l with⟨u,l1⟩ | ⟨a,er⟩
 rotate_left
 .rw[show Px.needK 4 [91] l=_ from hq];rintro e w1 ⟨rfl,a4⟩;refine⟨rfl,?_⟩;rw[a0.out,placeR,hq];exact⟨rfl,a4.mono (by omega)⟩
 rw[show Px.needK 4 [91] l=_ from hq];rintro e w1 ⟨v,rfl,rfl,ae,a4⟩;replace a0:Aside (res=Px.bind (q l1) λ x l2=>Px.bind (Px.need [93] l2) λ _ l3=>.inl (x,l3)):=by
  show _=_;rw[a0.out,placeR,hq];rfl
 have ai:=a3 u l1 hq;have a5:=hi.fo a4 h1 h2 h3 h4;obtain⟨m1,m2,m3,m4⟩:=a5.lts;have e1:=cell_of_one a5.fe;have a9:Fo b gx w w1:=a4.mono (by omega);have hC:=Fb (n:=gx) hd aa h1 h2 h3 h4 ag (AD _) acc l1 w1 ae a5 (by omega) (by omega);clear hq hi c0 a4 a3;go_wp2_with fail;refine hC.mono ?_;rcases hq:q l1 with⟨x,l2⟩ | ⟨a,er⟩
 rotate_left
 .rintro e w2 ⟨rfl,a7⟩;refine⟨rfl,?_⟩;rw[a0.out,hq];exact⟨rfl,a9.trans a7⟩
 rintro e w2 ⟨rfl,a8,af,a7⟩;replace a0:Aside (res=Px.bind (Px.need [93] l2) λ _ l3=>.inl (x,l3)):=by
  show _=_;rw[a0.out,hq];rfl
 have c2:=cell_of_one a8.ptr;have ab:=a9.trans a7;obtain⟨n1,n2,n3,n4⟩:=a8.lts;clear hq a5 e1 a7 hC a9;go_wp2_with fail;refine (pneed_any af 4 [93] (by decide) (by decide)).mono ?_;rcases hq:Px.need [93] l2 with⟨u,l3⟩ | ⟨a,er⟩
 .rw[show Px.needK 4 [93] l2=_ from hq];rintro e w3 ⟨v,rfl,rfl,ad,a6⟩;replace a0:Aside (res=.inl (x,l3)):=by
   show _=_;rw[a0.out,hq];rfl
  have ah:=a8.fo a6 h1 h2 h3 h4;clear hq;go_wp2
  go_end0
  rw[a0.out];exact⟨rfl,ah,ad,ab.trans (a6.mono (by omega))⟩
 .rw[show Px.needK 4 [93] l2=_ from hq];rintro e w3 ⟨rfl,a6⟩;refine⟨rfl,?_⟩;rw[a0.out,hq];exact⟨rfl,ab.trans (a6.mono (by omega))⟩
def valueR(e:Px.P Px.Ex)(l:List Lx.Tok):Px.R Px.Ex:=Px.bind (Px.need [61] l) λ _ l1=>Px.bind (e l1) λ x l2=>Px.bind (Px.need [59] l2) λ _ l3=>.inl (x,l3)
theorem Jc{gd gx k:Nat}{nm:Lx.B}{b1 b2:Value}{acc:List Px.Ex}{l:List Lx.Tok}{q:Px.P Px.Ex}(hd:d<=30)(aj:Px.Ok q)(aa:Ei (d+1) q)(h1:b<gp)(h2:gp<gd)(h3:gd<gx)(h4:gx<ge)(ag:ga<gp)(h:Ps b ga l w)(hi:PStBox b gp gd gx ge d k nm b1 b2 pl acc w)(ak:acc.length+l.length<=4096) :
  AA 166 #[pt gp 0,pt ge 0] w λ e w'=>Df b ga gx (PStBox b gp gd gx ge d k nm b1 b2 pl) acc w (valueR q l) e w':=by
 obtain⟨res,a0⟩:∃res,Aside (res=valueR q l):=⟨_,rfl⟩;rw[<-a0.out];obtain⟨l1,l2,l3,l4⟩:=hi.lts;have c0:=cell_of_one hi.ptr;have a3:∀u l1,Px.need [61] l=.inl (u,l1)->l1.length<=l.length:=λ u l1 hh=>by have:=((Px.need_res h.good).ok u l1 hh).less;omega
 go_enter func166,ntmps166;go_wp2_with fail;refine (pneed_any h 4 [61] (by decide) (by decide)).mono ?_;rcases hq:Px.need [61] l with⟨u,l1⟩ | ⟨a,er⟩
 rotate_left
 .rw[show Px.needK 4 [61] l=_ from hq];rintro e w1 ⟨rfl,a4⟩;refine⟨rfl,?_⟩;rw[a0.out,valueR,hq];exact⟨rfl,a4.mono (by omega)⟩
 rw[show Px.needK 4 [61] l=_ from hq];rintro e w1 ⟨v,rfl,rfl,ae,a4⟩;replace a0:Aside (res=Px.bind (q l1) λ x l2=>Px.bind (Px.need [59] l2) λ _ l3=>.inl (x,l3)):=by
  show _=_;rw[a0.out,valueR,hq];rfl
 have ai:=a3 u l1 hq;have a5:=hi.fo a4 h1 h2 h3 h4;obtain⟨m1,m2,m3,m4⟩:=a5.lts;have e1:=cell_of_one a5.fe;have a9:Fo b gx w w1:=a4.mono (by omega);have hC:=Fb (n:=gx) hd aa h1 h2 h3 h4 ag (AD _) acc l1 w1 ae a5 (by omega) (by omega);clear hq hi c0 a4 a3;go_wp2_with fail;refine hC.mono ?_;rcases hq:q l1 with⟨x,l2⟩ | ⟨a,er⟩
 rotate_left
 .rintro e w2 ⟨rfl,a7⟩;refine⟨rfl,?_⟩;rw[a0.out,hq];exact⟨rfl,a9.trans a7⟩
 rintro e w2 ⟨rfl,a8,af,a7⟩;replace a0:Aside (res=Px.bind (Px.need [59] l2) λ _ l3=>.inl (x,l3)):=by
  show _=_;rw[a0.out,hq];rfl
 have c2:=cell_of_one a8.ptr;have ab:=a9.trans a7;obtain⟨n1,n2,n3,n4⟩:=a8.lts;clear hq a5 e1 a7 hC a9;go_wp2_with fail;refine (pneed_any af 4 [59] (by decide) (by decide)).mono ?_;rcases hq:Px.need [59] l2 with⟨u,l3⟩ | ⟨a,er⟩
 .rw[show Px.needK 4 [59] l2=_ from hq];rintro e w3 ⟨v,rfl,rfl,ad,a6⟩;replace a0:Aside (res=.inl (x,l3)):=by
   show _=_;rw[a0.out,hq];rfl
  have ah:=a8.fo a6 h1 h2 h3 h4;clear hq;go_wp2
  go_end0
  rw[a0.out];exact⟨rfl,ah,ad,ab.trans (a6.mono (by omega))⟩
 .rw[show Px.needK 4 [59] l2=_ from hq];rintro e w3 ⟨rfl,a6⟩;refine⟨rfl,?_⟩;rw[a0.out,hq];exact⟨rfl,ab.trans (a6.mono (by omega))⟩
def Pt(d:Nat)(q:Px.P (List Px.St)):Prop:=∀(b ga:Nat) (l:List Lx.Tok) (w:World),Ps b ga l w->AA 111 #[pt b 0,iv d] w λ e w'=>Ct b ga w (q l) (λ x v w'=>Bf (From w) w' x v) e w'
theorem Jd{gd:Nat}{l:List Lx.Tok}{q:Px.P (List Px.St)}(hd:d<=30)(a3:Pt (d+1) q)(h:Ps b ga l w)(hp:w.heap[gp]?=some (C3 b))(a4:w.heap[gd]?=some (Fr d)) :
  AA 167 #[pt gp 0,pt gd 0] w λ e w'=>Ct b ga w (q l) (λ x v w'=>Bf (From w) w' x v) e w':=by
 have c0:=cell_of_one hp;have d0:=cell_of_one a4;have a5:(d:Int)<=30:=by omega
 have hC:AA 111 #[pt b 0,iv ((d:Int)+1)] w λ e w'=>Ct b ga w (q l) (λ x v w'=>Bf (From w) w' x v) e w':=a3 b ga l w h
 obtain⟨res,a0⟩:∃res,Aside (res=q l):=⟨_,rfl⟩;rw[<-a0.out] at hC ⊢;clear a0;go_enter func167,ntmps167;go_wp2_with fail;refine hC.mono ?_;rcases res with⟨x,l'⟩ | ⟨a,er⟩
 .rintro e w1 ⟨v,rfl,hv,hP,hf⟩;obtain⟨ao,an,ac,rfl⟩:∃ao an ac,v=.slice ao an ac:=by
   obtain⟨row,h1,_⟩:=hv;obtain⟨ao,ac,hh,_⟩:=h1.slice;exact⟨ao,_,ac,hh⟩
  go_wp2;go_ret;exact⟨_,rfl,hv,hP,hf⟩
 .rintro e w1 ⟨rfl,hf⟩;exact⟨rfl,rfl,hf⟩
theorem Cp{α β γ:Type}(r:Px.R α)(f:α->List Lx.Tok->Px.R β)(g:β->List Lx.Tok->Px.R γ):Px.bind (Px.bind r f) g=Px.bind r λ x l=>Px.bind (f x l) g:=by
 match r with
 | .inl (x,l)=>rfl
 | .inr e=>rfl
theorem Dq{α β:Type}(x:α)(l:List Lx.Tok)(f:α->List Lx.Tok->Px.R β):Px.bind (.inl (x,l)) f=f x l:=rfl
def Az7(e:Px.P Px.Ex)(pl:Nat)(l:List Lx.Tok):Px.R Px.St:=Px.bind (Px.name l) λ t l1=>Px.bind (valueR e l1) λ x l4=>.inl (.mk 1 t.text [x] [] [] pl,l4)
def Av5(e:Px.P Px.Ex)(pl:Nat)(l:List Lx.Tok):Px.R Px.St:=Px.bind (Px.name l) λ t l1=>if Px.sees 4 [91] l1 then Px.bind (placeR e l1) λ y l2=>Px.bind (valueR e l2) λ x l4=>.inl (.mk 2 t.text [y,x] [] [] pl,l4) else Px.bind (valueR e l1) λ x l4=>.inl (.mk 2 t.text [x] [] [] pl,l4)
def Ao4(e:Px.P Px.Ex)(pl:Nat)(l:List Lx.Tok):Px.R Px.St:=Px.bind (Px.name l) λ t l1=>Px.bind (placeR e l1) λ x l4=>Px.bind (Px.need [59] l4) λ _ l5=>.inl (.mk 3 t.text [x] [] [] pl,l5)
def ifR(e:Px.P Px.Ex)(blk:Px.P (List Px.St))(pl:Nat)(l:List Lx.Tok):Px.R Px.St:=Px.bind (e l) λ x l1=>Px.bind (blk l1) λ b l2=>if Px.sees 1 [101,108,115,101] l2 then Px.bind (blk l2.tail) λ c l3=>.inl (.mk 4 [] [x] b c pl,l3) else .inl (.mk 4 [] [x] b [] pl,l2)
def Ae3(e:Px.P Px.Ex)(blk:Px.P (List Px.St))(pl:Nat)(l:List Lx.Tok):Px.R Px.St:=Px.bind (Px.name l) λ t l1=>Px.bind (Px.needK 1 [116,111] l1) λ _ l2=>Px.bind (e l2) λ x l3=>Px.bind (blk l3) λ b l4=>.inl (.mk 5 t.text [x] b [] pl,l4)
def Uk(e:Px.P Px.Ex)(pl:Nat)(l:List Lx.Tok):Px.R Px.St:=Px.bind (Px.needK 1 [114,101,116] l) λ _ l1=>Px.bind (e l1) λ x l2=>Px.bind (Px.need [59] l2) λ _ l3=>.inl (.mk 6 [] [x] [] [] pl,l3)
theorem Ul(e:Px.P Px.Ex)(blk:Px.P (List Px.St))(l:List Lx.Tok):Px.stmt e blk l =
  if Px.sees 1 [108,101,116] l then Az7 e (Px.place l) l.tail else if Px.sees 1 [115,101,116] l then Av5 e (Px.place l) l.tail else if Px.sees 1 [100,101,108] l then Ao4 e (Px.place l) l.tail
  else if Px.sees 1 [105,102] l then ifR e blk (Px.place l) l.tail else if Px.sees 1 [102,111,114] l then Ae3 e blk (Px.place l) l.tail else Uk e (Px.place l) l:=by
 unfold Px.stmt;split
 .simp only[Az7,valueR,Cp,Dq]
 split
 .simp only[Av5,valueR,placeR,Cp,Dq];refine Px.bind_congr λ t l1 _=>?_
  unfold Px.opt;rcases hs:Px.sees 4 [91] l1 with _ | _
  .rfl
  .simp only[if_true];have hn:Px.need [91] l1=.inl ((),l1.tail):=by unfold Px.need Px.needK;rw[if_pos hs]
   rw[hn];simp only[Cp,Dq];rfl
 split
 .simp only[Ao4,placeR,Cp,Dq]
 split
 .simp only[ifR];refine Px.bind_congr λ x l1 _=>Px.bind_congr λ b l2 _=>?_
  unfold Px.other;rcases hs:Px.sees 1 [101,108,115,101] l2 with _ | _
  .rfl
  .rfl
 split
 .rfl
 .unfold Uk Px.needK;rcases hs:Px.sees 1 [114,101,116] l with _ | _
  .rfl
  .rfl
abbrev Im:Obj:=sO 0 [] sZ sZ sZ 0
abbrev sV(k:Nat)(nm:Lx.B)(es b1 b2:Value)(pl:Nat):Value:=.agg #[iv k,.string ⟨nm.toArray⟩,iv 0,.bool false,iv 0,es,b1,b2,iv pl]
abbrev sJ(k:Nat)(nm:Lx.B)(es b1 b2:Value)(pl:Nat):List Value:=[iv k,.string ⟨nm.toArray⟩,iv 0,.bool false,iv 0,es,b1,b2,iv pl]
abbrev sS(w:World)(g k:Nat)(nm:Lx.B)(es b1 b2:Value)(pl:Nat):World:=w9 w g (iv k) (.string ⟨nm.toArray⟩) (iv 0) (.bool false) (iv 0) es b1 b2 (iv pl)
def StV(B:AS)(w:World)(s:Px.St)(v:Value):Prop:=∃k nm a1 n1 c1 a2 n2 c2 a3 n3 c3 pl,v=sV k nm (.slice a1 n1 c1) (.slice a2 n2 c2) (.slice a3 n3 c3) pl/\IsSt B w s (sJ k nm (.slice a1 n1 c1) (.slice a2 n2 c2) (.slice a3 n3 c3) pl)
abbrev Ae4(b ga:Nat)(w:World)(r:Px.R Px.St)(e:Ending)(w':World):Prop:=Ct b ga w r (λ x v w'=>StV (From w) w' x v) e w'
theorem Bf.since'{B:AS}{l:List Px.St}(h:Bf B w l v)(s:Since B w w'):Bf B w' l v:=by
 obtain⟨row,h1,h2⟩:=h;exact⟨row,h1.since s,h2.since s⟩
theorem Bf.base'{B:AS}{l:List Px.St}(h:Bf B w l v)(hb:∀k,B k->B' k):Bf B' w l v:=by
 obtain⟨row,h1,h2⟩:=h;exact⟨row,h1.base hb,h2.base hb⟩
theorem Bf.nil'(B:AS)(w:World):Bf B w [] sZ:=⟨[],⟨rfl,AI ⟨rfl,rfl⟩⟩,by rw[Av]⟩
abbrev BC:=@Bf.nil'
theorem Bf.slc{B:AS}{l:List Px.St}(h:Bf B w l v):∃ao an ac,v=.slice ao an ac:=by
 obtain⟨row,h1,_⟩:=h;obtain⟨ao,ac,hh,_⟩:=h1.slice;exact⟨ao,_,ac,hh⟩
structure SS(b ga gs ge d pl:Nat)(k:Nat)(nm:Lx.B)(b1 b2:Value)(body other:List Px.St)(acc:List Px.Ex)(l:List Lx.Tok)(w0 w:World):Prop where
 ps:Ps b ga l w
 st:PStBox b w0 (w0.heap.size+1) gs ge d k nm b1 b2 pl acc w
 out:w.heap[w0.heap.size+1+1]?=Im
 fo:Fo b w0 w0 w
 i1:Bf (From (ge+1)) w body b1
 i2:Bf (From (ge+1)) w other b2
 lo:b<w0/\ga<w0/\w0.heap.size+2<gs/\gs<ge
theorem SS.call{gs k:Nat}{nm:Lx.B}{b1 b2:Value}{body other:List Px.St}{acc:List Px.Ex}{l l':List Lx.Tok}{w0:World}(h:SS b ga gs ge d pl k nm b1 b2 body other acc l w0 w)(f:Fo b w w w')(hp:Ps b ga l' w'):SS b ga gs ge d pl k nm b1 b2 body other acc l' w0 w':=by
 obtain⟨h1,h2,h3,h4⟩:=h.lo;exact⟨hp,h.st.fo f (by omega) (by omega) (by omega) h4,(f.block _ (AB h.out).1 (by omega)).trans h.out,h.fo.call f h.fo.size,h.i1.since' (f.since (by omega)),h.i2.since' (f.since (by omega)),h.lo⟩
theorem SS.below{gs k:Nat}{nm:Lx.B}{b1 b2:Value}{body other:List Px.St}{acc:List Px.Ex}{l:List Lx.Tok}{w0:World}(h:SS b ga gs ge d pl k nm b1 b2 body other acc l w0 w)(f:Below w w w'):SS b ga gs ge d pl k nm b1 b2 body other acc l w0 w':=h.call (AU f) (h.ps.below f)
theorem SS.part{gs k:Nat}{nm nm':Lx.B}{acc acc':List Px.Ex}{l l':List Lx.Tok}{w0:World}(h:SS b ga gs ge d pl k nm sZ sZ [] [] acc l w0 w)(hs:PStBox b w0 (w0.heap.size+1) gs ge d k nm' sZ sZ pl acc' w')(hp:Ps b ga l' w')(f:Fo b gs w w'):SS b ga gs ge d pl k nm' sZ sZ [] [] acc' l' w0 w':=by
 obtain⟨h1,h2,h3,h4⟩:=h.lo;exact⟨hp,hs,(f.block _ (by omega) (by omega)).trans h.out,h.fo.trans (f.mono (by omega)),BC _ _,BC _ _,h.lo⟩
theorem SS.set{gs k k':Nat}{nm:Lx.B}{b1 b2 b1' b2':Value}{body other body' other':List Px.St}{acc:List Px.Ex}{l:List Lx.Tok}{w0:World}(h:SS b ga gs ge d pl k nm b1 b2 body other acc l w0 w)
  (hset:∀sl,w.heap[gs]?=some (sO k nm sl b1 b2 pl)->(w.setCell ⟨gs,j,none⟩ v).heap[gs]?=some (sO k' nm sl b1' b2' pl)) (h1:Bf (From (ge+1)) w body' b1') (h2:Bf (From (ge+1)) w other' b2'):SS b ga gs ge d pl k' nm b1' b2' body' other' acc l w0 (w.setCell ⟨gs,j,none⟩ v):=by
 obtain⟨l1,l2,l3,l4⟩:=h.lo;have a0:Since (From (ge+1)) w (w.setCell ⟨gs,j,none⟩ v):=⟨by simp[World.setCell],λ i hi _=>AG _ _ _ _ (by have:ge+1<=i:=hi;show i≠gs;omega)⟩;exact⟨h.ps.other j v (by omega) (by omega),h.st.set (by omega) (by omega) l4 hset,(AG _ _ _ _ (by show w0.heap.size+1+1≠gs;omega)).trans h.out,h.fo.fresh (by omega) j v,h1.since' a0,h2.since' a0,h.lo⟩
theorem SS.lts{gs k:Nat}{nm:Lx.B}{b1 b2:Value}{body other:List Px.St}{acc:List Px.Ex}{l:List Lx.Tok}{w0:World}(h:SS b ga gs ge d pl k nm b1 b2 body other acc l w0 w):w0<w.heap.size/\w0.heap.size+1<w.heap.size/\ge<w/\gs<w/\w0.heap.size+1+1<w.heap.size:=by
 obtain⟨a1,a2,a3,a4⟩:=h.st.lts;exact⟨a1,a2,a3,a4,(AB h.out).1⟩
theorem Gb{gs k:Nat}{nm:Lx.B}{a2 a3:Option Addr}{n2 c2 n3 c3:Nat}{body other:List Px.St}{acc:List Px.Ex}{l:List Lx.Tok}{w0:World}{a1:Option Addr}{n1 c1:Nat}(h:SS b ga gs ge d pl k nm (.slice a2 n2 c2) (.slice a3 n3 c3) body other acc l w0 w)(hx:w.heap[gs]?=some (sO k nm (.slice a1 n1 c1) (.slice a2 n2 c2) (.slice a3 n3 c3) pl))(hg:F0 (ge+1) w (.slice a1 n1 c1) acc) :
  Ae4 b ga w0 (.inl (.mk k nm acc body other pl,l)) (.returned (sV k nm (.slice a1 n1 c1) (.slice a2 n2 c2) (.slice a3 n3 c3) pl)) (sS w (w0.heap.size+1+1) k nm (.slice a1 n1 c1) (.slice a2 n2 c2) (.slice a3 n3 c3) pl):=by
 obtain⟨l1,l2,l3,l4⟩:=h.lo;obtain⟨r1,g1,g2⟩:=hg.rows (B:=From (ge+1)) (λ k hk _=>hk);obtain⟨r2,x1,x2⟩:=h.i1;obtain⟨r3,y1,y2⟩:=h.i2;have hs:IsSt (From (ge+1)) w (.mk k nm acc body other pl) (sJ k nm (.slice a1 n1 c1) (.slice a2 n2 c2) (.slice a3 n3 c3) pl):=by
  rw[IsSt];exact⟨_,_,_,r1,r2,r3,rfl,g1,g2,x1,x2,y1,y2⟩
 refine⟨_,rfl,⟨k,nm,a1,n1,c1,a2,n2,c2,a3,n3,c3,pl,rfl,?_⟩,h.ps.set9 (by omega) (by omega) _ _ _ _ _ _ _ _ _,h.fo.set9 (by omega) _ _ _ _ _ _ _ _ _⟩;exact (hs.since (Since.set9' (λ hh=>by have:ge+1<=w0.heap.size+1+1:=hh;omega) _ _ _ _ _ _ _ _ _)).base (Cb (by omega))
theorem Um{e:Px.P Px.Ex}(he:Px.Ok e){l:List Lx.Tok}(hg:Px.Good l):Px.Res 1 l (placeR e l):=(Px.need_res hg).bind1 λ _ l1 _ a1=>(he l1 a1.good).weak.bind0 λ _ l2 _ a2=>(Px.need_res a2.good).weak.bind0 λ _ l3 _ a3=>Px.Res.here a3.good
def Ae5(d:Nat)(q:Px.P Px.St):Prop:=∀(b ga:Nat) (l:List Lx.Tok) (w:World),Ps b ga l w->AA 138 #[pt b 0,iv d] w λ e w'=>Ae4 b ga w (q l) e w'
theorem pstmt_any{k:Nat}(cr:d+(k+1)=25)(bj:Ei (d+1) (Px.expr' k))(c6:1<=k->Pt (d+1) (Px.block k)):Ae5 d (Px.stmt (Px.expr' k) (Px.block k)):=by
 intro b ga l w h;have c9:=Px.expr'_ok k;obtain⟨res,a0⟩:∃res,Aside (res=Px.stmt (Px.expr' k) (Px.block k) l):=⟨_,rfl⟩;rw[<-a0.out];replace a0:Aside (res=_):=a0.out.trans (Ul _ _ l);obtain⟨t,r,rfl,_⟩:=h.head;have cy:∀(fn:Fn) (first cap:Array Value) (w:World),(Instr.makeFunc fn first cap).run prog w=.ok (.func fn first cap) w:=λ _ _ _ _=>rfl
 have cm:=h.there;have co:=h.gl;have ce:=Jz w b d Im;have h0:=h.below ce;have p0:=N3 w b d Im;have d0:=N4 w b d Im;have o0:=N5 w b d Im;have z0:=Lj w b d Im;have cg:Fo b w w (Fs w b d Im):=AU ce;have c0:=cell_of_one p0;have ct:=Rn;have cp:∀(a:Addr) (fn:Fn) (f c:Array Value) (m:Mode) (w:World),(store a (.func fn f c) m).run prog w=stored prog w a (.func fn f c) m:=λ a fn f c m w=>run_store prog w a _ m rfl
 go_enter func138,ntmps138
 go_upto_region 1 with fail
 generalize cf:((w.alloc (C3 b)).alloc (Fr d)).alloc Im=w0;replace cf:Fs w b d Im=w0:=cf;rw[cf] at ce h0 p0 d0 o0 z0 cg c0;clear cf;have cv:w<w0.heap.size:=by omega
 go_wp2_with fail
 refine (Cc h0).mono ?_;rintro e w1 ⟨rfl,c8⟩;have cq:=c8.size;have ca:Below w1 w1 ((w1.alloc (sO 0 [] sZ sZ sZ t.place)).alloc (R2 w1 w (w.heap.size+1))):=((AF _ _).alloc (AD _) _).alloc (by simp) _;have hS:SS b ga w1 (w1.heap.size+1) d t.place 0 [] sZ sZ [] [] [] (t :: r) w ((w1.alloc (sO 0 [] sZ sZ sZ t.place)).alloc (R2 w1 w (w.heap.size+1))):=by
  refine⟨(h0.below c8).below ca,⟨(ca.block _ (by omega)).trans ((c8.block _ (by omega)).trans p0),(ca.block _ (by omega)).trans ((c8.block _ (by omega)).trans d0),?_,sZ,?_,F0.nil _ _⟩,(ca.block _ (by omega)).trans ((c8.block _ (by omega)).trans o0),(cg.below c8 (by omega)).below ca (by omega),BC _ _,BC _ _,⟨cm,co,by omega,by omega⟩⟩
  .have:=heap_new (w1.alloc (sO 0 [] sZ sZ sZ t.place)) (R2 w1 w (w.heap.size+1));simpa using this
  .exact (Al (by simp)).trans (heap_new w1 _)
 clear ce h0 p0 d0 o0 cg c0 c8 ca
 go_upto_region 11 with fail
 generalize (w1.alloc (sO 0 [] sZ sZ sZ t.place)).alloc (R2 w1 w (w.heap.size+1))=w2s at hS ⊢;generalize w1.heap.size=gs at *;obtain⟨ge,cl⟩:∃ge,ge=gs+1:=⟨_,rfl⟩;rw[<-cl] at hS ⊢;clear cl cq z0;rcases hs:Px.sees 1 [108,101,116] (t :: r) with _ | _
 rotate_left
 .replace a0:Aside (res=Px.bind (Px.name r) λ u l1=>Px.bind (valueR (Px.expr' k) l1) λ x l4=>.inl (.mk 1 u.text [x] [] [] t.place,l4)):=by
   show _=_;rw[a0.out,if_pos hs];rfl
  obtain⟨q1,q2,q3,q4,q5⟩:=hS.lts;have c0:=cell_of_one hS.st.ptr;go_wp2_with fail;refine (Ay hS.ps [108,101,116] (by decide) hs).mono ?_;rintro e w3s ⟨rfl,a4,a3⟩;replace a4:Ps b ga r w3s:=a4;have c1:=hS.call a3 a4;clear hs hS a3 a4 c0 q1 q2 q3 q4 q5;obtain⟨av,a5,a7⟩:=c1.st.box;have x0:=(Ae a5).1;have f0:=(Ae a5).2.2.2.2.2.2.2.2.2.1;clear a7;obtain⟨q1,q2,q3,q4,q5⟩:=c1.lts;have bi:=c1.set (j:=0) (v:=iv 1) (k':=1) (b1':=sZ) (b2':=sZ) (body':=[]) (other':=[]) (λ sl hh=>by simp[World.setCell,Array.getElem?_modify,hh]) (BC _ _) (BC _ _)
  go_upto_region 13 with fail
  generalize w3s.setCell gs (iv 1)=w4s at bi ⊢;clear c1 a5 x0 f0 av q1 q2 q3 q4 q5;obtain⟨o1,o2,o3,o4⟩:=bi.lo;have aq:=bi.ps.good;go_wp2_with fail;refine (Il (by omega) (by omega) (by omega) o4 (by omega) bi.ps bi.st).mono ?_;rcases hq:Px.name r with⟨u,l1⟩ | ⟨a,er⟩
  rotate_left
  .rintro e wz ⟨rfl,a3⟩;refine⟨rfl,?_⟩;rw[a0.out,hq];exact⟨rfl,bi.fo.trans (a3.mono (by omega))⟩
  rintro e w5s ⟨rfl,a9,a4,a3⟩;have b6:=bi.part a9 a4 a3;have c7:l1.length+1<=r.length:=((Px.name_res aq).ok u l1 hq).less;replace a0:Aside (res=Px.bind (valueR (Px.expr' k) l1) λ x l4=>.inl (.mk 1 u.text [x] [] [] t.place,l4)):=by
   show _=_;rw[a0.out,hq];rfl
  clear hq bi a9 a4 a3 aq o1 o2 o3 o4;obtain⟨o1,o2,o3,o4⟩:=b6.lo;have aq:=b6.ps.good;have b5:=b6.ps.few;obtain⟨q1,q2,q3,q4,q5⟩:=b6.lts;have bq:=cell_of_one b6.st.fe;go_wp2_with fail;refine (Jc (by omega) c9 bj (by omega) (by omega) (by omega) o4 (by omega) b6.ps b6.st (by simpa using b5)).mono ?_;rcases hq:valueR (Px.expr' k) l1 with⟨x,l4⟩ | ⟨a,er⟩
  rotate_left
  .rintro e wz ⟨rfl,a3⟩;refine⟨rfl,?_⟩;rw[a0.out,hq];exact⟨rfl,b6.fo.trans (a3.mono (by omega))⟩
  rintro e w6s ⟨rfl,a9,a4,a3⟩;have bx:=b6.part a9 a4 a3;replace a0:Aside (res=(.inl (.mk 1 u.text [x] [] [] t.place,l4):Px.R Px.St)):=by
   show _=_;rw[a0.out,hq];rfl
  clear hq b6 a9 a4 a3 aq b5 bq o1 o2 o3 o4 q1 q2 q3 q4 q5;obtain⟨av,a5,a7⟩:=bx.st.box;obtain⟨az,cz,rfl⟩:=A5 a7.choose_spec.1;have aj:=Gb bx a5 a7;obtain⟨y0,y1,y2,y3,y4,y5,y6,y7,y8,_⟩:=Ae a5;obtain⟨e0,e1,e2,e3,e4,e5,e6,e7,e8,m0,m1,m2,m3,m4,m5,m6,m7,m8⟩:=Ae bx.out;obtain⟨q1,q2,q3,q4,q5⟩:=bx.lts;obtain⟨o1,o2,o3,o4⟩:=bx.lo;have bs:gs≠w.heap.size+1+1:=by omega
  have br:w.heap.size+1+1≠gs:=by omega
  clear bx a7;generalize w.heap.size+1+1=gr at *;go_wp2;rw[a0.out];exact bodyPost_ret (by simp[results,results138,go_sem,e0,e1,e2,e3,e4,e5,e6,e7,e8]) rfl aj
 replace a0:Aside (res=if Px.sees 1 [115,101,116] (t :: r) then Av5 (Px.expr' k) t.place r else if Px.sees 1 [100,101,108] (t :: r) then Ao4 (Px.expr' k) t.place r else if Px.sees 1 [105,102] (t :: r) then ifR (Px.expr' k) (Px.block k) t.place r else if Px.sees 1 [102,111,114] (t :: r) then Ae3 (Px.expr' k) (Px.block k) t.place r else Uk (Px.expr' k) t.place (t :: r)):=by
  exact a0.out.trans (if_neg (by rw[hs];simp))
 obtain⟨q1,q2,q3,q4,q5⟩:=hS.lts;have c0:=cell_of_one hS.st.ptr;go_wp2_with fail;refine (A7 hS.ps [108,101,116] hs).mono ?_;rintro e w7s ⟨rfl,a4,b9⟩;have b7:=hS.below b9;clear hs hS b9 a4 c0 q1 q2 q3 q4 q5;rcases hs:Px.sees 1 [115,101,116] (t :: r) with _ | _
 rotate_left
 .replace a0:Aside (res=Px.bind (Px.name r) λ u l1=>if Px.sees 4 [91] l1 then Px.bind (placeR (Px.expr' k) l1) λ y l2=>Px.bind (valueR (Px.expr' k) l2) λ x l4=>.inl (.mk 2 u.text [y,x] [] [] t.place,l4) else Px.bind (valueR (Px.expr' k) l1) λ x l4=>.inl (.mk 2 u.text [x] [] [] t.place,l4)):=by
   show _=_;rw[a0.out,if_pos hs];rfl
  obtain⟨q1,q2,q3,q4,q5⟩:=b7.lts;have c0:=cell_of_one b7.st.ptr;go_wp2_with fail;refine (Ay b7.ps [115,101,116] (by decide) hs).mono ?_;rintro e w8s ⟨rfl,a4,a3⟩;replace a4:Ps b ga r w8s:=a4;have c2:=b7.call a3 a4;clear hs b7 a3 a4 c0 q1 q2 q3 q4 q5;obtain⟨av,a5,a7⟩:=c2.st.box;have x0:=(Ae a5).1;have f0:=(Ae a5).2.2.2.2.2.2.2.2.2.1;clear a7;obtain⟨q1,q2,q3,q4,q5⟩:=c2.lts;have bo:=c2.set (j:=0) (v:=iv 2) (k':=2) (b1':=sZ) (b2':=sZ) (body':=[]) (other':=[]) (λ sl hh=>by simp[World.setCell,Array.getElem?_modify,hh]) (BC _ _) (BC _ _)
  go_upto_region 17 with fail
  generalize w8s.setCell gs (iv 2)=w9s at bo ⊢;clear c2 a5 x0 f0 av q1 q2 q3 q4 q5;obtain⟨o1,o2,o3,o4⟩:=bo.lo;have aq:=bo.ps.good;go_wp2_with fail;refine (Il (by omega) (by omega) (by omega) o4 (by omega) bo.ps bo.st).mono ?_;rcases hq:Px.name r with⟨u,l1⟩ | ⟨a,er⟩
  rotate_left
  .rintro e wz ⟨rfl,a3⟩;refine⟨rfl,?_⟩;rw[a0.out,hq];exact⟨rfl,bo.fo.trans (a3.mono (by omega))⟩
  rintro e w10s ⟨rfl,a9,a4,a3⟩;have bl:=bo.part a9 a4 a3;have c7:l1.length+1<=r.length:=((Px.name_res aq).ok u l1 hq).less;replace a0:Aside (res=if Px.sees 4 [91] l1 then Px.bind (placeR (Px.expr' k) l1) λ y l2=>Px.bind (valueR (Px.expr' k) l2) λ x l4=>.inl (.mk 2 u.text [y,x] [] [] t.place,l4) else Px.bind (valueR (Px.expr' k) l1) λ x l4=>.inl (.mk 2 u.text [x] [] [] t.place,l4)):=by
   show _=_;rw[a0.out,hq];rfl
  clear hq bo a9 a4 a3 aq o1 o2 o3 o4;obtain⟨q1,q2,q3,q4,q5⟩:=bl.lts;have c0:=cell_of_one bl.st.ptr;have hI:=Gw bl.ps [91];go_wp2_with fail;refine hI.mono ?_;rintro e w11s ⟨rfl,b9⟩;have a6:=bl.below b9;clear bl b9 c0 hI q1 q2 q3 q4 q5;rcases hs2:Px.sees 4 [91] l1 with _ | _
  .rw[show Px.sees (cls [91]) [91] l1=false from hs2];replace a0:Aside (res=Px.bind (valueR (Px.expr' k) l1) λ x l4=>.inl (.mk 2 u.text [x] [] [] t.place,l4)):=by
    show _=_;rw[a0.out,if_neg (by rw[hs2];simp)]
   clear hs2;obtain⟨o1,o2,o3,o4⟩:=a6.lo;have aq:=a6.ps.good;have b5:=a6.ps.few;obtain⟨q1,q2,q3,q4,q5⟩:=a6.lts;have bq:=cell_of_one a6.st.fe;go_wp2_with fail;refine (Jc (by omega) c9 bj (by omega) (by omega) (by omega) o4 (by omega) a6.ps a6.st (by simpa using b5)).mono ?_;rcases hq:valueR (Px.expr' k) l1 with⟨x,l4⟩ | ⟨a,er⟩
   rotate_left
   .rintro e wz ⟨rfl,a3⟩;refine⟨rfl,?_⟩;rw[a0.out,hq];exact⟨rfl,a6.fo.trans (a3.mono (by omega))⟩
   rintro e w12s ⟨rfl,a9,a4,a3⟩;have bg:=a6.part a9 a4 a3;replace a0:Aside (res=(.inl (.mk 2 u.text [x] [] [] t.place,l4):Px.R Px.St)):=by
    show _=_;rw[a0.out,hq];rfl
   clear hq a6 a9 a4 a3 aq b5 bq o1 o2 o3 o4 q1 q2 q3 q4 q5;obtain⟨av,a5,a7⟩:=bg.st.box;obtain⟨az,cz,rfl⟩:=A5 a7.choose_spec.1;have aj:=Gb bg a5 a7;obtain⟨y0,y1,y2,y3,y4,y5,y6,y7,y8,_⟩:=Ae a5;obtain⟨e0,e1,e2,e3,e4,e5,e6,e7,e8,m0,m1,m2,m3,m4,m5,m6,m7,m8⟩:=Ae bg.out;obtain⟨q1,q2,q3,q4,q5⟩:=bg.lts;obtain⟨o1,o2,o3,o4⟩:=bg.lo;have bs:gs≠w.heap.size+1+1:=by omega
   have br:w.heap.size+1+1≠gs:=by omega
   clear bg a7;generalize w.heap.size+1+1=gr at *;go_wp2;rw[a0.out];exact bodyPost_ret (by simp[results,results138,go_sem,e0,e1,e2,e3,e4,e5,e6,e7,e8]) rfl aj
  .rw[show Px.sees (cls [91]) [91] l1=true from hs2];replace a0:Aside (res=Px.bind (placeR (Px.expr' k) l1) λ y l2=>Px.bind (valueR (Px.expr' k) l2) λ x l4=>.inl (.mk 2 u.text [y,x] [] [] t.place,l4)):=by
    show _=_;rw[a0.out,if_pos hs2]
   clear hs2;obtain⟨o1,o2,o3,o4⟩:=a6.lo;have aq:=a6.ps.good;have b5:=a6.ps.few;obtain⟨q1,q2,q3,q4,q5⟩:=a6.lts;have bq:=cell_of_one a6.st.fe;go_wp2_with fail;refine (N6 (by omega) c9 bj (by omega) (by omega) (by omega) o4 (by omega) a6.ps a6.st (by simpa using b5)).mono ?_;rcases hq:placeR (Px.expr' k) l1 with⟨y,l2⟩ | ⟨a,er⟩
   rotate_left
   .rintro e wz ⟨rfl,a3⟩;refine⟨rfl,?_⟩;rw[a0.out,hq];exact⟨rfl,a6.fo.trans (a3.mono (by omega))⟩
   rintro e w13s ⟨rfl,a9,a4,a3⟩;have ad:=a6.part a9 a4 a3;replace a0:Aside (res=Px.bind (valueR (Px.expr' k) l2) λ x l4=>.inl (.mk 2 u.text [y,x] [] [] t.place,l4)):=by
    show _=_;rw[a0.out,hq];rfl
   have cu:l2.length<=l1.length:=by have:=((Um c9 aq).ok y l2 hq).less;omega
   have cw:r.length+1<=4096:=by simpa using h.few
   clear hq a6 a9 a4 a3 aq b5 bq o1 o2 o3 o4 q1 q2 q3 q4 q5;obtain⟨o1,o2,o3,o4⟩:=ad.lo;have aq:=ad.ps.good;have b5:=ad.ps.few;obtain⟨q1,q2,q3,q4,q5⟩:=ad.lts;have bq:=cell_of_one ad.st.fe;go_wp2_with fail;refine (Jc (by omega) c9 bj (by omega) (by omega) (by omega) o4 (by omega) ad.ps ad.st (by simp;omega)).mono ?_;rcases hq:valueR (Px.expr' k) l2 with⟨x,l4⟩ | ⟨a,er⟩
   rotate_left
   .rintro e wz ⟨rfl,a3⟩;refine⟨rfl,?_⟩;rw[a0.out,hq];exact⟨rfl,ad.fo.trans (a3.mono (by omega))⟩
   rintro e w14s ⟨rfl,a9,a4,a3⟩;have ba:=ad.part a9 a4 a3;replace a0:Aside (res=(.inl (.mk 2 u.text [y,x] [] [] t.place,l4):Px.R Px.St)):=by
    show _=_;rw[a0.out,hq];rfl
   clear hq ad a9 a4 a3 aq b5 bq o1 o2 o3 o4 q1 q2 q3 q4 q5;obtain⟨av,a5,a7⟩:=ba.st.box;obtain⟨az,cz,rfl⟩:=A5 a7.choose_spec.1;have aj:=Gb ba a5 a7;obtain⟨y0,y1,y2,y3,y4,y5,y6,y7,y8,_⟩:=Ae a5;obtain⟨e0,e1,e2,e3,e4,e5,e6,e7,e8,m0,m1,m2,m3,m4,m5,m6,m7,m8⟩:=Ae ba.out;obtain⟨q1,q2,q3,q4,q5⟩:=ba.lts;obtain⟨o1,o2,o3,o4⟩:=ba.lo;have bs:gs≠w.heap.size+1+1:=by omega
   have br:w.heap.size+1+1≠gs:=by omega
   clear ba a7;generalize w.heap.size+1+1=gr at *;go_wp2;rw[a0.out];exact bodyPost_ret (by simp[results,results138,go_sem,e0,e1,e2,e3,e4,e5,e6,e7,e8]) rfl aj
 replace a0:Aside (res=if Px.sees 1 [100,101,108] (t :: r) then Ao4 (Px.expr' k) t.place r else if Px.sees 1 [105,102] (t :: r) then ifR (Px.expr' k) (Px.block k) t.place r else if Px.sees 1 [102,111,114] (t :: r) then Ae3 (Px.expr' k) (Px.block k) t.place r else Uk (Px.expr' k) t.place (t :: r)):=by
  exact a0.out.trans (if_neg (by rw[hs];simp))
 obtain⟨q1,q2,q3,q4,q5⟩:=b7.lts;have c0:=cell_of_one b7.st.ptr;go_wp2_with fail;refine (A7 b7.ps [115,101,116] hs).mono ?_;rintro e w15s ⟨rfl,a4,b9⟩;have ai:=b7.below b9;clear hs b7 b9 a4 c0 q1 q2 q3 q4 q5;rcases hs:Px.sees 1 [100,101,108] (t :: r) with _ | _
 rotate_left
 .replace a0:Aside (res=Px.bind (Px.name r) λ u l1=>Px.bind (placeR (Px.expr' k) l1) λ x l4=>Px.bind (Px.need [59] l4) λ _ l5=>.inl (.mk 3 u.text [x] [] [] t.place,l5)):=by
   show _=_;rw[a0.out,if_pos hs];rfl
  obtain⟨q1,q2,q3,q4,q5⟩:=ai.lts;have c0:=cell_of_one ai.st.ptr;go_wp2_with fail;refine (Ay ai.ps [100,101,108] (by decide) hs).mono ?_;rintro e w16s ⟨rfl,a4,a3⟩;replace a4:Ps b ga r w16s:=a4;have bv:=ai.call a3 a4;clear hs ai a3 a4 c0 q1 q2 q3 q4 q5;obtain⟨av,a5,a7⟩:=bv.st.box;have x0:=(Ae a5).1;have f0:=(Ae a5).2.2.2.2.2.2.2.2.2.1;clear a7;obtain⟨q1,q2,q3,q4,q5⟩:=bv.lts;have au:=bv.set (j:=0) (v:=iv 3) (k':=3) (b1':=sZ) (b2':=sZ) (body':=[]) (other':=[]) (λ sl hh=>by simp[World.setCell,Array.getElem?_modify,hh]) (BC _ _) (BC _ _)
  go_upto_region 23 with fail
  generalize w16s.setCell gs (iv 3)=w17s at au ⊢;clear bv a5 x0 f0 av q1 q2 q3 q4 q5;obtain⟨o1,o2,o3,o4⟩:=au.lo;have aq:=au.ps.good;go_wp2_with fail;refine (Il (by omega) (by omega) (by omega) o4 (by omega) au.ps au.st).mono ?_;rcases hq:Px.name r with⟨u,l1⟩ | ⟨a,er⟩
  rotate_left
  .rintro e wz ⟨rfl,a3⟩;refine⟨rfl,?_⟩;rw[a0.out,hq];exact⟨rfl,au.fo.trans (a3.mono (by omega))⟩
  rintro e w18s ⟨rfl,a9,a4,a3⟩;have ag:=au.part a9 a4 a3;have c7:l1.length+1<=r.length:=((Px.name_res aq).ok u l1 hq).less;replace a0:Aside (res=Px.bind (placeR (Px.expr' k) l1) λ x l4=>Px.bind (Px.need [59] l4) λ _ l5=>.inl (.mk 3 u.text [x] [] [] t.place,l5)):=by
   show _=_;rw[a0.out,hq];rfl
  clear hq au a9 a4 a3 aq o1 o2 o3 o4;obtain⟨o1,o2,o3,o4⟩:=ag.lo;have aq:=ag.ps.good;have b5:=ag.ps.few;obtain⟨q1,q2,q3,q4,q5⟩:=ag.lts;have bq:=cell_of_one ag.st.fe;go_wp2_with fail;refine (N6 (by omega) c9 bj (by omega) (by omega) (by omega) o4 (by omega) ag.ps ag.st (by simpa using b5)).mono ?_;rcases hq:placeR (Px.expr' k) l1 with⟨x,l4⟩ | ⟨a,er⟩
  rotate_left
  .rintro e wz ⟨rfl,a3⟩;refine⟨rfl,?_⟩;rw[a0.out,hq];exact⟨rfl,ag.fo.trans (a3.mono (by omega))⟩
  rintro e w19s ⟨rfl,a9,a4,a3⟩;have aw:=ag.part a9 a4 a3;replace a0:Aside (res=Px.bind (Px.need [59] l4) λ _ l5=>.inl (.mk 3 u.text [x] [] [] t.place,l5)):=by
   show _=_;rw[a0.out,hq];rfl
  clear hq ag a9 a4 a3 aq b5 bq o1 o2 o3 o4 q1 q2 q3 q4 q5;obtain⟨q1,q2,q3,q4,q5⟩:=aw.lts;have c0:=cell_of_one aw.st.ptr;go_wp2_with fail;refine (pneed_any aw.ps 4 [59] (by decide) (by decide)).mono ?_;rcases hq:Px.needK 4 [59] l4 with⟨uz,l5⟩ | ⟨a,er⟩
  rotate_left
  .rintro e wz ⟨rfl,a3⟩;refine⟨rfl,?_⟩;rw[a0.out];simp only[Px.need,hq];exact⟨rfl,aw.fo.call a3 aw.fo.size⟩
  rintro e w20s ⟨v,rfl,rfl,a4,a3⟩;have b8:=aw.call a3 a4;replace a0:Aside (res=(.inl (.mk 3 u.text [x] [] [] t.place,l5):Px.R Px.St)):=by
   show _=_;rw[a0.out];simp only[Px.need,hq];rfl
  clear hq aw a3 a4 c0 q1 q2 q3 q4 q5;obtain⟨av,a5,a7⟩:=b8.st.box;obtain⟨az,cz,rfl⟩:=A5 a7.choose_spec.1;have aj:=Gb b8 a5 a7;obtain⟨y0,y1,y2,y3,y4,y5,y6,y7,y8,_⟩:=Ae a5;obtain⟨e0,e1,e2,e3,e4,e5,e6,e7,e8,m0,m1,m2,m3,m4,m5,m6,m7,m8⟩:=Ae b8.out;obtain⟨q1,q2,q3,q4,q5⟩:=b8.lts;obtain⟨o1,o2,o3,o4⟩:=b8.lo;have bs:gs≠w.heap.size+1+1:=by omega
  have br:w.heap.size+1+1≠gs:=by omega
  clear b8 a7;generalize w.heap.size+1+1=gr at *;go_wp2;rw[a0.out];exact bodyPost_ret (by simp[results,results138,go_sem,e0,e1,e2,e3,e4,e5,e6,e7,e8]) rfl aj
 replace a0:Aside (res=if Px.sees 1 [105,102] (t :: r) then ifR (Px.expr' k) (Px.block k) t.place r else if Px.sees 1 [102,111,114] (t :: r) then Ae3 (Px.expr' k) (Px.block k) t.place r else Uk (Px.expr' k) t.place (t :: r)):=by
  exact a0.out.trans (if_neg (by rw[hs];simp))
 obtain⟨q1,q2,q3,q4,q5⟩:=ai.lts;have c0:=cell_of_one ai.st.ptr;go_wp2_with fail;refine (A7 ai.ps [100,101,108] hs).mono ?_;rintro e w21s ⟨rfl,a4,b9⟩;have af:=ai.below b9;clear hs ai b9 a4 c0 q1 q2 q3 q4 q5;rcases hs:Px.sees 1 [105,102] (t :: r) with _ | _
 rotate_left
 .replace a0:Aside (res=Px.bind (Px.expr' k r) λ x l1=>Px.bind (Px.block k l1) λ b l2=>if Px.sees 1 [101,108,115,101] l2 then Px.bind (Px.block k l2.tail) λ c l3=>.inl (.mk 4 [] [x] b c t.place,l3) else .inl (.mk 4 [] [x] b [] t.place,l2)):=by
   show _=_;rw[a0.out,if_pos hs];rfl
  obtain⟨q1,q2,q3,q4,q5⟩:=af.lts;have c0:=cell_of_one af.st.ptr;go_wp2_with fail;refine (Ay af.ps [105,102] (by decide) hs).mono ?_;rintro e w22s ⟨rfl,a4,a3⟩;replace a4:Ps b ga r w22s:=a4;have bw:=af.call a3 a4;clear hs af a3 a4 c0 q1 q2 q3 q4 q5;obtain⟨av,a5,a7⟩:=bw.st.box;have x0:=(Ae a5).1;have f0:=(Ae a5).2.2.2.2.2.2.2.2.2.1;clear a7;obtain⟨q1,q2,q3,q4,q5⟩:=bw.lts;have ab:=bw.set (j:=0) (v:=iv 4) (k':=4) (b1':=sZ) (b2':=sZ) (body':=[]) (other':=[]) (λ sl hh=>by simp[World.setCell,Array.getElem?_modify,hh]) (BC _ _) (BC _ _)
  go_upto_region 28 with fail
  generalize w22s.setCell gs (iv 4)=w23s at ab ⊢;clear bw a5 x0 f0 av q1 q2 q3 q4 q5;obtain⟨o1,o2,o3,o4⟩:=ab.lo;have aq:=ab.ps.good;have b5:=ab.ps.few;obtain⟨q1,q2,q3,q4,q5⟩:=ab.lts;have bq:=cell_of_one ab.st.fe;go_wp2_with fail;refine (Fb (n:=gs) (by omega) bj (by omega) (by omega) (by omega) o4 (by omega) (AD _) [] r _ ab.ps ab.st (by omega) (by simpa using b5)).mono ?_;rcases hq:Px.expr' k r with⟨x,l1⟩ | ⟨a,er⟩
  rotate_left
  .rintro e wz ⟨rfl,a3⟩;refine⟨rfl,?_⟩;rw[a0.out,hq];exact⟨rfl,ab.fo.trans (a3.mono (by omega))⟩
  rintro e w24s ⟨rfl,a9,a4,a3⟩;have cd:1<=k:=by
   rcases Nat.eq_zero_or_pos k with h0 | h0
   .subst h0;rw[Px.expr'_zero] at hq;simp[Px.fail] at hq
   .exact h0
  have al:=ab.part (acc':=[x]) a9 a4 a3;replace a0:Aside (res=Px.bind (Px.block k l1) λ b l2=>if Px.sees 1 [101,108,115,101] l2 then Px.bind (Px.block k l2.tail) λ c l3=>.inl (.mk 4 [] [x] b c t.place,l3) else .inl (.mk 4 [] [x] b [] t.place,l2)):=by
   show _=_;rw[a0.out,hq];rfl
  clear hq ab a9 a4 a3 aq b5 bq o1 o2 o3 o4 q1 q2 q3 q4 q5;obtain⟨q1,q2,q3,q4,q5⟩:=al.lts;obtain⟨o1,o2,o3,o4⟩:=al.lo;go_wp2_with fail;refine (Jd (by omega) (c6 cd) al.ps al.st.ptr al.st.dep).mono ?_;rcases hq:Px.block k l1 with⟨bb,l2⟩ | ⟨a,er⟩
  rotate_left
  .rintro e wz ⟨rfl,a3⟩;refine⟨rfl,?_⟩;rw[a0.out,hq];exact⟨rfl,al.fo.call a3 al.fo.size⟩
  rintro e w25s ⟨v,rfl,bk,a4,a3⟩;obtain⟨c3,c5,c4,rfl⟩:=bk.slc;have bp:=al.call a3 a4;replace bk:=bk.base' (B':=From (ge+1)) (Cb (by omega));replace a0:Aside (res=if Px.sees 1 [101,108,115,101] l2 then Px.bind (Px.block k l2.tail) λ c l3=>.inl (.mk 4 [] [x] bb c t.place,l3) else .inl (.mk 4 [] [x] bb [] t.place,l2)):=by
   show _=_;rw[a0.out,hq];rfl
  clear hq al a3 a4 q1 q2 q3 q4 q5 o1 o2 o3 o4;obtain⟨av,a5,a7⟩:=bp.st.box;have x6:=(Ae a5).2.2.2.2.2.2.1;have x7:=(Ae a5).2.2.2.2.2.2.2.1;have f6:=(Ae a5).2.2.2.2.2.2.2.2.2.2.2.2.2.2.2.1;have f7:=(Ae a5).2.2.2.2.2.2.2.2.2.2.2.2.2.2.2.2.1;clear a7;obtain⟨q1,q2,q3,q4,q5⟩:=bp.lts;have aa:=bp.set (j:=6) (v:=.slice c3 c5 c4) (k':=4) (b1':=(.slice c3 c5 c4)) (b2':=sZ) (body':=bb) (other':=[]) (λ sl hh=>by simp[World.setCell,Array.getElem?_modify,hh]) bk bp.i2
  go_upto_region 30 with fail
  generalize w25s.setCell ⟨gs,6,none⟩ (.slice c3 c5 c4)=w26s at aa ⊢;clear bp a5 x6 x7 f6 f7 av bk q1 q2 q3 q4 q5;rcases hs:Px.sees 1 [101,108,115,101] l2 with _ | _
  .replace a0:Aside (res=.inl (.mk 4 [] [x] bb [] t.place,l2)):=by
    show _=_;rw[a0.out,if_neg (by rw[hs];simp)]
   obtain⟨q1,q2,q3,q4,q5⟩:=aa.lts;have c0:=cell_of_one aa.st.ptr;go_wp2_with fail;refine (A7 aa.ps [101,108,115,101] hs).mono ?_;rintro e w27s ⟨rfl,a4,b9⟩;have bf:=aa.below b9;clear hs aa b9 a4 c0 q1 q2 q3 q4 q5;obtain⟨av,a5,a7⟩:=bf.st.box;obtain⟨az,cz,rfl⟩:=A5 a7.choose_spec.1;have aj:=Gb bf a5 a7;obtain⟨y0,y1,y2,y3,y4,y5,y6,y7,y8,_⟩:=Ae a5;obtain⟨e0,e1,e2,e3,e4,e5,e6,e7,e8,m0,m1,m2,m3,m4,m5,m6,m7,m8⟩:=Ae bf.out;obtain⟨q1,q2,q3,q4,q5⟩:=bf.lts;obtain⟨o1,o2,o3,o4⟩:=bf.lo;have bs:gs≠w.heap.size+1+1:=by omega
   have br:w.heap.size+1+1≠gs:=by omega
   clear bf a7;generalize w.heap.size+1+1=gr at *;go_wp2;rw[a0.out];exact bodyPost_ret (by simp[results,results138,go_sem,e0,e1,e2,e3,e4,e5,e6,e7,e8]) rfl aj
  .replace a0:Aside (res=Px.bind (Px.block k l2.tail) λ c l3=>.inl (.mk 4 [] [x] bb c t.place,l3)):=by
    show _=_;rw[a0.out,if_pos hs]
   obtain⟨q1,q2,q3,q4,q5⟩:=aa.lts;have c0:=cell_of_one aa.st.ptr;go_wp2_with fail;refine (Ay aa.ps [101,108,115,101] (by decide) hs).mono ?_;rintro e w28s ⟨rfl,a4,a3⟩
   skip
   have am:=aa.call a3 a4;clear hs aa a3 a4 c0 q1 q2 q3 q4 q5;obtain⟨q1,q2,q3,q4,q5⟩:=am.lts;obtain⟨o1,o2,o3,o4⟩:=am.lo;go_wp2_with fail;refine (Jd (by omega) (c6 cd) am.ps am.st.ptr am.st.dep).mono ?_;rcases hq:Px.block k l2.tail with⟨cc,l3⟩ | ⟨a,er⟩
   rotate_left
   .rintro e wz ⟨rfl,a3⟩;refine⟨rfl,?_⟩;rw[a0.out,hq];exact⟨rfl,am.fo.call a3 am.fo.size⟩
   rintro e w29s ⟨v,rfl,bk,a4,a3⟩;obtain⟨ci,ch,cj,rfl⟩:=bk.slc;have bh:=am.call a3 a4;replace bk:=bk.base' (B':=From (ge+1)) (Cb (by omega));replace a0:Aside (res=(.inl (.mk 4 [] [x] bb cc t.place,l3):Px.R Px.St)):=by
    show _=_;rw[a0.out,hq];rfl
   clear hq am a3 a4 q1 q2 q3 q4 q5 o1 o2 o3 o4;obtain⟨av,a5,a7⟩:=bh.st.box;have x6:=(Ae a5).2.2.2.2.2.2.1;have x7:=(Ae a5).2.2.2.2.2.2.2.1;have f6:=(Ae a5).2.2.2.2.2.2.2.2.2.2.2.2.2.2.2.1;have f7:=(Ae a5).2.2.2.2.2.2.2.2.2.2.2.2.2.2.2.2.1;clear a7;obtain⟨q1,q2,q3,q4,q5⟩:=bh.lts;have ax:=bh.set (j:=7) (v:=.slice ci ch cj) (k':=4) (b1':=(.slice c3 c5 c4)) (b2':=(.slice ci ch cj)) (body':=bb) (other':=cc) (λ sl hh=>by simp[World.setCell,Array.getElem?_modify,hh]) bh.i1 bk
   go_upto_region 38 with fail
   generalize w29s.setCell ⟨gs,7,none⟩ (.slice ci ch cj)=w30s at ax ⊢;clear bh a5 x6 x7 f6 f7 av bk q1 q2 q3 q4 q5;obtain⟨av,a5,a7⟩:=ax.st.box;obtain⟨az,cz,rfl⟩:=A5 a7.choose_spec.1;have aj:=Gb ax a5 a7;obtain⟨y0,y1,y2,y3,y4,y5,y6,y7,y8,_⟩:=Ae a5;obtain⟨e0,e1,e2,e3,e4,e5,e6,e7,e8,m0,m1,m2,m3,m4,m5,m6,m7,m8⟩:=Ae ax.out;obtain⟨q1,q2,q3,q4,q5⟩:=ax.lts;obtain⟨o1,o2,o3,o4⟩:=ax.lo;have bs:gs≠w.heap.size+1+1:=by omega
   have br:w.heap.size+1+1≠gs:=by omega
   clear ax a7;generalize w.heap.size+1+1=gr at *;go_wp2;rw[a0.out];exact bodyPost_ret (by simp[results,results138,go_sem,e0,e1,e2,e3,e4,e5,e6,e7,e8]) rfl aj
 replace a0:Aside (res=if Px.sees 1 [102,111,114] (t :: r) then Ae3 (Px.expr' k) (Px.block k) t.place r else Uk (Px.expr' k) t.place (t :: r)):=by
  exact a0.out.trans (if_neg (by rw[hs];simp))
 obtain⟨q1,q2,q3,q4,q5⟩:=af.lts;have c0:=cell_of_one af.st.ptr;go_wp2_with fail;refine (A7 af.ps [105,102] hs).mono ?_;rintro e w31s ⟨rfl,a4,b9⟩;have ah:=af.below b9;clear hs af b9 a4 c0 q1 q2 q3 q4 q5;rcases hs:Px.sees 1 [102,111,114] (t :: r) with _ | _
 rotate_left
 .replace a0:Aside (res=Px.bind (Px.name r) λ u l1=>Px.bind (Px.needK 1 [116,111] l1) λ _ l2=>Px.bind (Px.expr' k l2) λ x l3=>Px.bind (Px.block k l3) λ b l4=>.inl (.mk 5 u.text [x] b [] t.place,l4)):=by
   show _=_;rw[a0.out,if_pos hs];rfl
  obtain⟨q1,q2,q3,q4,q5⟩:=ah.lts;have c0:=cell_of_one ah.st.ptr;go_wp2_with fail;refine (Ay ah.ps [102,111,114] (by decide) hs).mono ?_;rintro e w32s ⟨rfl,a4,a3⟩;replace a4:Ps b ga r w32s:=a4;have bt:=ah.call a3 a4;clear hs ah a3 a4 c0 q1 q2 q3 q4 q5;obtain⟨av,a5,a7⟩:=bt.st.box;have x0:=(Ae a5).1;have f0:=(Ae a5).2.2.2.2.2.2.2.2.2.1;clear a7;obtain⟨q1,q2,q3,q4,q5⟩:=bt.lts;have ar:=bt.set (j:=0) (v:=iv 5) (k':=5) (b1':=sZ) (b2':=sZ) (body':=[]) (other':=[]) (λ sl hh=>by simp[World.setCell,Array.getElem?_modify,hh]) (BC _ _) (BC _ _)
  go_upto_region 34 with fail
  generalize w32s.setCell gs (iv 5)=w33s at ar ⊢;clear bt a5 x0 f0 av q1 q2 q3 q4 q5;obtain⟨o1,o2,o3,o4⟩:=ar.lo;have aq:=ar.ps.good;go_wp2_with fail;refine (Il (by omega) (by omega) (by omega) o4 (by omega) ar.ps ar.st).mono ?_;rcases hq:Px.name r with⟨u,l1⟩ | ⟨a,er⟩
  rotate_left
  .rintro e wz ⟨rfl,a3⟩;refine⟨rfl,?_⟩;rw[a0.out,hq];exact⟨rfl,ar.fo.trans (a3.mono (by omega))⟩
  rintro e w34s ⟨rfl,a9,a4,a3⟩;have b4:=ar.part a9 a4 a3;have c7:l1.length+1<=r.length:=((Px.name_res aq).ok u l1 hq).less;replace a0:Aside (res=Px.bind (Px.needK 1 [116,111] l1) λ _ l2=>Px.bind (Px.expr' k l2) λ x l3=>Px.bind (Px.block k l3) λ b l4=>.inl (.mk 5 u.text [x] b [] t.place,l4)):=by
   show _=_;rw[a0.out,hq];rfl
  clear hq ar a9 a4 a3 aq o1 o2 o3 o4;obtain⟨q1,q2,q3,q4,q5⟩:=b4.lts;have c0:=cell_of_one b4.st.ptr;go_wp2_with fail;refine (pneed_any b4.ps 1 [116,111] (by decide) (by decide)).mono ?_;rcases hq:Px.needK 1 [116,111] l1 with⟨uz,l2⟩ | ⟨a,er⟩
  rotate_left
  .rintro e wz ⟨rfl,a3⟩;refine⟨rfl,?_⟩;rw[a0.out];simp only[Px.need,hq];exact⟨rfl,b4.fo.call a3 b4.fo.size⟩
  rintro e w35s ⟨v,rfl,rfl,a4,a3⟩;have ae:=b4.call a3 a4;replace a0:Aside (res=Px.bind (Px.expr' k l2) λ x l3=>Px.bind (Px.block k l3) λ b l4=>.inl (.mk 5 u.text [x] b [] t.place,l4)):=by
   show _=_;rw[a0.out];simp only[Px.need,hq];rfl
  clear hq b4 a3 a4 c0 q1 q2 q3 q4 q5;obtain⟨o1,o2,o3,o4⟩:=ae.lo;have aq:=ae.ps.good;have b5:=ae.ps.few;obtain⟨q1,q2,q3,q4,q5⟩:=ae.lts;have bq:=cell_of_one ae.st.fe;go_wp2_with fail;refine (Fb (n:=gs) (by omega) bj (by omega) (by omega) (by omega) o4 (by omega) (AD _) [] l2 _ ae.ps ae.st (by omega) (by simpa using b5)).mono ?_;rcases hq:Px.expr' k l2 with⟨x,l3⟩ | ⟨a,er⟩
  rotate_left
  .rintro e wz ⟨rfl,a3⟩;refine⟨rfl,?_⟩;rw[a0.out,hq];exact⟨rfl,ae.fo.trans (a3.mono (by omega))⟩
  rintro e w36s ⟨rfl,a9,a4,a3⟩;have cd:1<=k:=by
   rcases Nat.eq_zero_or_pos k with h0 | h0
   .subst h0;rw[Px.expr'_zero] at hq;simp[Px.fail] at hq
   .exact h0
  have ak:=ae.part (acc':=[x]) a9 a4 a3;replace a0:Aside (res=Px.bind (Px.block k l3) λ b l4=>.inl (.mk 5 u.text [x] b [] t.place,l4)):=by
   show _=_;rw[a0.out,hq];rfl
  clear hq ae a9 a4 a3 aq b5 bq o1 o2 o3 o4 q1 q2 q3 q4 q5;obtain⟨q1,q2,q3,q4,q5⟩:=ak.lts;obtain⟨o1,o2,o3,o4⟩:=ak.lo;go_wp2_with fail;refine (Jd (by omega) (c6 cd) ak.ps ak.st.ptr ak.st.dep).mono ?_;rcases hq:Px.block k l3 with⟨bb,l4⟩ | ⟨a,er⟩
  rotate_left
  .rintro e wz ⟨rfl,a3⟩;refine⟨rfl,?_⟩;rw[a0.out,hq];exact⟨rfl,ak.fo.call a3 ak.fo.size⟩
  rintro e w37s ⟨v,rfl,bk,a4,a3⟩;obtain⟨c3,c5,c4,rfl⟩:=bk.slc;have bn:=ak.call a3 a4;replace bk:=bk.base' (B':=From (ge+1)) (Cb (by omega));replace a0:Aside (res=(.inl (.mk 5 u.text [x] bb [] t.place,l4):Px.R Px.St)):=by
   show _=_;rw[a0.out,hq];rfl
  clear hq ak a3 a4 q1 q2 q3 q4 q5 o1 o2 o3 o4;obtain⟨av,a5,a7⟩:=bn.st.box;have x6:=(Ae a5).2.2.2.2.2.2.1;have x7:=(Ae a5).2.2.2.2.2.2.2.1;have f6:=(Ae a5).2.2.2.2.2.2.2.2.2.2.2.2.2.2.2.1;have f7:=(Ae a5).2.2.2.2.2.2.2.2.2.2.2.2.2.2.2.2.1;clear a7;obtain⟨q1,q2,q3,q4,q5⟩:=bn.lts;have ay:=bn.set (j:=6) (v:=.slice c3 c5 c4) (k':=5) (b1':=(.slice c3 c5 c4)) (b2':=sZ) (body':=bb) (other':=[]) (λ sl hh=>by simp[World.setCell,Array.getElem?_modify,hh]) bk bn.i2
  go_upto_region 38 with fail
  generalize w37s.setCell ⟨gs,6,none⟩ (.slice c3 c5 c4)=w38s at ay ⊢;clear bn a5 x6 x7 f6 f7 av bk q1 q2 q3 q4 q5;obtain⟨av,a5,a7⟩:=ay.st.box;obtain⟨az,cz,rfl⟩:=A5 a7.choose_spec.1;have aj:=Gb ay a5 a7;obtain⟨y0,y1,y2,y3,y4,y5,y6,y7,y8,_⟩:=Ae a5;obtain⟨e0,e1,e2,e3,e4,e5,e6,e7,e8,m0,m1,m2,m3,m4,m5,m6,m7,m8⟩:=Ae ay.out;obtain⟨q1,q2,q3,q4,q5⟩:=ay.lts;obtain⟨o1,o2,o3,o4⟩:=ay.lo;have bs:gs≠w.heap.size+1+1:=by omega
  have br:w.heap.size+1+1≠gs:=by omega
  clear ay a7;generalize w.heap.size+1+1=gr at *;go_wp2;rw[a0.out];exact bodyPost_ret (by simp[results,results138,go_sem,e0,e1,e2,e3,e4,e5,e6,e7,e8]) rfl aj
 replace a0:Aside (res=Uk (Px.expr' k) t.place (t :: r)):=by
  exact a0.out.trans (if_neg (by rw[hs];simp))
 obtain⟨q1,q2,q3,q4,q5⟩:=ah.lts;have c0:=cell_of_one ah.st.ptr;go_wp2_with fail;refine (A7 ah.ps [102,111,114] hs).mono ?_;rintro e w39s ⟨rfl,a4,b9⟩;have b3:=ah.below b9;clear hs ah b9 a4 c0 q1 q2 q3 q4 q5;replace a0:Aside (res=Px.bind (Px.needK 1 [114,101,116] (t :: r)) λ _ l1=>Px.bind (Px.expr' k l1) λ x l2=>Px.bind (Px.need [59] l2) λ _ l3=>.inl (.mk 6 [] [x] [] [] t.place,l3)):=by
  show _=_;rw[a0.out];rfl
 obtain⟨q1,q2,q3,q4,q5⟩:=b3.lts;have c0:=cell_of_one b3.st.ptr;go_wp2_with fail;refine (pneed_any b3.ps 1 [114,101,116] (by decide) (by decide)).mono ?_;rcases hq:Px.needK 1 [114,101,116] (t :: r) with⟨uz,l1⟩ | ⟨a,er⟩
 rotate_left
 .rintro e wz ⟨rfl,a3⟩;refine⟨rfl,?_⟩;rw[a0.out];simp only[Px.need,hq];exact⟨rfl,b3.fo.call a3 b3.fo.size⟩
 rintro e w40s ⟨v,rfl,rfl,a4,a3⟩;have bu:=b3.call a3 a4;replace a0:Aside (res=Px.bind (Px.expr' k l1) λ x l2=>Px.bind (Px.need [59] l2) λ _ l3=>.inl (.mk 6 [] [x] [] [] t.place,l3)):=by
  show _=_;rw[a0.out];simp only[Px.need,hq];rfl
 clear hq b3 a3 a4 c0 q1 q2 q3 q4 q5;obtain⟨av,a5,a7⟩:=bu.st.box;have x0:=(Ae a5).1;have f0:=(Ae a5).2.2.2.2.2.2.2.2.2.1;clear a7;obtain⟨q1,q2,q3,q4,q5⟩:=bu.lts;have a8:=bu.set (j:=0) (v:=iv 6) (k':=6) (b1':=sZ) (b2':=sZ) (body':=[]) (other':=[]) (λ sl hh=>by simp[World.setCell,Array.getElem?_modify,hh]) (BC _ _) (BC _ _)
 go_upto_region 9 with fail
 generalize w40s.setCell gs (iv 6)=w41s at a8 ⊢;clear bu a5 x0 f0 av q1 q2 q3 q4 q5;obtain⟨o1,o2,o3,o4⟩:=a8.lo;have aq:=a8.ps.good;have b5:=a8.ps.few;obtain⟨q1,q2,q3,q4,q5⟩:=a8.lts;have bq:=cell_of_one a8.st.fe;go_wp2_with fail;refine (Fb (n:=gs) (by omega) bj (by omega) (by omega) (by omega) o4 (by omega) (AD _) [] l1 _ a8.ps a8.st (by omega) (by simpa using b5)).mono ?_;rcases hq:Px.expr' k l1 with⟨x,l2⟩ | ⟨a,er⟩
 rotate_left
 .rintro e wz ⟨rfl,a3⟩;refine⟨rfl,?_⟩;rw[a0.out,hq];exact⟨rfl,a8.fo.trans (a3.mono (by omega))⟩
 rintro e w42s ⟨rfl,a9,a4,a3⟩;have cd:1<=k:=by
  rcases Nat.eq_zero_or_pos k with h0 | h0
  .subst h0;rw[Px.expr'_zero] at hq;simp[Px.fail] at hq
  .exact h0
 have b0:=a8.part (acc':=[x]) a9 a4 a3;replace a0:Aside (res=Px.bind (Px.need [59] l2) λ _ l3=>.inl (.mk 6 [] [x] [] [] t.place,l3)):=by
  show _=_;rw[a0.out,hq];rfl
 clear hq a8 a9 a4 a3 aq b5 bq o1 o2 o3 o4 q1 q2 q3 q4 q5;obtain⟨q1,q2,q3,q4,q5⟩:=b0.lts;have c0:=cell_of_one b0.st.ptr;go_wp2_with fail;refine (pneed_any b0.ps 4 [59] (by decide) (by decide)).mono ?_;rcases hq:Px.needK 4 [59] l2 with⟨uz,l3⟩ | ⟨a,er⟩
 rotate_left
 .rintro e wz ⟨rfl,a3⟩;refine⟨rfl,?_⟩;rw[a0.out];simp only[Px.need,hq];exact⟨rfl,b0.fo.call a3 b0.fo.size⟩
 rintro e w43s ⟨v,rfl,rfl,a4,a3⟩;have bc:=b0.call a3 a4;replace a0:Aside (res=(.inl (.mk 6 [] [x] [] [] t.place,l3):Px.R Px.St)):=by
  show _=_;rw[a0.out];simp only[Px.need,hq];rfl
 clear hq b0 a3 a4 c0 q1 q2 q3 q4 q5;obtain⟨av,a5,a7⟩:=bc.st.box;obtain⟨az,cz,rfl⟩:=A5 a7.choose_spec.1;have aj:=Gb bc a5 a7;obtain⟨y0,y1,y2,y3,y4,y5,y6,y7,y8,_⟩:=Ae a5;obtain⟨e0,e1,e2,e3,e4,e5,e6,e7,e8,m0,m1,m2,m3,m4,m5,m6,m7,m8⟩:=Ae bc.out;obtain⟨q1,q2,q3,q4,q5⟩:=bc.lts;obtain⟨o1,o2,o3,o4⟩:=bc.lo;have bs:gs≠w.heap.size+1+1:=by omega
 have br:w.heap.size+1+1≠gs:=by omega
 clear bc a7;generalize w.heap.size+1+1=gr at *;go_wp2;rw[a0.out];exact bodyPost_ret (by simp[results,results138,go_sem,e0,e1,e2,e3,e4,e5,e6,e7,e8]) rfl aj
theorem Ae6:(prog.info? 46).map (λ i=>(i.zero,i.size,i.bytes))=some (some (sV 0 [] sZ sZ sZ 0),9,128):=by kernel_rfl
mutual
theorem IsSt.plow{B B':AS}{w:World}(hb:∀k,B k->k<w.heap.size->B' k):∀{e:Px.St} {cs:AR},IsSt B w e cs->IsSt B' w e cs
 | .mk k n es b c p,cs,h=>by
  rw[IsSt] at h ⊢;obtain⟨s1,s2,s3,r1,r2,r3,hc,a1,a2,a3,a4,a5,a6⟩:=h;exact⟨s1,s2,s3,r1,r2,r3,hc,plow hb a1,a2.plow hb,plow hb a3,Av.plow hb a4,plow hb a5,Av.plow hb a6⟩
theorem Av.plow{B B':AS}{w:World}(hb:∀k,B k->k<w.heap.size->B' k):∀{l:List Px.St} {cs:AR},Av B w l cs->Av B' w l cs
 | [],cs,h=>by rw[Av] at h ⊢;exact h
 | e :: r,cs,h=>by
  rw[Av] at h ⊢;obtain⟨c1,c2,hc,h1,h2⟩:=h;exact⟨c1,c2,hc,IsSt.plow hb h1,Av.plow hb h2⟩
end
def Hf(m:Nat)(w:World)(sl:Value)(acc:List Px.St):Prop:=∃row,w.ownsRow m 46 9 sl acc.length row/\Av (λ k=>m<=k/\sl.ownBlock≠some k) w acc row
theorem Hf.nil(m:Nat)(w:World):Hf m w sZ []:=⟨[],⟨rfl,AI ⟨rfl,rfl⟩⟩,by rw[Av]⟩
theorem Hf.fo{acc:List Px.St}(h:Hf m w sl acc)(f:Fo b w w w')(hb:b<m):Hf m w' sl acc:=by
 obtain⟨row,h1,h2⟩:=h;exact⟨row,Bl h1 f hb,h2.since (f.sinceB (λ hh=>by omega))⟩
theorem Hf.sts{acc:List Px.St}{B:AS}(h:Hf m w sl acc)(hB:∀k,m<=k->k<w.heap.size->B k):Bf B w acc sl:=by
 obtain⟨row,h1,h2⟩:=h;exact⟨row,Dp h1 hB,h2.plow (λ k hk hl=>hB k hk.1 hl)⟩
theorem Un{w4 w5:World}{a3:Nat}{acc:List Px.St}{row:AR}{x:Px.St}(a6:w4.ownsRow m 46 9 sl acc.length row)(a5:Av (λ k=>m<=k/\sl.ownBlock≠some k) w4 acc row)(hx:IsSt (λ k=>m<=k/\sl.ownBlock≠some k) w4 x cs)
  (hG:Grew w4 w5 sl g) (hown5:w5.ownsRow m 46 9 (sL g 0 (acc.length+1) a3) (acc.length+1) (row ++ cs)):Hf m w5 (sL g 0 (acc.length+1) a3) (acc ++ [x]):=by
 have a7:∀k,m<=k/\sl.ownBlock≠some k->k<w4.heap.size->k≠g:=by
  intro k hk hl he;subst he;rcases hG.place with h | h
  .exact hk.2 h
  .omega
 have a4:∀k,(m<=k/\sl.ownBlock≠some k)->k<w4.heap.size->m<=k/\(sL g 0 (acc.length+1) a3).ownBlock≠some k/\(m<=k/\sl.ownBlock≠some k):=λ k h1 h2=>⟨h1.1,λ e=>a7 k h1 h2 (by simpa [Value.ownBlock] using e.symm),h1⟩
 have a0:Since (λ k=>m<=k/\(sL g 0 (acc.length+1) a3).ownBlock≠some k/\(m<=k/\sl.ownBlock≠some k)) w4 w5:=⟨hG.size,λ k h1 h2=>hG.block k h2 (λ e=>h1.2.2.2 e.symm)⟩;exact⟨row ++ cs,by simpa using hown5,((a5.plow a4).since a0 |>.base (λ k h=>⟨h.1,h.2.1⟩)).snoc ((hx.plow a4).since a0 |>.base (λ k h=>⟨h.1,h.2.1⟩))⟩
theorem Lm{q:Px.P Px.St}(hq:Px.Ok q):∀(f g:Nat) (acc:List Px.St) (l:List Lx.Tok),Px.Good l->l.length<f->l.length<g->Px.stmts q f acc l=Px.stmts q g acc l
 | 0,_,_,_,_,h,_=>by omega
 | _,0,_,_,_,_,h=>by omega
 | f+1,g+1,acc,l,hg,h1,h2=>by
  simp only[Px.stmts];split
  .rfl
  .refine Px.bind_congr λ s l1 e1=>?_
   have a1:=(hq l hg).ok s l1 e1;have:=a1.less;exact Lm hq f g _ l1 a1.good (by omega) (by omega)
theorem pblock_step{q:Px.P Px.St}(ak:Px.Ok q)(ax:Ae5 d q)(b ga:Nat)(l:List Lx.Tok)(w:World)(h:Ps b ga l w) :
  AA 111 #[pt b 0,iv d] w λ e w'=>Ct b ga w (Px.bind (Px.need [123] l) λ _ l1=>Px.stmts q (l1.length+1) [] l1) (λ x v w'=>Bf (From w) w' x v) e w':=by
 obtain⟨i0,b4,av,az,b0⟩:=info_parts Ae6;obtain⟨res,a0⟩:∃res,Aside (res=Px.bind (Px.need [123] l) λ _ l1=>Px.stmts q (l1.length+1) [] l1):=⟨_,rfl⟩;rw[<-a0.out];have af:=h.there;have ay:=h.gl;go_enter func111,ntmps111;go_wp2_with fail;refine (pneed_any h 4 [123] (by decide) (by decide)).mono ?_;rcases hq:Px.need [123] l with⟨u,l1⟩ | ⟨a,er⟩
 rotate_left
 .rw[show Px.needK 4 [123] l=_ from hq];rintro e w1 ⟨rfl,ag⟩;refine⟨rfl,?_⟩;rw[a0.out,hq];exact⟨rfl,ag⟩
 rw[show Px.needK 4 [123] l=_ from hq];rintro e w1 ⟨v,rfl,rfl,h1,ag⟩;replace a0:Aside (res=Px.stmts q (l1.length+1) [] l1):=by
  show _=_;rw[a0.out,hq];rfl
 have ab:=h1.few;clear hq;go_wp2_with fail
 go_loopg [5] (l1.length+1) (λ m v wr=>∃(acc:List Px.St) (l4:List Lx.Tok),m=l4.length+1/\Ps b ga l4 wr/\Hf w wr v acc/\Fo b w w wr/\acc.length+l4.length<=4096/\Aside (res=Px.stmts q (l4.length+1) acc l4))
 case atStart=>exact⟨[],l1,rfl,h1,Hf.nil _ _,ag,by simpa using ab,a0⟩
 case round=>
  clear a0 h1 ag ab;obtain⟨acc,l4,rfl,h4,ae,aa,b7,a0⟩:=hrel;have ar:=aa.size;rcases hs:Px.sees 4 [125] l4 with _ | _
  .replace a0:Aside (res=Px.bind (q l4) λ s l1=>Px.stmts q l4.length (acc ++ [s]) l1):=by
    show _=_;rw[a0.out];simp only[Px.stmts];rw[if_neg (by rw[hs];simp)]
   go_wp2_with fail
   refine (A7 h4 [125] hs).mono ?_;rintro e w5 ⟨rfl,h5,ai⟩;have ah:=ae.fo (Fo.of_below (b:=b) ai) af;have a9:=aa.below ai ar;have am:=a9.size;clear hs h4 ae aa ai;have hC:=ax b ga l4 w5 h5;go_wp2_with fail;refine hC.mono ?_;rcases hq:q l4 with⟨s,l6⟩ | ⟨a,er⟩
   rotate_left
   .rintro e w6 ⟨rfl,a8⟩;refine⟨rfl,?_⟩;rw[a0.out,hq];exact⟨rfl,a9.call a8 am⟩
   rintro e w6 ⟨v,rfl,⟨k,nm,a1,n1,c1,a2,n2,c2,a3,n3,c3,pl,rfl,hx⟩,h6,a8⟩;have au:=((ak l4 h5.good).ok s l6 hq).good;have b6:=((ak l4 h5.good).ok s l6 hq).less;replace a0:Aside (res=Px.stmts q (l6.length+1) (acc ++ [s]) l6):=by
    show _=_;rw[a0.out,hq];exact Lm ak _ _ _ _ au (by omega) (by omega)
   obtain⟨row,a4,a6⟩:=ah;have a5:=Bl a4 a8 af;have a7:=a6.since (a8.sinceB (λ hh=>by omega));have aq:=hx.plow (B':=λ k=>w.heap.size<=k/\u5.ownBlock≠some k) (λ k hk _=>⟨by have:w5.heap.size<=k:=hk;omega,λ e=>by have:=(a4.lt k e).2;have:w5.heap.size<=k:=hk;omega⟩);have al:=a9.call a8 am;have b5:=al.size;obtain⟨ao,cap,rfl⟩:=A5 a5;clear hC hq hx a4 a6 a8 h5 a9;go_wp2_with (at_builtin;refine wpList_append_lies _ rfl _ _ 34 rfl w 46 i0 _ 9 128 underlying34 b4 av az b0 rfl (by decide) _ acc.length row rfl (a5.alloc _) ⟨w6,0,none⟩ 1 1 (sJ k nm (.slice a1 n1 c1) (.slice a2 n2 c2) (.slice a3 n3 c3) pl) rfl rfl (World.news_of_block (heap_new w6 _)) ?c1 (by decide) ?c3 ?c4 ?c5 (w6.heap.size+1) ?c6 ?_)
   case c1=>simp[Value.oneCell']
   case c3=>unfold maxLen;omega
   case c4=>omega
   case c5=>simp;omega
   case c6=>simp
   intro g cap7 w7 hown7 hgrow hat hlt7;have hG:=N0 hgrow hat;have aw:=Un a5 a7 aq hG hown7;have ad:∀j,j<w.heap.size->w7.heap[j]?=w6.heap[j]?:=λ j hj=>hG.block j (by omega) (λ e=>by have:=(a5.lt j e.symm).1;omega)
   have h7:Ps b ga l6 w7:=h6.keep (ad b af) (ad ga ay) hG.size;have b3:Fo b w w w7:=al.trans ⟨hG.os,hG.tape,hG.output,hG.size,λ j hj _=>ad j hj⟩;clear a5 a7 aq hgrow hat hown7 hG ad;go_wp2;go_roundg (l6.length+1)
   case measure=>omega
   case rel=>exact⟨acc ++ [s],l6,rfl,h7,aw,b3,by simp;omega,a0⟩
  .replace a0:Aside (res=.inl (acc,l4.tail)):=by
    show _=_;rw[a0.out];simp only[Px.stmts];rw[if_pos hs]
   go_wp2_with fail
   refine (Ay h4 [125] (by decide) hs).mono ?_;rintro e w5 ⟨rfl,h5,aj⟩;have ah:=ae.fo aj af;have a9:=aa.call aj ar;obtain⟨row,a4,a6⟩:=id ah;obtain⟨ao,cap,rfl⟩:=A5 a4;clear hs h4 ae aa aj a4 a6;go_wp2;go_ret;rw[a0.out];exact⟨_,rfl,ah.sts (λ k hk _=>hk),h5,a9⟩
theorem Ln:∀(k d:Nat),d+(k+1)=25->Pt d (Px.block (k+1))
 | k,d,hd=>by
  intro b ga l w h;rw[Px.block_as h.good];refine pblock_step (Px.stmt'_ok k) (pstmt_any hd (pexpr_deep k (d+1) (by omega)) (λ hk=>?_)) b ga l w h
  match k,hk with
  | k+1,_=>exact Ln k (d+1) (by omega)
theorem Av6(args:Array Value)(w:World):(callFunc 110 args).run prog w=.ok (.enter 110 args) w:=enters_of func110 (by kernel_rfl) rfl args w
abbrev Wp:Obj:=Hb [] false sZ [] sZ 0
abbrev fV(nm:Lx.B)(on:Bool)(ps:Value)(y:Lx.B)(bs:Value)(pl:Nat):Value:=.agg #[.string ⟨nm.toArray⟩,.bool on,ps,.string ⟨y.toArray⟩,sZ,bs,iv pl]
abbrev fL(nm:Lx.B)(on:Bool)(ps:Value)(y:Lx.B)(bs:Value)(pl:Nat):List Value:=[.string ⟨nm.toArray⟩,.bool on,ps,.string ⟨y.toArray⟩,sZ,bs,iv pl]
abbrev fS(w:World)(g:Nat)(nm:Lx.B)(on:Bool)(ps:Value)(y:Lx.B)(bs:Value)(pl:Nat):World:=w7 w g (.string ⟨nm.toArray⟩) (.bool on) ps (.string ⟨y.toArray⟩) sZ bs (iv pl)
def FnV(B:AS)(w:World)(f:Px.Fn)(v:Value):Prop:=∃nm on a1 n1 c1 y a2 n2 c2 pl,v=fV nm on (.slice a1 n1 c1) y (.slice a2 n2 c2) pl/\Ey B w f (fL nm on (.slice a1 n1 c1) y (.slice a2 n2 c2) pl)
abbrev Yl(w:World)(b:Nat):World:=(w.alloc (C3 b)).alloc Wp
theorem Ae7(w:World)(b:Nat):(Yl w b).heap[w.heap.size]?=some (C3 b):=by
 rw[Al (by simp)];exact heap_new w _
theorem Ae8(w:World)(b:Nat):(Yl w b).heap[w.heap.size+1]?=Wp:=by
 have:=heap_new (w.alloc (C3 b)) Wp;simpa using this
theorem Ym(w:World)(b:Nat):(Yl w b).heap.size=w.heap.size+2:=by simp
theorem Uo(w:World)(b:Nat):Below w w (Yl w b):=((AF _ _).alloc (AD _) _).alloc (by simp) _
theorem R5(on:Bool)(l:List Lx.Tok):Px.function on l=Px.bind (Px.name l) λ t l1=>Px.bind (Px.bind (Px.need [40] l1) λ _ l2=>Px.items Px.slot (l2.length+1) 0 [] l2) λ ps l3=>Px.bind (Px.need [58] l3) λ _ l4=>Px.bind (Px.typ 4 l4) λ y l5=>Px.bind (Px.block 24 l5) λ b l6=>.inl (⟨t.text,on,ps,y,b,t.place⟩,l6):=by
 simp only[Px.function,Cp]
theorem Hg(on:Bool)(b ga:Nat)(l:List Lx.Tok)(w:World)(h:Ps b ga l w) :
  AA 72 #[pt b 0,.bool on] w λ e w'=>Ct b ga w (Px.function on l) (λ x v w'=>FnV (From w) w' x v) e w':=by
 have ar:=Ln 23 1 (by decide);obtain⟨res,a0⟩:∃res,Aside (res=Px.function on l):=⟨_,rfl⟩;rw[<-a0.out];replace a0:Aside (res=_):=a0.out.trans (R5 on l);have bt:∀(fn:Fn) (first cap:Array Value) (w:World),(Instr.makeFunc fn first cap).run prog w=.ok (.func fn first cap) w:=λ _ _ _ _=>rfl
 have bi:=h.there;have bq:=h.gl;have ax:=Uo w b;have h0:=h.below ax;have p0:=Ae7 w b;have o0:=Ae8 w b;have z0:=Ym w b;have ab:Fo b w w (Yl w b):=AU ax;have c0:=cell_of_one p0;go_enter func72,ntmps72
 go_upto_region 1 with fail
 generalize aq:(w.alloc (C3 b)).alloc Wp=w0;replace aq:Yl w b=w0:=aq;rw[aq] at ax h0 p0 o0 z0 ab c0;clear aq;have bs:w<w0.heap.size:=by omega
 go_wp2_with fail
 refine (Gx h0).mono ?_;rcases hq:Px.name l with⟨t,l1⟩ | ⟨a,er⟩
 rotate_left
 .rintro r w1 ⟨rfl,aa⟩;refine⟨rfl,?_⟩;rw[a0.out,hq];exact⟨rfl,ab.call aa ab.size⟩
 rintro r w1 ⟨v,rfl,rfl,h1,aa⟩;replace a0:Aside (res=Px.bind (Px.bind (Px.need [40] l1) λ _ l2=>Px.items Px.slot (l2.length+1) 0 [] l2) λ ps l3=>Px.bind (Px.need [58] l3) λ _ l4=>Px.bind (Px.typ 4 l4) λ y l5=>Px.bind (Px.block 24 l5) λ b l6=>.inl (⟨t.text,on,ps,y,b,t.place⟩,l6)):=by
  show _=_;rw[a0.out,hq];rfl
 have p1:=(aa.block _ (by omega) (by omega)).trans p0;have o1:=(aa.block _ (by omega) (by omega)).trans o0;have b3:=ab.call aa ab.size;have bc:=aa.size;have ai:Below w1 w1 ((w1.alloc (tokB t)).alloc (Hb t.text on sZ [] sZ t.place)):=((AF _ _).alloc (AD _) _).alloc (by simp) _;have h3:=h1.below ai;have p3:=(ai.block _ (by omega)).trans p1;have o3:=(ai.block _ (by omega)).trans o1;have av:=b3.below ai (by omega);have x3:((w1.alloc (tokB t)).alloc (Hb t.text on sZ [] sZ t.place)).heap[w1.heap.size+1]?=some (Hb t.text on sZ [] sZ t.place):=by
  have:=heap_new (w1.alloc (tokB t)) (Hb t.text on sZ [] sZ t.place);simpa using this
 have z3:((w1.alloc (tokB t)).alloc (Hb t.text on sZ [] sZ t.place)).heap.size=w1.heap.size+2:=by simp
 clear hq p0 o0 c0 ab h0 aa p1 o1 b3 h1
 go_upto_region 3 with fail
 generalize (w1.alloc (tokB t)).alloc (Hb t.text on sZ [] sZ t.place)=w3 at *;obtain⟨gf,b5⟩:∃gf,gf=w1.heap.size+1:=⟨_,rfl⟩;rw[<-b5] at x3 ⊢;have bl:gf<w3.heap.size:=by omega
 have bh:w.heap.size+2<gf:=by omega
 have c3:=cell_of_one p3;have bj:w.heap.size+3<w3.heap.size:=by omega
 clear ai b5 z3 bc;have hA:FnBox b w gf t.text on t.place [] w3:=⟨p3,_,x3,⟨rfl,AI ⟨rfl,rfl⟩⟩⟩;have hL:=Jy (n:=gf) (K:=110) (caps:=#[pt gf 0,pt w 0]) (Inv:=λ acc w'=>FnBox b w gf t.text on t.place acc w') h3 (by omega) Px.slot_ok Av6
  (λ acc la wa ha hia hna hla=>Ug (by omega) (by omega) (by omega) (AD _) acc la wa ha hia hna hla)
  (λ acc wa wb hia hf=>hia.fo hf (by omega) (by omega)) hA
 clear hA x3;go_wp2_with fail;refine hL.mono ?_;rcases hq:(Px.bind (Px.need [40] l1) λ _ l2=>Px.items Px.slot (l2.length+1) 0 [] l2) with⟨ps,l2⟩ | ⟨a,er⟩
 rotate_left
 .rintro r w4 ⟨rfl,ad⟩;refine⟨rfl,?_⟩;rw[a0.out,hq];exact⟨rfl,av.trans (ad.mono (by omega))⟩
 rintro r w4 ⟨rfl,ba,h4,ad⟩;replace a0:Aside (res=Px.bind (Px.need [58] l2) λ _ l4=>Px.bind (Px.typ 4 l4) λ y l5=>Px.bind (Px.block 24 l5) λ b l6=>.inl (⟨t.text,on,ps,y,b,t.place⟩,l6)):=by
  show _=_;rw[a0.out,hq];rfl
 have o4:=(ad.block _ (by omega) (by omega)).trans o3;have ah:Fo b w w w4:=av.trans (ad.mono (by omega));obtain⟨p4,sl,x4,a8⟩:=ba;obtain⟨ao,ac,rfl⟩:=A5 a8;have c4:=cell_of_one p4;have bu:=ad.size;clear hq hL ad o3 av p3 c3 h3;go_wp2_with fail;refine (pneed_any h4 4 [58] (by decide) (by decide)).mono ?_;rcases hq:Px.need [58] l2 with⟨u,l3⟩ | ⟨a,er⟩
 rotate_left
 .rw[show Px.needK 4 [58] l2=_ from hq];rintro r w5 ⟨rfl,a3⟩;refine⟨rfl,?_⟩;rw[a0.out,hq];exact⟨rfl,ah.call a3 ah.size⟩
 rw[show Px.needK 4 [58] l2=_ from hq];rintro r w5 ⟨v,rfl,rfl,h5,a3⟩;replace a0:Aside (res=Px.bind (Px.typ 4 l3) λ y l5=>Px.bind (Px.block 24 l5) λ b l6=>.inl (⟨t.text,on,ps,y,b,t.place⟩,l6)):=by
  show _=_;rw[a0.out,hq];rfl
 have o5:=(a3.block _ (by omega) (by omega)).trans o4;have p5:=(a3.block _ (by omega) (by omega)).trans p4;have x5:=(a3.block _ (by omega) (by omega)).trans x4;have al:=Bl a8 a3 (by omega);have ae:=ah.call a3 ah.size;have c5:=cell_of_one p5;have bp:=a3.size;clear hq a3 o4 p4 x4 a8 ah c4 h4;go_wp2_with fail;refine (show AA 108 #[pt b 0,iv 1] w5 _ from I8 4 1 b ga l3 w5 (by decide) h5).mono ?_;rcases hq:Px.typ 4 l3 with⟨y,l4⟩ | ⟨a,er⟩
 rotate_left
 .rintro r w6 ⟨rfl,a4⟩;refine⟨rfl,?_⟩;rw[a0.out,hq];exact⟨rfl,ae.call a4 ae.size⟩
 rintro r w6 ⟨v,rfl,rfl,h6,a4⟩;replace a0:Aside (res=Px.bind (Px.block 24 l4) λ b l6=>.inl (⟨t.text,on,ps,y,b,t.place⟩,l6)):=by
  show _=_;rw[a0.out,hq];rfl
 have o6:=(a4.block _ (by omega) (by omega)).trans o5;have p6:=(a4.block _ (by omega) (by omega)).trans p5;have x6:=(a4.block _ (by omega) (by omega)).trans x5;have am:=Bl al a4 (by omega);have b0:=ae.call a4 ae.size;have bo:=a4.size;clear hq a4 o5 p5 x5 al ae c5 h5;have x7:(w6.setCell ⟨gf,3,none⟩ (.string ⟨y.toArray⟩)).heap[gf]?=some (Hb t.text on (.slice ao ps.length ac) y sZ t.place):=by simp[World.setCell,Array.getElem?_modify,x6]
 have a7:∀j,j≠gf->(w6.setCell ⟨gf,3,none⟩ (.string ⟨y.toArray⟩)).heap[j]?=w6.heap[j]?:=λ j hj=>AG _ _ _ _ hj
 have h7:=h6.other (g:=gf) 3 (.string ⟨y.toArray⟩) (by omega) (by omega);have o7:=(a7 (w.heap.size+1) (by omega)).trans o6;have p7:=(a7 w (by omega)).trans p6;have af:=ownsRow_setCell_below am (a:=⟨gf,3,none⟩) (by show gf<gf+1;omega) (.string ⟨y.toArray⟩);have ag:=b0.fresh (g:=gf) (by omega) 3 (.string ⟨y.toArray⟩);have z7:(w6.setCell ⟨gf,3,none⟩ (.string ⟨y.toArray⟩)).heap.size=w6.heap.size:=by simp[World.setCell]
 have b8:=(Ba x6).2.2.2.1;have bb:=(Ba x6).2.2.2.2.2.2.2.2.2.2.1;have br:gf<w6:=by omega
 have c7:=cell_of_one p7
 go_upto_region 6 with fail
 generalize w6.setCell ⟨gf,3,none⟩ (.string ⟨y.toArray⟩)=w7s at *;clear a7 o6 p6 x6 am b0 h6 b8 bb;go_wp2_with fail;refine (show AA 111 #[pt b 0,iv 1] w7s _ from ar b ga l4 w7s h7).mono ?_;rcases hq:Px.block (23+1) l4 with⟨body,l5⟩ | ⟨a,er⟩
 rotate_left
 .rintro r w8s ⟨rfl,a5⟩;refine⟨rfl,?_⟩;rw[a0.out,show Px.block 24 l4=_ from hq];exact⟨rfl,ag.call a5 ag.size⟩
 rintro r w8s ⟨v,rfl,aw,h8,a5⟩;obtain⟨a2,n2,c2,rfl⟩:=aw.slc;replace a0:Aside (res=.inl (⟨t.text,on,ps,y,body,t.place⟩,l5)):=by
  show _=_;rw[a0.out,show Px.block 24 l4=_ from hq];rfl
 have o8:=(a5.block _ (by omega) (by omega)).trans o7;have x8:=(a5.block _ (by omega) (by omega)).trans x7;have ak:=Bl af a5 (by omega);have az:=ag.call a5 ag.size;have bk:=a5.size;have aj:=aw.base' (B':=From (gf+1)) (Cb (by omega));clear hq a5 o7 p7 x7 af ag h7 c7 aw;have x9:(w8s.setCell ⟨gf,5,none⟩ (.slice a2 n2 c2)).heap[gf]?=some (Hb t.text on (.slice ao ps.length ac) y (.slice a2 n2 c2) t.place):=by simp[World.setCell,Array.getElem?_modify,x8]
 have a9:∀j,j≠gf->(w8s.setCell ⟨gf,5,none⟩ (.slice a2 n2 c2)).heap[j]?=w8s.heap[j]?:=λ j hj=>AG _ _ _ _ hj
 have h9:=h8.other (g:=gf) 5 (.slice a2 n2 c2) (by omega) (by omega);have o9:=(a9 (w.heap.size+1) (by omega)).trans o8;have a6:=ownsRow_setCell_below ak (a:=⟨gf,5,none⟩) (by show gf<gf+1;omega) (.slice a2 n2 c2);have b4:=az.fresh (g:=gf) (by omega) 5 (.slice a2 n2 c2);have ay:=aj.since' (w':=w8s.setCell ⟨gf,5,none⟩ (.slice a2 n2 c2)) ⟨by simp[World.setCell],λ j hj _=>a9 j (by have:gf+1<=j:=hj;omega)⟩;have z9:(w8s.setCell ⟨gf,5,none⟩ (.slice a2 n2 c2)).heap.size=w8s.heap.size:=by simp[World.setCell]
 have b7:=(Ba x8).2.2.2.2.2.1;have b6:=(Ba x8).2.2.2.2.2.2.2.2.2.2.2.2.1;have bw:gf<w8s:=by omega
 go_upto_region 7 with fail
 generalize w8s.setCell ⟨gf,5,none⟩ (.slice a2 n2 c2)=w9s at *;clear a9 o8 x8 ak az h8 b7 b6 aj;have bv:gf<w9s:=by omega
 have bn:w.heap.size+1<w9s.heap.size:=by omega
 have bg:gf≠w.heap.size+1:=by omega
 have bf:w.heap.size+1≠gf:=by omega
 have b9:Ey (From (gf+1)) w9s ⟨t.text,on,ps,y,body,t.place⟩ (fL t.text on (.slice ao ps.length ac) y (.slice a2 n2 c2) t.place):=⟨_,_,rfl,Dp a6 (λ k hk _=>hk),ay⟩;obtain⟨y0,y1,y2,y3,y4,y5,y6,_⟩:=Ba x9;obtain⟨e0,e1,e2,e3,e4,e5,e6,m0,m1,m2,m3,m4,m5,m6⟩:=Ba o9;have au:Ct b ga w (.inl (⟨t.text,on,ps,y,body,t.place⟩,l5)) (λ x v w'=>FnV (From w) w' x v) (.returned (fV t.text on (.slice ao ps.length ac) y (.slice a2 n2 c2) t.place)) (fS w9s (w.heap.size+1) t.text on (.slice ao ps.length ac) y (.slice a2 n2 c2) t.place):=by
  refine⟨_,rfl,⟨t.text,on,ao,ps.length,ac,y,a2,n2,c2,t.place,rfl,?_⟩,h9.set7 (by omega) (by omega) _ _ _ _ _ _ _,b4.set7 (by omega) _ _ _ _ _ _ _⟩;have hs:Since (From (gf+1)) w9s (fS w9s (w.heap.size+1) t.text on (.slice ao ps.length ac) y (.slice a2 n2 c2) t.place):=Since.set7' (λ hh=>by have:gf+1<=w.heap.size+1:=hh;omega) _ _ _ _ _ _ _;exact⟨_,_,rfl,(SlRow.since (Dp a6 (λ k hk _=>hk)) hs).base (Cb (by omega)),(ay.since' hs).base' (Cb (by omega))⟩
 clear a6 b4 ay b9 h9;generalize w.heap.size+1=gr at *;go_wp2;rw[a0.out];exact bodyPost_ret (by simp[results,results72,go_sem,e0,e1,e2,e3,e4,e5,e6]) rfl au
theorem Av7:(prog.info? 36).map (λ i=>(i.zero,i.size,i.bytes))=some (some (fV [] false sZ [] sZ 0),7,120):=by kernel_rfl
theorem Bq.plow{B B':AS}{w:World}(hb:∀k,B k->k<w.heap.size->B' k):∀{l:List Px.Fn} {cs:AR},Bq B w l cs->Bq B' w l cs
 | [],cs,h=>h
 | e :: r,cs,h=>by
  obtain⟨c1,c2,hc,⟨ps,bs,h1,h2,row,h3,h4⟩,h5⟩:=h;exact⟨c1,c2,hc,⟨ps,bs,h1,Go.Proofs.YtpckmjfabiallaaGreatDoor.plow hb h2,row,Go.Proofs.YtpckmjfabiallaaGreatDoor.plow hb h3,h4.plow hb⟩,Bq.plow hb h5⟩
theorem Ey.plow{B:AS}(hb:∀k,B k->k<w.heap.size->B' k){f:Px.Fn}(h:Ey B w f cs):Ey B' w f cs:=by
 obtain⟨ps,bs,h1,h2,row,h3,h4⟩:=h;exact⟨ps,bs,h1,Go.Proofs.YtpckmjfabiallaaGreatDoor.plow hb h2,row,Go.Proofs.YtpckmjfabiallaaGreatDoor.plow hb h3,h4.plow hb⟩
theorem Ey.since{B:AS}(s:Since B w w'){f:Px.Fn}(h:Ey B w f cs):Ey B w' f cs:=by
 obtain⟨ps,bs,h1,h2,row,h3,h4⟩:=h;exact⟨ps,bs,h1,h2.since s,row,h3.since s,h4.since s⟩
theorem Ey.base{B:AS}(hb:∀k,B k->B' k){f:Px.Fn}(h:Ey B w f cs):Ey B' w f cs:=h.plow (λ k hk _=>hb k hk)
theorem Gy{n:Nat}{k:Nat}(h:w.ownsRow m T sz v n xs)(hk:v.ownBlock=k):∃cur,w.heap[k]?=some (.cells cur T (0,0)):=by
 rcases h.2 with⟨hv,_⟩ | ⟨g,cap,cur,hv,_,hh,_⟩
 .rw[hv] at hk;simp[Value.ownBlock] at hk
 .rw[hv] at hk;simp[Value.ownBlock] at hk;subst hk;exact⟨cur,hh⟩
abbrev prO(v:Nat)(ss fs:Value):Obj:=.cells #[iv v,ss,fs] 26 (0,0)
structure PPrBox(gq:Nat)(p:Px.Pr)(w:World):Prop where
 box:∃ss fs rf,w.heap[gq]?=prO p.version ss fs/\w.ownsRow (gq+1) 40 3 ss p.states.length (p.states.flatMap Bh)/\w.ownsRow (gq+1) 36 7 fs p.fns.length rf/\Bq (λ k=>gq+1<=k/\fs.ownBlock≠some k/\ss.ownBlock≠some k) w p.fns rf
theorem PPrBox.fo{gq:Nat}{p:Px.Pr}(h:PPrBox gq p w)(f:Fo b w w w')(hb:b<gq):PPrBox gq p w':=by
 obtain⟨ss,fs,rf,h1,h2,h3,h4⟩:=h.box;exact⟨ss,fs,rf,(f.block gq (AB h1).1 (by omega)).trans h1,Bl h2 f (by omega),Bl h3 f (by omega),h4.since (f.sinceB (λ hh=>by omega))⟩
theorem R6{n:Nat}(h:w.ownsRow m T sz v n xs)(f:∀k,v.ownBlock=some k->w'.heap[k]?=w.heap[k]?):w'.ownsRow m T sz v n xs:=by
 obtain⟨h1,h2⟩:=h;refine⟨h1,?_⟩;rcases h2 with h2 | ⟨g,cap,cur,hv,hg,hh,r⟩
 .exact AI h2
 .exact AJ ⟨g,cap,cur,hv,hg,(f g (by rw[hv];rfl)).trans hh,r⟩
theorem Yn{n gq cap:Nat}{p:Px.Pr}{w4 w5:World}{rf:AR}{s:Px.Sl}{l':List Lx.Tok}(hb:b<gq)(ai:ga<gq)(hn:n<=gq)(aj:n<=w)(h1:w.heap[gq]?=prO p.version ss fs)(h2:w.ownsRow (gq+1) 40 3 ss p.states.length (p.states.flatMap Bh))(h3:w.ownsRow (gq+1) 36 7 fs p.fns.length rf)(h4:Bq (λ k=>gq+1<=k/\fs.ownBlock≠some k/\ss.ownBlock≠some k) w p.fns rf)
  (fo4:Fo b w w w4) (hP4:Ps b ga l' w4) (hG:Grew w4 w5 ss g) (hown5:w5.ownsRow (gq+1) 40 3 (sL g 0 (p.states.length+1) cap) (p.states.length+1) (p.states.flatMap Bh ++ Bh s)) :
  PPrBox gq { p with states:=p.states ++ [s] } (w5.setCell ⟨gq,1,none⟩ (sL g 0 (p.states.length+1) cap))/\Ps b ga l' (w5.setCell ⟨gq,1,none⟩ (sL g 0 (p.states.length+1) cap))/\Fo b n w (w5.setCell ⟨gq,1,none⟩ (sL g 0 (p.states.length+1) cap)):=by
 have hl:gq<w:=(AB h1).1;have aa:=(fo4.block gq hl (by omega)).trans h1;have a8:=Bl h2 fo4 (by omega);have a5:=Bl h3 fo4 (by omega);have ad:=h4.since (fo4.sinceB (λ hh=>by omega));have ag:=fo4.size;have af:=hG.size;have a4:∀k,k<=gq->w5.heap[k]?=w4.heap[k]?:=λ k hk=>hG.block k (by omega) (λ e=>by have:=(a8.lt k e.symm).1;omega)
 have ae:=(hown5.lt g rfl).1;have a0:∀k,k≠gq->(w5.setCell ⟨gq,1,none⟩ (sL g 0 (p.states.length+1) cap)).heap[k]?=w5.heap[k]?:=λ k hk=>AG _ _ _ _ hk
 have ah:(w5.setCell ⟨gq,1,none⟩ (sL g 0 (p.states.length+1) cap)).heap.size=w5.heap.size:=by simp[World.setCell]
 have a7:(w5.setCell ⟨gq,1,none⟩ (sL g 0 (p.states.length+1) cap)).heap[gq]?=prO p.version (sL g 0 (p.states.length+1) cap) fs:=by
  have:=(a4 gq (AD _)).trans aa;simp[World.setCell,Array.getElem?_modify,this]
 have a3:=ownsRow_setCell_below hown5 (a:=⟨gq,1,none⟩) (by show gq<gq+1;omega) (sL g 0 (p.states.length+1) cap);have hq:(w5.setCell ⟨gq,1,none⟩ (sL g 0 (p.states.length+1) cap)).os=w5.os/\(w5.setCell ⟨gq,1,none⟩ (sL g 0 (p.states.length+1) cap)).tape=w5.tape/\(w5.setCell ⟨gq,1,none⟩ (sL g 0 (p.states.length+1) cap)).output=w5.output:=⟨rfl,rfl,rfl⟩;generalize w5.setCell ⟨gq,1,none⟩ (sL g 0 (p.states.length+1) cap)=w6 at *;have ab:∀k,fs.ownBlock=some k->ss.ownBlock≠some k:=λ k hk hs=>by
  obtain⟨c1,e1⟩:=Gy a5 hk;obtain⟨c2,e2⟩:=Gy a8 hs;rw[e1] at e2;simp at e2
 have a9:∀k,gq+1<=k/\fs.ownBlock≠some k/\ss.ownBlock≠some k->k<w4.heap.size->k≠g:=by
  intro k hk hlt he;subst he;rcases hG.place with h | h
  .exact hk.2.2 h
  .omega
 refine⟨⟨_,fs,rf,a7,by simpa using a3,R6 a5 (λ k hk=>(a0 k (by have:=(a5.lt k hk).1;omega)).trans (hG.block k (a5.lt k hk).2 (λ e=>ab k hk e.symm))),?_⟩,?_,⟨hq.1.trans (hG.os.trans fo4.os),hq.2.1.trans (hG.tape.trans fo4.tape),hq.2.2.trans (hG.output.trans fo4.output),by omega,λ k hk hkb=>(a0 k (by omega)).trans ((a4 k (by omega)).trans (fo4.block k (by omega) hkb))⟩⟩
 .have a6:∀k,(gq+1<=k/\fs.ownBlock≠some k/\ss.ownBlock≠some k)->k<w4.heap.size->(gq+1<=k/\fs.ownBlock≠some k/\(sL g 0 (p.states.length+1) cap).ownBlock≠some k)/\ss.ownBlock≠some k:=λ k h1 h2=>⟨⟨h1.1,h1.2.1,λ e=>a9 k h1 h2 (by simpa [Value.ownBlock] using e.symm)⟩,h1.2.2⟩
  exact ((ad.plow a6).since ⟨by omega,λ k hk hl=>(a0 k (by have:=hk.1.1;omega)).trans (hG.block k hl (λ e=>hk.2 e.symm))⟩).base (λ k hk=>hk.1)
 .exact hP4.keep ((a0 b (by omega)).trans (a4 b (by omega))) ((a0 ga (by omega)).trans (a4 ga (by omega))) (by omega)
theorem Ae9{n gq cap:Nat}{p:Px.Pr}{w4 w5:World}{rf:AR}{s:Px.Fn}{l':List Lx.Tok}(hb:b<gq)(ak:ga<gq)(hn:n<=gq)(al:n<=w)(h1:w.heap[gq]?=prO p.version ss fs)(h2:w.ownsRow (gq+1) 40 3 ss p.states.length (p.states.flatMap Bh))(h3:w.ownsRow (gq+1) 36 7 fs p.fns.length rf)(h4:Bq (λ k=>gq+1<=k/\fs.ownBlock≠some k/\ss.ownBlock≠some k) w p.fns rf)
  (fo4:Fo b w w w4) (hP4:Ps b ga l' w4) (hx:Ey (From w) w4 s cs) (hG:Grew w4 w5 fs g) (hown5:w5.ownsRow (gq+1) 36 7 (sL g 0 (p.fns.length+1) cap) (p.fns.length+1) (rf ++ cs)) :
  PPrBox gq { p with fns:=p.fns ++ [s] } (w5.setCell ⟨gq,2,none⟩ (sL g 0 (p.fns.length+1) cap))/\Ps b ga l' (w5.setCell ⟨gq,2,none⟩ (sL g 0 (p.fns.length+1) cap))/\Fo b n w (w5.setCell ⟨gq,2,none⟩ (sL g 0 (p.fns.length+1) cap)):=by
 have hl:gq<w:=(AB h1).1;have ab:=(fo4.block gq hl (by omega)).trans h1;have a6:=Bl h2 fo4 (by omega);have a9:=Bl h3 fo4 (by omega);have af:=h4.since (fo4.sinceB (λ hh=>by omega));have ai:=fo4.size;have ah:=hG.size;have a5:∀k,k<=gq->w5.heap[k]?=w4.heap[k]?:=λ k hk=>hG.block k (by omega) (λ e=>by have:=(a9.lt k e.symm).1;omega)
 have ag:=(hown5.lt g rfl).1;have a3:∀k,k≠gq->(w5.setCell ⟨gq,2,none⟩ (sL g 0 (p.fns.length+1) cap)).heap[k]?=w5.heap[k]?:=λ k hk=>AG _ _ _ _ hk
 have aj:(w5.setCell ⟨gq,2,none⟩ (sL g 0 (p.fns.length+1) cap)).heap.size=w5.heap.size:=by simp[World.setCell]
 have a7:(w5.setCell ⟨gq,2,none⟩ (sL g 0 (p.fns.length+1) cap)).heap[gq]?=prO p.version ss (sL g 0 (p.fns.length+1) cap):=by
  have:=(a5 gq (AD _)).trans ab;simp[World.setCell,Array.getElem?_modify,this]
 have a4:=ownsRow_setCell_below hown5 (a:=⟨gq,2,none⟩) (by show gq<gq+1;omega) (sL g 0 (p.fns.length+1) cap);have hq:(w5.setCell ⟨gq,2,none⟩ (sL g 0 (p.fns.length+1) cap)).os=w5.os/\(w5.setCell ⟨gq,2,none⟩ (sL g 0 (p.fns.length+1) cap)).tape=w5.tape/\(w5.setCell ⟨gq,2,none⟩ (sL g 0 (p.fns.length+1) cap)).output=w5.output:=⟨rfl,rfl,rfl⟩;generalize w5.setCell ⟨gq,2,none⟩ (sL g 0 (p.fns.length+1) cap)=w6 at *;have ad:∀k,ss.ownBlock=some k->fs.ownBlock≠some k:=λ k hk hs=>by
  obtain⟨c1,e1⟩:=Gy a6 hk;obtain⟨c2,e2⟩:=Gy a9 hs;rw[e1] at e2;simp at e2
 have aa:∀k,gq+1<=k/\fs.ownBlock≠some k/\ss.ownBlock≠some k->k<w4.heap.size->k≠g:=by
  intro k hk hlt he;subst he;rcases hG.place with h | h
  .exact hk.2.1 h
  .omega
 have a0:∀k,(gq+1<=k/\fs.ownBlock≠some k/\ss.ownBlock≠some k)->k<w4.heap.size->(gq+1<=k/\(sL g 0 (p.fns.length+1) cap).ownBlock≠some k/\ss.ownBlock≠some k)/\fs.ownBlock≠some k:=λ k h1 h2=>⟨⟨h1.1,λ e=>aa k h1 h2 (by simpa [Value.ownBlock] using e.symm),h1.2.2⟩,h1.2.1⟩
 have a8:Since (λ k=>(gq+1<=k/\(sL g 0 (p.fns.length+1) cap).ownBlock≠some k/\ss.ownBlock≠some k)/\fs.ownBlock≠some k) w4 w6:=⟨by omega,λ k hk hl=>(a3 k (by have:=hk.1.1;omega)).trans (hG.block k hl (λ e=>hk.2 e.symm))⟩;have ae:Ey (λ k=>gq+1<=k/\fs.ownBlock≠some k/\ss.ownBlock≠some k) w4 s cs:=hx.plow (λ k hk _=>⟨by have:w.heap.size<=k:=hk;omega,λ e=>by have:=(h3.lt k e).2;have:w.heap.size<=k:=hk;omega,λ e=>by have:=(h2.lt k e).2;have:w.heap.size<=k:=hk;omega⟩);refine⟨⟨ss,_,rf ++ cs,a7,R6 a6 (λ k hk=>(a3 k (by have:=(a6.lt k hk).1;omega)).trans (hG.block k (a6.lt k hk).2 (λ e=>ad k hk e.symm))),by simpa using a4,?_⟩,?_,⟨hq.1.trans (hG.os.trans fo4.os),hq.2.1.trans (hG.tape.trans fo4.tape),hq.2.2.trans (hG.output.trans fo4.output),by omega,λ k hk hkb=>(a3 k (by omega)).trans ((a5 k (by omega)).trans (fo4.block k (by omega) hkb))⟩⟩
 .exact (((af.plow a0).since a8).base (λ k hk=>hk.1)).snoc (((ae.plow a0).since a8).base (λ k hk=>hk.1))
 .exact hP4.keep ((a3 b (by omega)).trans (a5 b (by omega))) ((a3 ga (by omega)).trans (a5 ga (by omega))) (by omega)
def Fz(p:Px.Pr)(l:List Lx.Tok):Px.R Px.Pr:=
 if Px.sees 1 [115,116,97,116,101] l then Px.bind (Px.slot l.tail) λ s l1=>Px.bind (Px.need [59] l1) λ _ l2=>.inl ({ p with states:=p.states ++ [s] },l2)
 else if Px.sees 1 [102,110] l then Px.bind (Px.function false l.tail) λ g l1=>.inl ({ p with fns:=p.fns ++ [g] },l1)
 else if Px.sees 1 [111,110] l then Px.bind (Px.function true l.tail) λ g l1=>.inl ({ p with fns:=p.fns ++ [g] },l1)
 else Px.fail 31 l
def Io(b ga n gq:Nat)(w:World)(r:Px.R Px.Pr)(e:Ending)(w':World):Prop:=
 match r with
 | .inl (p,l')=>e=.returned (.tuple #[])/\PPrBox gq p w'/\Ps b ga l' w'/\Fo b n w w'
 | .inr (a,er)=>e=.panicked (Bj a er)/\Fo b n w w'
theorem Yo{n gq:Nat}{p:Px.Pr}{l:List Lx.Tok}(hb:b<gq)(am:ga<gq)(hn:n<=gq)(h:Ps b ga l w)(hi:PPrBox gq p w)(al:p.states.length+p.fns.length+l.length<=4096) :
  AA 44 #[pt b 0,pt gq 0] w λ e w'=>Io b ga n gq w (Fz p l) e w':=by
 obtain⟨j0,b3,b8,b0,b6⟩:=info_parts Ry;obtain⟨i0,ax,az,au,aw⟩:=info_parts Av7;obtain⟨res,a0⟩:∃res,Aside (res=Fz p l):=⟨_,rfl⟩;rw[<-a0.out];go_enter func44,ntmps44;have b4:gq<w:=by
  obtain⟨ss,fs,rf,x1,_⟩:=hi.box;exact (AB x1).1
 rcases hs:Px.sees 1 [115,116,97,116,101] l with _ | _
 rotate_left
 .obtain⟨t,r,rfl,_,_⟩:=Px.sees_head hs;replace a0:Aside (res=Px.bind (Px.slot r) λ s l1=>Px.bind (Px.need [59] l1) λ _ l2=>.inl ({ p with states:=p.states ++ [s] },l2)):=by
   show _=_;rw[a0.out,Fz,if_pos hs];rfl
  go_wp2_with fail
  refine (Ay h [115,116,97,116,101] (by decide) hs).mono ?_;rintro e w1 ⟨rfl,h1,a8⟩;replace h1:Ps b ga r w1:=h1;have i1:=hi.fo a8 hb;have ay:=a8.size;have hF:Fo b n w w1:=a8.mono (by omega);have ah:p.states.length+p.fns.length+r.length+1<=4096:=by simp only[length_cons] at al;omega
  clear hs hi h;obtain⟨ss,fs,rf,x1,x2,x3,x4⟩:=i1.box;obtain⟨sa,sc,rfl⟩:=A5 x2;obtain⟨fa,fc,rfl⟩:=A5 x3;have a9:gq<w1:=(AB x1).1;obtain⟨_,y1,y2,_,g1,g2⟩:=Ad x1;have hC:∀w',Ps b ga r w'->AA 71 #[pt b 0] w' λ e w''=>Ct b ga w' (Px.slot r) (λ s v w''=>SlV s v) e w'':=λ w' h'=>Nr h'
  rcases hq:Px.slot r with⟨s,l'⟩ | ⟨a,er⟩
  rotate_left
  .rw[hq] at hC;replace hC:∀w',Ps b ga r w'->AA 71 #[pt b 0] w' λ e w''=>e=.panicked (Bj a er)/\Fo b w' w' w'':=hC
   have a5:∀w4,Fo b w1.drew.heap.size w1.drew w4->Io b ga n gq w res (.panicked (Bj a er)) w4:=λ w4 a4=>by
    rw[a0.out,hq];exact⟨rfl,(hF.trans (AV b n w1)).trans (a4.mono (by show n<=w1;omega))⟩
   clear hq
   go_upto_region 2 with fail
   go_region_law (go_simp;go_at_call 71;refine (hC w1.drew (h1.keep rfl rfl (AD _))).mono ?_;rintro e w4 ⟨rfl,a4⟩;refine skip_way w4 ⟨rfl,a5 w4 a4⟩ ?_)
   all_goals trivial
  rw[hq] at hC;replace hC:∀w',Ps b ga r w'->AA 71 #[pt b 0] w' λ e w''=>∃v,e=.returned v/\SlV s v/\Ps b ga l' w''/\Fo b w' w' w'':=hC
  go_upto_region 2 with fail
  go_region_law (first
   |(refine step_append_lies _ (by rfl) _ _ 23 (by rfl) (gq+1) 40 j0 _ 3 40 underlying23 b3 b8 b0 b6 rfl (by omega) _ p.states.length (p.states.flatMap Bh) (by rfl) (a3.alloc _) ⟨w4,0,none⟩ 1 1 [.string ⟨s.name.toArray⟩,.string ⟨s.type.toArray⟩,iv s.place] (by rfl) (by rfl) (World.news_of_block (cs:=#[.string ⟨s.name.toArray⟩,.string ⟨s.type.toArray⟩,iv s.place]) (t:=40) (fr:=(0,0)) (heap_new w4 _)) (by simp[Value.oneCell']) (by omega) (by unfold maxLen;omega) (by omega) (by simp;omega) (w4.heap.size+1) (by simp) ?_;intro g cap5 w5 hown5 hgrow hat hlt5;have a7:=(C6 hgrow a3 (Nat.lt_succ_self gq) a6).trans aa;have e2:=(Ad a7).2.1;have m2:=(Ad a7).2.2.2.2.1)
   |(go_simp;go_at_call 71;refine (hC w1.drew (h1.keep rfl rfl (AD _))).mono ?_;rintro e w4 ⟨v,rfl,rfl,h4,a4⟩;have a3:=Bl (w:=w1.drew) (w':=w4) x2.drew a4 (by omega);have a6:gq<w4:=AL a9 a4.size;have aa:=(a4.block gq a9 (by omega)).trans x1;have ya:=(Ad aa).2.1))
  all_goals
   have hG:=N0 hgrow hat;have ae:=Yn (n:=n) (w:=w1) hb am hn (by omega) x1 x2 x3 x4 ((AV b _ w1).trans a4) h4 hG hown5;replace a0:Aside (res=Px.bind (Px.need [59] l') λ _ l2=>.inl ({ p with states:=p.states ++ [s] },l2)):=by
    show _=_;rw[a0.out,hq];rfl
   obtain⟨af,ag,ad⟩:=ae;generalize w5.setCell ⟨gq,1,none⟩ (sL g 0 (p.states.length+1) cap5)=w6 at *;have bb:=ad.size;clear hq hC x1 x2 x3 x4 hown5 hgrow hat hG a7 e2 m2;go_wp2_with fail;refine (pneed_any ag 4 [59] (by decide) (by decide)).mono ?_;rcases hq:Px.need [59] l' with⟨u,l2⟩ | ⟨a,er⟩
   .rw[show Px.needK 4 [59] l'=_ from hq];rintro e w7 ⟨v,rfl,rfl,h7,ai⟩;replace a0:Aside (res=.inl ({ p with states:=p.states ++ [s] },l2)):=by
     show _=_;rw[a0.out,hq];rfl
    have b9:=af.fo ai hb;clear hq;go_wp2
    go_end0
    rw[a0.out];exact⟨rfl,b9,h7,(hF.trans ad).trans (ai.mono (by omega))⟩
   .rw[show Px.needK 4 [59] l'=_ from hq];rintro e w7 ⟨rfl,ai⟩;refine⟨rfl,?_⟩;rw[a0.out,hq];exact⟨rfl,(hF.trans ad).trans (ai.mono (by omega))⟩
 replace a0:Aside (res=if Px.sees 1 [102,110] l then Px.bind (Px.function false l.tail) λ g l1=>.inl ({ p with fns:=p.fns ++ [g] },l1) else if Px.sees 1 [111,110] l then Px.bind (Px.function true l.tail) λ g l1=>.inl ({ p with fns:=p.fns ++ [g] },l1) else Px.fail 31 l):=by
  show _=_;rw[a0.out,Fz,if_neg (by rw[hs];simp)]
 go_wp2_with fail
 refine (A7 h [115,116,97,116,101] hs).mono ?_;rintro e wa ⟨rfl,ha,aj⟩;have ia:=hi.fo (Fo.of_below (b:=b) aj) hb;have bc:=aj.size;have av:Fo b n w wa:=AU (aj.mono (by omega));clear hs hi h aj;rcases hs:Px.sees 1 [102,110] l with _ | _
 rotate_left
 .obtain⟨t,r,rfl,_,_⟩:=Px.sees_head hs;replace a0:Aside (res=Px.bind (Px.function false r) λ g l1=>.inl ({ p with fns:=p.fns ++ [g] },l1)):=by
   show _=_;rw[a0.out,if_pos hs];rfl
  go_wp2_with fail
  refine (Ay ha [102,110] (by decide) hs).mono ?_;rintro e w1 ⟨rfl,h1,a8⟩;replace h1:Ps b ga r w1:=h1;have i1:=ia.fo a8 hb;have ay:=a8.size;have hF:Fo b n w w1:=av.trans (a8.mono (by omega));have ah:p.states.length+p.fns.length+r.length+1<=4096:=by simp only[length_cons] at al;omega
  clear hs ia ha;obtain⟨ss,fs,rf,x1,x2,x3,x4⟩:=i1.box;obtain⟨sa,sc,rfl⟩:=A5 x2;obtain⟨fa,fc,rfl⟩:=A5 x3;have a9:gq<w1:=(AB x1).1;obtain⟨_,y1,y2,_,g1,g2⟩:=Ad x1;have hC:∀w',Ps b ga r w'->AA 72 #[pt b 0,.bool false] w' λ e w''=>Ct b ga w' (Px.function false r) (λ s v w''=>FnV (From w') w'' s v) e w'':=λ w' h'=>Hg false b ga r w' h'
  rcases hq:Px.function false r with⟨s,l'⟩ | ⟨a,er⟩
  rotate_left
  .rw[hq] at hC;replace hC:∀w',Ps b ga r w'->AA 72 #[pt b 0,.bool false] w' λ e w''=>e=.panicked (Bj a er)/\Fo b w' w' w'':=hC
   have a5:∀w4,Fo b w1.drew.heap.size w1.drew w4->Io b ga n gq w res (.panicked (Bj a er)) w4:=λ w4 a4=>by
    rw[a0.out,hq];exact⟨rfl,(hF.trans (AV b n w1)).trans (a4.mono (by show n<=w1;omega))⟩
   clear hq
   go_upto_region 5 with fail
   go_region_law (go_simp;go_at_call 72;refine (hC w1.drew (h1.keep rfl rfl (AD _))).mono ?_;rintro e w4 ⟨rfl,a4⟩;refine skip_way w4 ⟨rfl,a5 w4 a4⟩ ?_)
   all_goals trivial
  rw[hq] at hC;replace hC:∀w',Ps b ga r w'->AA 72 #[pt b 0,.bool false] w' λ e w''=>∃v,e=.returned v/\FnV (From w') w'' s v/\Ps b ga l' w''/\Fo b w' w' w'':=hC
  go_upto_region 5 with fail
  go_region_law (first
   |(refine step_append_lies _ (by rfl) _ _ 24 (by rfl) (gq+1) 36 i0 _ 7 120 underlying24 ax az au aw rfl (by omega) _ p.fns.length rf (by rfl) (a3.alloc _) ⟨w4,0,none⟩ 1 1 (fL nm on (.slice a1 n1 c1) y (.slice a2 n2 c2) pl) (by rfl) (by rfl) (World.news_of_block (cs:=#[.string ⟨nm.toArray⟩,.bool on,.slice a1 n1 c1,.string ⟨y.toArray⟩,sZ,.slice a2 n2 c2,iv pl]) (t:=36) (fr:=(0,0)) (heap_new w4 _)) (by simp[Value.oneCell']) (by omega) (by unfold maxLen;omega) (by omega) (by simp;omega) (w4.heap.size+1) (by simp) ?_;intro g cap5 w5 hown5 hgrow hat hlt5;have a7:=(C6 hgrow a3 (Nat.lt_succ_self gq) a6).trans aa;have e2:=(Ad a7).2.2.1;have m2:=(Ad a7).2.2.2.2.2)
   |(go_simp;go_at_call 72;refine (hC w1.drew (h1.keep rfl rfl (AD _))).mono ?_;rintro e w4 ⟨v,rfl,⟨nm,on,a1,n1,c1,y,a2,n2,c2,pl,rfl,aq⟩,h4,a4⟩;have a3:=Bl (w:=w1.drew) (w':=w4) x3.drew a4 (by omega);have a6:gq<w4:=AL a9 a4.size;have aa:=(a4.block gq a9 (by omega)).trans x1;have ya:=(Ad aa).2.2.1))
  all_goals
   have hG:=N0 hgrow hat;have ae:=Ae9 (n:=n) (w:=w1) hb am hn (by omega) x1 x2 x3 x4 ((AV b _ w1).trans a4) h4 aq hG hown5;replace a0:Aside (res=.inl ({ p with fns:=p.fns ++ [s] },l')):=by
    show _=_;rw[a0.out,hq];rfl
   obtain⟨af,ag,ad⟩:=ae;clear hq hC x1 x2 x3 x4 hown5 hgrow hat hG a7;go_wp2
   go_end0
   rw[a0.out];exact⟨rfl,af,ag,hF.trans ad⟩
 replace a0:Aside (res=if Px.sees 1 [111,110] l then Px.bind (Px.function true l.tail) λ g l1=>.inl ({ p with fns:=p.fns ++ [g] },l1) else Px.fail 31 l):=by
  show _=_;rw[a0.out,if_neg (by rw[hs];simp)]
 go_wp2_with fail
 refine (A7 ha [102,110] hs).mono ?_;rintro e wb ⟨rfl,ak,ab⟩;have ib:=ia.fo (Fo.of_below (b:=b) ab) hb;have ba:=ab.size;have ar:Fo b n w wb:=av.trans (AU (ab.mono (by omega)));clear hs ia ha ab;rcases hs:Px.sees 1 [111,110] l with _ | _
 rotate_left
 .obtain⟨t,r,rfl,_,_⟩:=Px.sees_head hs;replace a0:Aside (res=Px.bind (Px.function true r) λ g l1=>.inl ({ p with fns:=p.fns ++ [g] },l1)):=by
   show _=_;rw[a0.out,if_pos hs];rfl
  go_wp2_with fail
  refine (Ay ak [111,110] (by decide) hs).mono ?_;rintro e w1 ⟨rfl,h1,a8⟩;replace h1:Ps b ga r w1:=h1;have i1:=ib.fo a8 hb;have ay:=a8.size;have hF:Fo b n w w1:=ar.trans (a8.mono (by omega));have ah:p.states.length+p.fns.length+r.length+1<=4096:=by simp only[length_cons] at al;omega
  clear hs ib ak;obtain⟨ss,fs,rf,x1,x2,x3,x4⟩:=i1.box;obtain⟨sa,sc,rfl⟩:=A5 x2;obtain⟨fa,fc,rfl⟩:=A5 x3;have a9:gq<w1:=(AB x1).1;obtain⟨_,y1,y2,_,g1,g2⟩:=Ad x1;have hC:∀w',Ps b ga r w'->AA 72 #[pt b 0,.bool true] w' λ e w''=>Ct b ga w' (Px.function true r) (λ s v w''=>FnV (From w') w'' s v) e w'':=λ w' h'=>Hg true b ga r w' h'
  rcases hq:Px.function true r with⟨s,l'⟩ | ⟨a,er⟩
  rotate_left
  .rw[hq] at hC;replace hC:∀w',Ps b ga r w'->AA 72 #[pt b 0,.bool true] w' λ e w''=>e=.panicked (Bj a er)/\Fo b w' w' w'':=hC
   have a5:∀w4,Fo b w1.drew.heap.size w1.drew w4->Io b ga n gq w res (.panicked (Bj a er)) w4:=λ w4 a4=>by
    rw[a0.out,hq];exact⟨rfl,(hF.trans (AV b n w1)).trans (a4.mono (by show n<=w1;omega))⟩
   clear hq
   go_upto_region 7 with fail
   go_region_law (go_simp;go_at_call 72;refine (hC w1.drew (h1.keep rfl rfl (AD _))).mono ?_;rintro e w4 ⟨rfl,a4⟩;refine skip_way w4 ⟨rfl,a5 w4 a4⟩ ?_)
   all_goals trivial
  rw[hq] at hC;replace hC:∀w',Ps b ga r w'->AA 72 #[pt b 0,.bool true] w' λ e w''=>∃v,e=.returned v/\FnV (From w') w'' s v/\Ps b ga l' w''/\Fo b w' w' w'':=hC
  go_upto_region 7 with fail
  go_region_law (first
   |(refine step_append_lies _ (by rfl) _ _ 24 (by rfl) (gq+1) 36 i0 _ 7 120 underlying24 ax az au aw rfl (by omega) _ p.fns.length rf (by rfl) (a3.alloc _) ⟨w4,0,none⟩ 1 1 (fL nm on (.slice a1 n1 c1) y (.slice a2 n2 c2) pl) (by rfl) (by rfl) (World.news_of_block (cs:=#[.string ⟨nm.toArray⟩,.bool on,.slice a1 n1 c1,.string ⟨y.toArray⟩,sZ,.slice a2 n2 c2,iv pl]) (t:=36) (fr:=(0,0)) (heap_new w4 _)) (by simp[Value.oneCell']) (by omega) (by unfold maxLen;omega) (by omega) (by simp;omega) (w4.heap.size+1) (by simp) ?_;intro g cap5 w5 hown5 hgrow hat hlt5;have a7:=(C6 hgrow a3 (Nat.lt_succ_self gq) a6).trans aa;have e2:=(Ad a7).2.2.1;have m2:=(Ad a7).2.2.2.2.2)
   |(go_simp;go_at_call 72;refine (hC w1.drew (h1.keep rfl rfl (AD _))).mono ?_;rintro e w4 ⟨v,rfl,⟨nm,on,a1,n1,c1,y,a2,n2,c2,pl,rfl,aq⟩,h4,a4⟩;have a3:=Bl (w:=w1.drew) (w':=w4) x3.drew a4 (by omega);have a6:gq<w4:=AL a9 a4.size;have aa:=(a4.block gq a9 (by omega)).trans x1;have ya:=(Ad aa).2.2.1))
  all_goals
   have hG:=N0 hgrow hat;have ae:=Ae9 (n:=n) (w:=w1) hb am hn (by omega) x1 x2 x3 x4 ((AV b _ w1).trans a4) h4 aq hG hown5;replace a0:Aside (res=.inl ({ p with fns:=p.fns ++ [s] },l')):=by
    show _=_;rw[a0.out,hq];rfl
   obtain⟨af,ag,ad⟩:=ae;clear hq hC x1 x2 x3 x4 hown5 hgrow hat hG a7;go_wp2
   go_end0
   rw[a0.out];exact⟨rfl,af,ag,hF.trans ad⟩
 replace a0:Aside (res=.inr (Px.place l,31)):=by
  show _=_;rw[a0.out,if_neg (by rw[hs];simp)];rfl
 go_wp2_with fail
 refine (A7 ak [111,110] hs).mono ?_;rintro e wc ⟨rfl,hc,ab⟩;have bf:=ab.size;have b7:Fo b n w wc:=ar.trans (AU (ab.mono (by omega)));obtain⟨t,r,rfl,_⟩:=hc.head;go_wp2_with fail;refine (pgiveUp_any hc 31).mono ?_;rintro e wd ⟨rfl,b5⟩;refine⟨rfl,?_⟩;rw[a0.out];exact⟨rfl,b7.trans (AU (b5.mono (by omega)))⟩
theorem Lo(f:Nat)(p:Px.Pr)(t:Lx.Tok)(r:List Lx.Tok):Px.parts (f+1) p (t :: r)=if t.kind=5 then .inl (p,t :: r) else Px.bind (Fz p (t :: r)) λ p' l'=>Px.parts f p' l':=by
 simp only[Px.parts,Fz];split
 .rfl
 rcases h1:Px.sees 1 [115,116,97,116,101] (t :: r) with _ | _
 .rcases h2:Px.sees 1 [102,110] (t :: r) with _ | _
  .rcases h3:Px.sees 1 [111,110] (t :: r) with _ | _
   .rfl
   .simp only[Bool.false_eq_true,if_false,if_true,Cp,Dq,tail_cons]
  .simp only[Bool.false_eq_true,if_false,if_true,Cp,Dq,tail_cons]
 .simp only[if_true,Cp,Dq,tail_cons]
theorem Lp{p:Px.Pr}{l:List Lx.Tok}(hg:Px.Good l):Px.Res 1 l (Fz p l):=by
 unfold Fz;split
 .rename_i h;have a:=Px.sees1 h hg;exact Px.Res.after a ((Px.slot_ok _ a.good).weak.bind0 λ s l1 _ a1=>(Px.need_res a1.good).weak.bind0 λ _ l2 _ a2=>Px.Res.here a2.good)
 split
 .rename_i h;have a:=Px.sees1 h hg;exact Px.Res.after a ((Px.function_ok _ _ a.good).weak.bind0 λ s l1 _ a1=>Px.Res.here a1.good)
 split
 .rename_i h;have a:=Px.sees1 h hg;exact Px.Res.after a ((Px.function_ok _ _ a.good).weak.bind0 λ s l1 _ a1=>Px.Res.here a1.good)
 .exact Px.Res.fail hg (AI rfl)
theorem Kg{α β:Type}{r:Px.R α}{f:α->List Lx.Tok->Px.R β}{y:β}{l':List Lx.Tok}(h:Px.bind r f=.inl (y,l')):∃x l,r=.inl (x,l)/\f x l=.inl (y,l'):=by
 match r,h with
 | .inl (x,l),h=>exact⟨x,l,rfl,h⟩
 | .inr e,h=>simp[Px.bind] at h
theorem Up{p p':Px.Pr}{l l':List Lx.Tok}(h:Fz p l=.inl (p',l')):p'.states.length+p'.fns.length=p.states.length+p.fns.length+1:=by
 unfold Fz at h;split at h
 .obtain⟨s,l1,_,h2⟩:=Kg h;obtain⟨u,l2,_,h3⟩:=Kg h2;simp at h3;rw[<-h3.1];simp;omega
 split at h
 .obtain⟨s,l1,_,h2⟩:=Kg h;simp at h2;rw[<-h2.1];simp;omega
 split at h
 .obtain⟨s,l1,_,h2⟩:=Kg h;simp at h2;rw[<-h2.1];simp;omega
 .simp[Px.fail] at h
theorem Lq:∀(f g:Nat) (p:Px.Pr) (l:List Lx.Tok),Px.Good l->l.length<f->l.length<g->Px.parts f p l=Px.parts g p l
 | 0,_,_,_,_,h,_=>by omega
 | _,0,_,_,_,_,h=>by omega
 | f+1,g+1,p,[],hg,_,_=>by exact absurd hg (by simp[Px.Good])
 | f+1,g+1,p,t :: r,hg,h1,h2=>by
  rw[Lo,Lo];split
  .rfl
  .refine Px.bind_congr λ p' l' e1=>?_
   have a1:=(Lp hg).ok p' l' e1;have:=a1.less;exact Lq f g p' l' a1.good (by omega) (by omega)
abbrev Cn:Obj:=prO 0 sZ sZ
abbrev pV(v:Nat)(ss fs:Value):Value:=.agg #[iv v,ss,fs]
theorem PPrBox.pr{gq:Nat}{p:Px.Pr}{rf:AR}{B:AS}(h2:w.ownsRow (gq+1) 40 3 ss p.states.length (p.states.flatMap Bh))(h3:w.ownsRow (gq+1) 36 7 fs p.fns.length rf)(h4:Bq (λ k=>gq+1<=k/\fs.ownBlock≠some k/\ss.ownBlock≠some k) w p.fns rf)(hB:∀k,gq+1<=k->B k):Ez B w p (pV p.version ss fs):=
 ⟨ss,fs,rfl,Dp h2 (λ k hk _=>hB k hk),rf,Dp h3 (λ k hk _=>hB k hk),h4.base (λ k hk=>hB k hk.1)⟩
theorem Pu{l:List Lx.Tok}(h:Ps b ga l w) :
  AA 21 #[pt b 0] w λ e w'=>Ct b ga w (Px.program l) (λ p v w'=>Ez (From w) w' p v) e w':=by
 obtain⟨res,a0⟩:∃res,Aside (res=Px.program l):=⟨_,rfl⟩;rw[<-a0.out];have ad:w≠b:=by have:=h.there;omega
 have am:w≠ga:=by have:=h.gl;omega
 have bh:=h.there;have bn:=h.gl;have h0:=h.alloc Cn;have ay:=heap_new w Cn;have ab:Fo b w w (w.alloc Cn):=(AT _ _ _).alloc (AD _) _;have al:w.heap.size<(w.alloc Cn).heap.size:=by simp
 have bp:=Ab1;go_enter func21,ntmps21;go_wp2_with fail;generalize w.alloc Cn=w0 at *;refine (pneed_any h0 1 [118,101,114,115,105,111,110] (by decide) (by decide)).mono ?_;rcases hq:Px.needK 1 [118,101,114,115,105,111,110] l with⟨u,l1⟩ | ⟨a,er⟩
 rotate_left
 .rintro e w1 ⟨rfl,aa⟩;refine⟨rfl,?_⟩;rw[a0.out,Px.program,hq];exact⟨rfl,ab.call aa ab.size⟩
 rintro e w1 ⟨v,rfl,rfl,h1,aa⟩;replace a0:Aside (res=Px.bind (Px.number l1) λ v l2=>Px.bind (Px.need [59] l2) λ _ l3=>Px.parts (l3.length+1) ⟨v,[],[]⟩ l3):=by
  show _=_;rw[a0.out,Px.program,hq];rfl
 have b0:=(aa.block _ al ad).trans ay;have af:=ab.call aa ab.size;have ax:w<w1.heap.size:=AL al aa.size;clear hq ay ab al h0 aa;go_wp2_with fail;refine (Ro h1).mono ?_;rcases hq:Px.number l1 with⟨a4,l2⟩ | ⟨a,er⟩
 rotate_left
 .rintro e w2 ⟨rfl,a7⟩;refine⟨rfl,?_⟩;rw[a0.out,hq];exact⟨rfl,af.call a7 af.size⟩
 rintro e w2 ⟨v,rfl,rfl,h2,a7⟩;replace a0:Aside (res=Px.bind (Px.need [59] l2) λ _ l3=>Px.parts (l3.length+1) ⟨a4,[],[]⟩ l3):=by
  show _=_;rw[a0.out,hq];rfl
 have aw:=(a7.block _ ax ad).trans b0;have ar:=af.call a7 af.size;have b8:w<w2.heap.size:=AL ax a7.size;have ai:Below w2 w2 (w2.alloc (prO a4 sZ sZ)):=(AF _ _).alloc (AD _) _;have h3:=h2.below ai;have au:=(ai.block _ b8).trans aw;have ae:=ar.below ai ar.size;have i3:PPrBox w2 ⟨a4,[],[]⟩ (w2.alloc (prO a4 sZ sZ)):=⟨_,_,[],heap_new w2 _,⟨rfl,AI ⟨rfl,rfl⟩⟩,⟨rfl,AI ⟨rfl,rfl⟩⟩,rfl⟩;have ak:b<w2:=h2.there;have bb:ga<w2:=h2.gl;have bj:w2.heap.size<(w2.alloc (prO a4 sZ sZ)).heap.size:=by simp
 clear hq b0 aw af ar h1 h2 a7 ai
 go_upto_region 3 with fail
 generalize w2.alloc (prO a4 sZ sZ)=w3s at *;generalize w2.heap.size=gq at *;go_wp2_with fail;refine (pneed_any h3 4 [59] (by decide) (by decide)).mono ?_;rcases hq:Px.need [59] l2 with⟨u,l3⟩ | ⟨a,er⟩
 rotate_left
 .rw[show Px.needK 4 [59] l2=_ from hq];rintro e w4 ⟨rfl,a6⟩;refine⟨rfl,?_⟩;rw[a0.out,hq];exact⟨rfl,ae.call a6 ae.size⟩
 rw[show Px.needK 4 [59] l2=_ from hq];rintro e w4 ⟨v,rfl,rfl,h4,a6⟩;replace a0:Aside (res=Px.parts (l3.length+1) ⟨a4,[],[]⟩ l3):=by
  show _=_;rw[a0.out,hq];rfl
 have az:=(a6.block _ (by omega) ad).trans au;have av:=ae.call a6 ae.size;have i4:=i3.fo a6 ak;have br:=a6.size;have ag:=h4.few;clear hq au ae h3 a6 i3;go_wp2_with fail
 go_loopg [] (l3.length+1) (λ m wr=>∃(p:Px.Pr) (l4:List Lx.Tok),m=l4.length+1/\Ps b ga l4 wr/\PPrBox gq p wr/\wr.heap[w.heap.size]?=Cn/\Fo b w w wr/\gq<wr/\p.states.length+p.fns.length+l4.length<=4096/\Aside (res=Px.parts (l4.length+1) p l4))
 case atStart=>exact⟨⟨a4,[],[]⟩,l3,rfl,h4,i4,az,av,by omega,by simpa using ag,a0⟩
 case round=>
  clear a0 h4 i4 az av ag;obtain⟨p,l4,rfl,h5,i5,aj,a5,bo,b6,a0⟩:=hrel;obtain⟨t,r,rfl,_⟩:=h5.head;replace a0:Aside (res=_):=a0.out.trans (Lo _ p t r);have hN:=Cc h5;have bi:=a5.size;by_cases hk:t.kind=5
  .replace a0:Aside (res=.inl (p,t :: r)):=by
    show _=_;rw[a0.out,if_pos hk]
   have b9:((t.kind:Int) != 5)=false:=by simp;omega
   clear hk;go_wp2_with fail;refine hN.mono ?_;rintro e w6 ⟨rfl,a3⟩;have h6:=h5.below a3;have i6:=i5.fo (Fo.of_below (b:=b) a3) ak;have ah:=(a3.block _ (by omega)).trans aj;have a8:=a5.below a3 a5.size;have b7:=a3.size;obtain⟨ss,fs,rf,x1,x2,x3,x4⟩:=i6.box;obtain⟨sa,sc,rfl⟩:=A5 x2;obtain⟨fa,fc,rfl⟩:=A5 x3;have aq:Ct b ga w (.inl (p,t :: r)) (λ p v w'=>Ez (From w) w' p v) (.returned (pV p.version (.slice sa p.states.length sc) (.slice fa p.fns.length fc))) (w3 w6 w (iv p.version) (.slice sa p.states.length sc) (.slice fa p.fns.length fc)):=
    ⟨_,rfl,((PPrBox.pr (B:=From (gq+1)) x2 x3 x4 (λ k hk=>hk)).since (Since.set3' (λ hh=>by have:gq+1<=w:=hh;omega) _ _ _)).base (Cb (by omega)),h6.set3 ad am _ _ _,a8.set3 (AD _) _ _ _⟩
   obtain⟨y0,y1,y2,_⟩:=Ad x1;obtain⟨e0,e1,e2,m0,m1,m2⟩:=Ad ah;have b3:gq<w6:=by omega
   have ba:w<w6.heap.size:=by omega
   have bg:gq≠w.heap.size:=by omega
   have bf:w≠gq:=by omega
   clear hN h5 i5 aj a5 a3 h6 i6 a8 x2 x3 x4;go_wp2;rw[a0.out];exact bodyPost_ret (by simp[results,results21,go_sem,e0,e1,e2]) rfl aq
  .replace a0:Aside (res=Px.bind (Fz p (t :: r)) λ p' l'=>Px.parts (t :: r).length p' l'):=by
    show _=_;rw[a0.out,if_neg hk]
   have b9:((t.kind:Int) != 5)=true:=by simp;omega
   clear hk;go_wp2_with fail;refine hN.mono ?_;rintro e w6 ⟨rfl,a3⟩;have h6:=h5.below a3;have i6:=i5.fo (Fo.of_below (b:=b) a3) ak;have ah:=(a3.block _ (by omega)).trans aj;have a8:=a5.below a3 a5.size;have b7:=a3.size;clear hN h5 i5 aj a5 a3;go_wp2_with fail;refine (Yo (n:=gq) ak bb (AD _) h6 i6 b6).mono ?_;rcases hq:Fz p (t :: r) with⟨p',l'⟩ | ⟨a,er⟩
   .rintro e w7 ⟨rfl,i7,h7,a9⟩;have bk:=((Lp h6.good).ok p' l' hq).less;have b4:=((Lp h6.good).ok p' l' hq).good;have bq:=Up hq;replace a0:Aside (res=Px.parts (l'.length+1) p' l'):=by
     show _=_;rw[a0.out,hq];exact Lq _ _ _ _ b4 (by omega) (by omega)
    have bc:=(a9.block _ (by omega) ad).trans ah;have b5:=a8.trans (a9.mono (by omega));have bl:=a9.size;clear hq a9 ah a8 h6 i6;go_wp2_with fail;go_roundg (l'.length+1)
    case measure=>omega
    case rel=>exact⟨p',l',rfl,h7,i7,bc,b5,by omega,by omega,a0⟩
   .rintro e w7 ⟨rfl,a9⟩;refine⟨rfl,?_⟩;rw[a0.out,hq];exact⟨rfl,a8.trans (a9.mono (by omega))⟩
end
end Go.Proofs.YtpckmjfabiallaaGreatDoor
