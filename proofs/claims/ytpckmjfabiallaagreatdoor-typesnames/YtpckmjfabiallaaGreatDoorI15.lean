/- Texts of ours, joined. -/
import Derived.Test.YtpckmjfabiallaaGreatDoorI13
import Derived.Test.YtpckmjfabiallaaGreatDoorI14
import Derived.Test.YtpckmjfabiallaaGreatDoorI10
set_option linter.unusedVariables false
set_option linter.unusedSimpArgs false
set_option maxRecDepth 100000
set_option maxHeartbeats 16000000
namespace Go.Proofs.YtpckmjfabiallaaGreatDoor
variable{B':Nat->Prop}{W0 w w' w1 w2 wr:World}{b g i m mb n0 p sz:Nat}{fs ss v v0:Value}{x:List UInt8}
open List
open _root_.Go.Proofs.Tryz
section
open Go.RowKit
open Ck (CE CS CF CP Mng)
attribute [local go_sem ↓] Go.wp_at_zero Go.wp_at_succ
def Ep(f:Px.Fn):CF:=⟨f.name,f.on,Ck.slots f.params,f.result,[],[]⟩
theorem Aq7{B:AS}{f:Px.Fn}(h:B7 B w (Ck.slots f.params) v):E3 B w (Ep f) [strV f.name,.bool f.on,v,strV f.result,sZ,sZ,iv 0]:=
 ⟨v,sZ,sZ,rfl,h,⟨rfl,AI ⟨rfl,rfl⟩⟩,[],⟨rfl,AI ⟨rfl,rfl⟩⟩,Aq.nil⟩
theorem D0.more{env:Ck.Env}(h:D0 env)(x:AQ)(m:Mng)(hm:m.kind≠0):D0 (env ++ [(x,m)]):=λ y hy=>by
 rcases mem_append.1 hy with hy | hy
 .exact h y hy
 .simp at hy;subst hy;exact hm
theorem Iy{env e:Ck.Env}{m:Mng}(h:Ck.note env x p m=.inl e):e=env ++ [(x,m)]:=by
 obtain⟨_,-,h⟩:=Ao h;cases h;rfl
theorem Xg{B:AS}{l:List Px.Fn}(h:F6 B w l v){f:Px.Fn}(hi:l[i]?=some f):∃(g o cap:Nat) (pa ba:Option Addr) (pc bc:Nat),v=sL g o l.length cap/\B g/\g<w/\(∀j u,[strV f.name,.bool f.on,.slice pa f.params.length pc,strV f.result,sZ,.slice ba f.body.length bc,iv f.place][j]?=some u->w.cell? ⟨g,o+i*7+j,none⟩=some u)/\Ey B w f [strV f.name,.bool f.on,.slice pa f.params.length pc,strV f.result,sZ,.slice ba f.body.length bc,iv f.place]:=by
 obtain⟨row,h1,h2⟩:=h;obtain⟨cs,hf,k2⟩:=h2.get hi;have a4:=(AK hi).1;obtain⟨g,o,cap,e,-,-,hB,hg,hc⟩:=h1.cells (by omega);have a3:=hf;obtain⟨ps,bs,rfl,m1,row2,m2,m3⟩:=hf;obtain⟨pa,pc,rfl,-,-⟩:=SlRow.val m1;obtain⟨ba,bc,rfl,-,-⟩:=m2.val;refine⟨g,o,cap,pa,ba,pc,bc,e,hB,hg,λ j u hj=>?_,a3⟩;rw[Nat.add_assoc];have a0:j<7:=(AK hj).1;exact hc _ _ (by rw[k2 j a0];exact hj)
structure H1(n0 b mb cb nb:Nat)(w4:World)(l:List Px.Sl)(A:Ck.R Ck.Env)(q:Nat)(envr:Ck.Env)(nvr:Value)(names:List (List UInt8))(wr:World):Prop where
 env:A9 wr mb envr
 eok:D0 envr
 sc:Sc n0 b cb nb nvr names wr
 nl:names.length=q
 nv:∀j,nvr.ownBlock=some j->w4.heap.size<=j
 fm:Fm (λ j=>j=mb\/j=nb) w4 wr
 ans:A=Ck.states envr q (l.drop q)
structure H2(n0 b mb cb nb n1:Nat)(v0 ss lv0:Value)(num:Nat)(w4:World)(l:List Px.Fn)(A:Ck.R Ck.Env)(q:Nat)(envr:Ck.Env)(nvr fs:Value)(names:List (List UInt8))(wr:World):Prop where
 env:A9 wr mb envr
 eok:D0 envr
 sc:Sc n0 b cb nb nvr names wr
 nl:names.length=n1+q
 nv:∀j,nvr.ownBlock=some j->w4.heap.size<=j
 blk:wr.heap[b]?=some (.cells #[v0,ss,fs,.map (some mb),iv num,lv0] 62 (0,0))
 gf:Gf (λ j=>w4.heap.size<=j/\nvr.ownBlock≠some j) wr fs ((l.take q).map Ep)
 fm:Fm (λ j=>j=b\/j=mb\/j=nb) w4 wr
 ans:A=Ck.fns envr q (l.drop q)
def Vh(b mb:Nat)(v0 lv0:Value)(num:Nat)(p:Px.Pr)(w:World)(r:Ck.R Ck.Env)(e:Ending)(w':World):Prop:=
 match r with
 | .inl env'=>e=.returned (.tuple #[])/\∃ss fs,w'.heap[b]?=some (.cells #[v0,ss,fs,.map (some mb),iv num,lv0] 62 (0,0))/\A9 w' mb env'/\B7 (λ j=>From w j/\fs.ownBlock≠some j) w' (Ck.slots p.states) ss/\Gf (From w) w' fs (p.fns.map Ep)/\Fm (λ j=>j=b\/j=mb) w w'
 | .inr (a,er)=>e=.panicked (Ag a er)/\Fm (λ j=>j=b\/j=mb) w w'
theorem Y7{p:Px.Pr}{num:Nat}{lv0:Value}{sa fa:Option Addr}{sc fc:Nat}
  (hblk:w.heap[b]?=some (.cells #[v0,sZ,sZ,.map (some mb),iv num,lv0] 62 (0,0))) (henv:A9 w mb []) (hbm:b≠mb)
  (hst:Et (λ j=>j<w.heap.size/\j≠b/\j≠mb) w p.states (.slice sa p.states.length sc)) (hfn:F6 (λ j=>j<w.heap.size/\j≠b/\j≠mb) w p.fns (.slice fa p.fns.length fc))
  (hl1:p.states.length<=40000) (hl2:p.fns.length<=40000) (ed:∀s∈p.states,s.name.length<=1000/\s.type.length<=1000)
  (f2:∀f∈p.fns,f.name.length<=1000/\f.result.length<=1000/\f.params.length<=100000/\∀s∈f.params,s.name.length<=1000/\s.type.length<=1000) :
  AA 46 #[pt b 0,.agg #[iv p.version,.slice sa p.states.length sc,.slice fa p.fns.length fc]] w λ e w'=>Vh b mb v0 lv0 num p w (Ck.bind (Ck.states [] 0 p.states) λ e1=>Ck.fns e1 0 p.fns) e w':=by
 have hb:b<w:=(AB hblk).1;have hm:mb<w:=henv.lt;obtain⟨R,HR⟩:∃R:Ck.R Ck.Env,Hid ((Ck.bind (Ck.states [] 0 p.states) λ e1=>Ck.fns e1 0 p.fns)=R):=⟨_,rfl⟩;rw[HR.out];obtain⟨A,HA⟩:∃A:Ck.R Ck.Env,Hid (Ck.states [] 0 p.states=A):=⟨_,rfl⟩;have e0:Hid (R=Ck.bind A λ e1=>Ck.fns e1 0 p.fns):=by show _=_;rw[<-HA.out];exact HR.out.symm
 clear HR;obtain⟨w0,ep⟩:∃w0,w.alloc (.cells #[iv p.version,.slice sa p.states.length sc,.slice fa p.fns.length fc] 26)=w0:=⟨_,rfl⟩;have cf:Below w w w0:=by rw[<-ep];exact (AF _ _).alloc (AD _) _
 have ev:w0.heap[w.heap.size]?=some (.cells #[iv p.version,.slice sa p.states.length sc,.slice fa p.fns.length fc] 26 (0,0)):=by rw[<-ep];exact heap_new _ _
 have l0:w.heap.size<w0.heap.size:=(AB ev).1;have g2:=G3 (n0:=w.heap.size) (b:=b) (w:=w0) (by omega);have ew:=λ (j:Nat) (s:Px.Sl) (hj:p.states[j]?=some s)=>Kr hst hj
 have em:=λ (j:Nat) (f:Px.Fn) (hj:p.fns[j]?=some f)=>Xg hfn hj
 replace ew:=Bu ew;replace em:=Bu em;replace ed:=Bu ed;replace f2:=Bu f2;go_enter func46,ntmps46;go_wp2_with fail;refine g2.mono ?_;rintro e w3 ⟨cb,nb,rfl,dr,i3,hy,dt⟩;clear g2;have ha:=dt.size;have en:=(dt.block _ l0).trans ev;obtain⟨d0,d1,d2,-⟩:=Az en;have gy:w<w3.heap.size:=by omega
 have d8:Below w w w3:=cf.trans (dt.mono cf.size);have f7:=Oq (w:=w3) (SlRow.since hst (Since.of_below d8)) (by omega) ed.out;have cc:=(d8.block _ hb).trans hblk;have c5:A9 w3 mb []:=henv.since (d8.block _ hm);have hu:cb<w3:=(AB dr.cbk).1;have ek:nb<w3:=(AB dr.nbk).1;clear dt cf ep ev;go_wp2_with fail;refine f7.mono ?_;rintro e w4a ⟨a2,c2,rfl,bv,b6⟩;clear f7 d0 d1 d2;have gv:=b6.size;have am:=(b6.block b (by omega)).trans cc;obtain⟨-,g1,-,-,-,-,-,f1,-⟩:=Bc am;have hp:b<w4a:=by omega
 obtain⟨w4,fr⟩:∃w4,w4a.setCell ⟨b,1,none⟩ (.slice a2 p.states.length c2)=w4:=⟨_,rfl⟩;have cy:Fm (λ j=>j=b) w4a w4:=by rw[<-fr];exact Fm.set (X:=λ j=>j=b) rfl 1 _
 have c4:w4.heap[b]?=some (.cells #[v0,.slice a2 p.states.length c2,sZ,.map (some mb),iv num,lv0] 62 (0,0)):=by rw[<-fr];simp[World.setCell,Array.getElem?_modify,am]
 have gj:=cy.size;have b3:Fm (λ j=>j=b) w w4:=(Fm.of_below (X:=λ _=>False) (d8.trans (b6.mono d8.size))).trans cy (λ _ _ h=>h.elim) (λ _ _ h=>h);have ch:Fm (λ j=>j=b) w3 w4:=(Fm.of_below (X:=λ _=>False) b6).trans cy (λ _ _ h=>h.elim) (λ _ _ h=>h);have f6:=(ch.block _ gy (by omega)).trans en;have fi:Cls w3 w4 (.slice a2 p.states.length c2) (Ck.slots p.states):=bv.since (λ j e=>cy.block j (bv.lt e).2 (by have:=(bv.lt e).1;omega));have e9:Cq (λ j=>w3.heap.size<=j/\j<w4.heap.size) w4 3 (.slice a2 p.states.length c2) (Ck.slots p.states).length ((Ck.slots p.states).flatMap A1):=Cq.base' fi.row (λ j h1 h2=>⟨h1,h2⟩);have fx:(Ck.slots p.states).length=p.states.length:=by simp[Ck.slots]
 rw[fx] at e9;have dj:Hid (H1 w b mb cb nb w4 p.states A 0 [] sZ [] w4):=by
  refine⟨c5.since (ch.block mb (by omega) (by omega)),λ x hx=>(by cases hx),dr.keep (λ j hj=>ch.block j ?_ ?_),rfl,λ j e=>(by cases e),Fm.refl _ _,?_⟩
  .rcases hj with rfl | rfl | e
   .exact hu
   .exact ek
   .cases e
  .rcases hj with rfl | rfl | e
   .omega
   .omega
   .cases e
  .rw[drop_zero];exact HA.out.symm
 obtain⟨d0,d1,d2,-⟩:=Az f6;have gn:w<w4.heap.size:=by omega
 have ab:∀(a er:Nat) (X:AS) (wy:World),Fm X w4 wy->(∀j,j<w.heap.size->X j->j=b\/j=mb)->R=.inr (a,er)->Vh b mb v0 lv0 num p w R (.panicked (Ag a er)) wy:=λ a er X wy hF hX hR=>by
  rw[hR];exact⟨rfl,b3.trans hF (λ j _ e=>AI e) hX⟩
 replace ab:=Bu ab;have gm:w<=nb:=by omega
 clear HA bv b6 am cy dr c5 cc en fi;go_wp2_with fail;clear d0 d1 d2 g1 f1
 go_loopg [27] p.states.length (λ gh ii wr=>∃q envr nvr names,q<=p.states.length/\gh=p.states.length - q/\ii=iv q/\Hid (H1 w b mb cb nb w4 p.states A q envr nvr names wr))
 case atStart=>exact⟨0,[],sZ,[],AO _,rfl,rfl,dj⟩
 case round=>
  obtain⟨q,envr,nvr,names,hq,rfl,rfl,HI⟩:=hrel;clear dj;have db:=HI.out.fm.size;by_cases hlt:q<p.states.length
  .have bp:(q:Int)<(p.states.length:Int):=by omega
   have hn:(0:Int)<=(q:Int):=by omega
   obtain⟨s,e6⟩:∃s,p.states[q]?=some s:=⟨_,AN hlt⟩;obtain⟨ga,oa,ca,ea,a7,b4,u0,u1,u2⟩:=ew.out q s e6;simp only[Value.slice.injEq] at ea;obtain⟨rfl,-,rfl⟩:=ea;have a0:∀j,j<w.heap.size->j≠b->j≠mb->wr.heap[j]?=w.heap[j]?:=λ j h1 h2 h3=>(HI.out.fm.block j (by omega) (by rintro (e | e) <;> omega)).trans (b3.block j h1 h2)
   replace u0:=(Ak (a0 ga b4 a7.2.1 a7.2.2)).trans u0;replace u1:=(Ak (a0 ga b4 a7.2.1 a7.2.2)).trans u1;replace u2:=(Ak (a0 ga b4 a7.2.1 a7.2.2)).trans u2;have et:ga<wr:=by omega
   have ag:=(HI.out.fm.block b (by omega) (by rintro (e | e) <;> omega)).trans c4;rcases e9.1.2 with⟨-,h0⟩ | ⟨sg,so,g6,fu,gr,gw,i4,eq,bb⟩
   .omega
   simp only[Value.slice.injEq] at fu;obtain⟨rfl,-,rfl⟩:=fu;have d7:w4.cell? ⟨sg,so+q*3+1,none⟩=some (strV s.type):=by
    rw[Nat.add_assoc];exact bb _ _ (Ak1 (l:=Ck.slots p.states) (i:=q) (s:=(s.name,s.type)) (by simp[Ck.slots,e6]))
   have di:=(Ak (HI.out.fm.block sg eq (by rintro (e | e) <;> omega))).trans d7;obtain⟨w5,cj⟩:∃w5,wr.alloc (.cells #[sE,sE,iv 0] 40)=w5:=⟨_,rfl⟩;obtain⟨w6,cd⟩:∃w6,((w5.setCell wr (strV s.name)).setCell ⟨wr,1,none⟩ (strV s.type)).setCell ⟨wr,2,none⟩ (iv s.place)=w6:=⟨_,rfl⟩;have d4:Below wr wr w5:=by rw[<-cj];exact (AF _ _).alloc (AD _) _
   have bt:w5.heap[wr.heap.size]?=some (.cells #[sE,sE,iv 0] 40 (0,0)):=by rw[<-cj];exact heap_new _ _
   have l5:wr<w5.heap.size:=(AB bt).1;have au:Below wr wr w6:=by rw[<-cd];exact ((d4.setCell (p:=⟨wr,0,none⟩) (AD _) _).setCell (p:=⟨wr,1,none⟩) (AD _) _).setCell (p:=⟨wr,2,none⟩) (AD _) _
   have bw:w6.heap[wr.heap.size]?=some (.cells #[strV s.name,strV s.type,iv s.place] 40 (0,0)):=by rw[<-cd];simp[World.setCell,Array.getElem?_modify,bt]
   have l6:wr<w6.heap.size:=(AB bw).1;obtain⟨y0,y1,y2,z0,z1,z2⟩:=Az bt;obtain⟨c7,co,c8,-⟩:=Az bw;have bq:Fm (λ j=>j=mb\/j=nb) w4 w6:=HI.out.fm.trans (Fm.of_below (X:=λ _=>False) au) (λ _ _ h=>h) (λ _ _ h=>h.elim);have a4:p.states.drop q=s :: p.states.drop (q+1):=by
    obtain⟨hi,rfl⟩:=AK e6;exact drop_eq_getElem_cons hi
   have bj:Hid (A=Ck.bind (Ck.need (decide (q<32)) s.place 36) λ _=>Ck.bind (Ck.note envr s.name s.place ⟨1,q,s.type⟩) λ e=>Ck.states e (q+1) (p.states.drop (q+1))):=by
    show _=_;rw[HI.out.ans,a4,Ck.states]
   have a5:=(au.block b (by omega)).trans ag;obtain⟨f5,-⟩:=bcell au;have p6:=(f5 sg (so+q*3+1) (by omega)).trans di;obtain⟨-,c6,-⟩:=Bc a5;have af:A9 w6.drew mb envr:=HI.out.env.since (au.block mb HI.out.env.lt);have bo:Sc w b cb nb nvr names w6.drew:=HI.out.sc.keep (λ j hj=>au.block j (by
    rcases hj with rfl | rfl | e
    .exact (AB HI.out.sc.cbk).1
    .exact (AB HI.out.sc.nbk).1
    .exact (HI.out.sc.own.lt e).2))
   have hf:=au.size;have a8:=Mf (w:=w6.drew) a5 af HI.out.eok bo (by show w<=w6.heap.size;omega) hm (by rw[HI.out.nl];omega) s.name s.place ⟨1,q,s.type⟩;have bu:=λ e=>Iy (env:=envr) (x:=s.name) (p:=s.place) (m:=⟨1,q,s.type⟩) (e:=e)
   generalize Ck.note envr s.name s.place ⟨1,q,s.type⟩=D at *;replace bu:=Bu bu;clear a0 a7 bb d7 di bt d4 bw a4 ag f5 a5 af bo;by_cases h32:q<32
   rotate_left
   .have cv:decide ((q:Int)<32)=false:=decide_eq_false (by omega);have hN:=Ap s.place 36 w6;have a3:=ab.out s.place 36 _ w6 bq (λ j _ e=>by rcases e with e | e;exact AJ e;omega) (by rw[e0.out,bj.out,decide_eq_false h32];rfl);clear a8 HI ab;go_wp2_with fail;refine hN.mono ?_;rintro e w7 ⟨rfl,rfl⟩;exact⟨rfl,a3⟩
   have cv:decide ((q:Int)<32)=true:=decide_eq_true (by omega);have hN:=Aw s.place 36 w6;have ci:Hid (A=Ck.bind D λ e=>Ck.states e (q+1) (p.states.drop (q+1))):=by
    show _=_;rw[bj.out,decide_eq_true h32];rfl
   clear bj;go_wp2_with fail;refine hN.mono ?_;rintro e w7 ⟨rfl,d5⟩;obtain rfl:=d5.symm;clear hN d5;go_wp2_with fail;refine Vv.wpE_begin (S:=λ w'=>w'.cell? wr=some (strV s.name)/\w'.cell? ⟨wr,2,none⟩=some (iv s.place)/\w'.cell? ⟨b,1,none⟩=some (sL sg so p.states.length c2)/\w'.cell? ⟨sg,so+q*3+1,none⟩=some (strV s.type)) (N:=λ j=>decide (j<16)) (by kernel_rfl) ?_;have a6:w6.drew.cell? wr=some (strV s.name)/\w6.drew.cell? ⟨wr,2,none⟩=some (iv s.place)/\w6.drew.cell? ⟨b,1,none⟩=some (sL sg so p.states.length c2)/\w6.drew.cell? ⟨sg,so+q*3+1,none⟩=some (strV s.type):=⟨c7,c8,c6,p6⟩;refine Aa 37 [16] 0 (.func (.func 112) #[] #[pt cb 0,pt nb 0]) a6 ?_;refine Aa 38 [2,16] 1 (pt wr 0) a6 ?_;refine Aa 39 [16] 2 (strV s.name) a6 ?_;refine Aa 40 [4,16] 3 (pt wr 2) a6 ?_;refine Aa 41 [16] 4 (iv s.place) a6 ?_;refine Aa 42 [15,16] 5 (iv q) a6 ?_;refine Aa 43 [7,8,9,10,12,13,14,15,16] 6 (pt b 0) a6 ?_;refine Aa 44 [8,9,10,12,13,14,15,16] 7 (pt b 0) a6 ?_;refine Aa 45 [9,10,12,13,14,15,16] 8 (pt b 0) a6 ?_;refine Aa 46 [10,12,13,14,15,16] 9 (pt b 1) a6 ?_;refine Aa 47 [12,13,14,15,16] 10 (sL sg so p.states.length c2) a6 ?_;refine Aa 48 [12,13,14,15,16] 11 (iv q) a6 ?_;refine Aa 49 [13,14,15,16] 12 (pt sg (so+q*3)) a6 ?_;refine Aa 50 [14,15,16] 13 (pt sg (so+q*3+1)) a6 ?_;refine Aa 51 [15,16] 14 (strV s.type) a6 ?_;refine Aa 52 [16] 15 (.agg #[iv 1,iv q,strV s.type]) a6 ?_
   refine Ah 16 λ K hK=>?_
   go_simp;refine a8.mono ?_;rintro e w8 hP;clear a8 a6;rcases D with env' | ⟨a,er⟩
   rotate_left
   .obtain⟨e7,cm⟩:=hP;obtain rfl:=e7;have a3:=ab.out a er (λ j=>j=mb\/j=nb) w8 (bq.trans (Fm.of_below (X:=λ _=>False) (⟨cm.os,cm.tape,cm.output,cm.size,cm.block⟩:Below w6 w6 w8)) (λ _ _ h=>h) (λ _ _ h=>h.elim)) (λ j _ e=>by rcases e with e | e;exact AJ e;omega) (by rw[e0.out,ci.out];rfl);exact⟨rfl,a3⟩
   obtain⟨rfl,c1,⟨bl,b5,az⟩,av⟩:=hP;have he:=bu.out _ rfl;refine hK _ _ (λ h=>by cases h) ?_;clear hK K
   try simp only[aP]
   refine Vv.wpE_done (by kernel_rfl) ?_;have bg:Hid (H1 w b mb cb nb w4 p.states A (q+1) env' bl (names ++ [s.name]) w8):=by
    have aj:=HI.out.nv;refine⟨c1,by rw[he];exact HI.out.eok.more _ _ (by show (1:Nat)≠0;decide),b5,by rw[length_append,HI.out.nl];rfl,λ j e=>?_,bq.trans (⟨av.os,av.tape,av.output,av.size,av.block⟩:Fm (λ j=>j=mb\/j=nb\/nvr.ownBlock=some j) w6 w8) (λ _ _ h=>h) (λ j hj e=>?_),by rw[ci.out];rfl⟩
    .rcases az j e with e | e
     .exact aj j e
     .have:w6.heap.size<=j:=e;omega
    .rcases e with e | e | e
     .exact AI e
     .exact AJ e
     .have:=aj j e;omega
   clear c1 b5 az av he bu ci HI bq c7 co c8 c6 p6 cd cj y0 y1 y2 z0 z1 z2 u0 u1 u2;simp only[Exit.inBlock,Exit.then];refine ‹∀(a:Act) (w:World),_->_› _ _ ?_;go_wp2_with fail;go_roundg (p.states.length - (q+1))
   case measure=>omega
   case rel=>exact⟨q+1,env',bl,_,by omega,rfl,by go_num,bg⟩
  .have bp:¬(q:Int)<(p.states.length:Int):=by omega
   have fj:q=p.states.length:=by omega
   have df:A=.inl envr:=by
    rw[HI.out.ans,drop_of_length_le (by omega)];rfl
   have cz:Hid (R=Ck.fns envr 0 p.fns):=by
    show _=_;rw[e0.out,df];rfl
   obtain⟨A2,bj⟩:∃A2:Ck.R Ck.Env,Hid (Ck.fns envr 0 p.fns=A2):=⟨_,rfl⟩;rw[bj.out] at cz;have ag:=(HI.out.fm.block b (by omega) (by rintro (e | e) <;> omega)).trans c4;have dj:Hid (H2 w b mb cb nb p.states.length v0 (.slice a2 p.states.length c2) lv0 num w4 p.fns A2 0 envr nvr sZ names wr):=⟨HI.out.env,HI.out.eok,HI.out.sc,by rw[HI.out.nl,fj];rfl,HI.out.nv,ag,Gf.nil _ _,HI.out.fm.mono (λ j _ e=>AJ e),by rw[drop_zero];exact bj.out.symm⟩;have fh:=(HI.out.fm.block _ gn (by rintro (e | e) <;> omega)).trans f6;obtain⟨d0,d1,d2,-⟩:=Az fh;have gk:w<wr.heap.size:=by omega
   clear HI df bj e0 fj ag fh;go_wp2_with fail;clear d0 d1 d2 gk;obtain⟨f8,ef⟩:∃f8,Hid (f8=wr):=⟨wr,rfl⟩;clear ef
   go_loopg [58] p.fns.length (λ gh ii wr=>∃q envr nvr names ar ax,q<=p.fns.length/\gh=p.fns.length - q/\ii=iv q/\Hid (H2 w b mb cb nb p.states.length v0 (.slice a2 p.states.length c2) lv0 num w4 p.fns A2 q envr nvr (.slice ar q ax) names wr))
   case atStart=>exact⟨0,envr,nvr,names,none,0,AO _,rfl,rfl,dj⟩
   case round=>
    clear dj hq hlt bp;obtain⟨q,envr,nvr,names,ar,ax,hq,rfl,rfl,HI⟩:=hrel;have db:=HI.out.fm.size;by_cases hlt:q<p.fns.length
    .have bp:(q:Int)<(p.fns.length:Int):=by omega
     have hn:(0:Int)<=(q:Int):=by omega
     obtain⟨f,dv⟩:∃f,p.fns[q]?=some f:=⟨_,AN hlt⟩;obtain⟨ga,oa,ca,pa,ba,pc,bc,ea,a7,b4,aa,b7⟩:=em.out q f dv;simp only[Value.slice.injEq] at ea;obtain⟨rfl,-,rfl⟩:=ea;obtain⟨g8,gc,g9,h7⟩:=f2.out f (mem_of_getElem? dv);have a0:∀j,j<w.heap.size->j≠b->j≠mb->wr.heap[j]?=w.heap[j]?:=λ j h1 h2 h3=>(HI.out.fm.block j (by omega) (by rintro (e | e | e) <;> omega)).trans (b3.block j h1 h2)
     have hc:=Ak (a0 ga b4 a7.2.1 a7.2.2) (o:=oa+q*7);have u0:wr.cell? ⟨ga,oa+q*7,none⟩=some (strV f.name):=(Ak (a0 ga b4 a7.2.1 a7.2.2)).trans (aa 0 _ rfl);have u1:=(Ak (a0 ga b4 a7.2.1 a7.2.2)).trans (aa 1 _ rfl);have u2:=(Ak (a0 ga b4 a7.2.1 a7.2.2)).trans (aa 2 _ rfl);have u3:=(Ak (a0 ga b4 a7.2.1 a7.2.2)).trans (aa 3 _ rfl);have u4:=(Ak (a0 ga b4 a7.2.1 a7.2.2)).trans (aa 4 _ rfl);have u5:=(Ak (a0 ga b4 a7.2.1 a7.2.2)).trans (aa 5 _ rfl);have u6:=(Ak (a0 ga b4 a7.2.1 a7.2.2)).trans (aa 6 _ rfl);have et:ga<wr:=by omega
     obtain⟨w5,cj⟩:∃w5,wr.alloc (.cells #[sE,.bool false,sZ,sE,sZ,sZ,iv 0] 36)=w5:=⟨_,rfl⟩;obtain⟨w6,cd⟩:∃w6,((((((w5.setCell wr (strV f.name)).setCell ⟨wr,1,none⟩ (.bool f.on)).setCell ⟨wr,2,none⟩ (.slice pa f.params.length pc)).setCell ⟨wr,3,none⟩ (strV f.result)).setCell ⟨wr,4,none⟩ sZ).setCell ⟨wr,5,none⟩ (.slice ba f.body.length bc)).setCell ⟨wr,6,none⟩ (iv f.place)=w6:=⟨_,rfl⟩;have d4:Below wr wr w5:=by rw[<-cj];exact (AF _ _).alloc (AD _) _
     have bt:w5.heap[wr.heap.size]?=some (.cells #[sE,.bool false,sZ,sE,sZ,sZ,iv 0] 36 (0,0)):=by rw[<-cj];exact heap_new _ _
     have l5:wr<w5.heap.size:=(AB bt).1;have au:Below wr wr w6:=by
      rw[<-cd];exact ((((((d4.setCell (p:=⟨wr,0,none⟩) (AD _) _).setCell (p:=⟨wr,1,none⟩) (AD _) _).setCell (p:=⟨wr,2,none⟩) (AD _) _).setCell (p:=⟨wr,3,none⟩) (AD _) _).setCell (p:=⟨wr,4,none⟩) (AD _) _).setCell (p:=⟨wr,5,none⟩) (AD _) _).setCell (p:=⟨wr,6,none⟩) (AD _) _
     have bw:w6.heap[wr.heap.size]?=some (.cells #[strV f.name,.bool f.on,.slice pa f.params.length pc,strV f.result,sZ,.slice ba f.body.length bc,iv f.place] 36 (0,0)):=by rw[<-cd];simp[World.setCell,Array.getElem?_modify,bt]
     have l6:wr<w6.heap.size:=(AB bw).1;obtain⟨y0,y1,y2,y3,y4,y5,y6,z0,z1,z2,z3,z4,z5,z6⟩:=Cd bt;obtain⟨c7,co,c8,dw,dy,ds,dz,-⟩:=Cd bw;have bq:Fm (λ j=>j=b\/j=mb\/j=nb) w4 w6:=HI.out.fm.trans (Fm.of_below (X:=λ _=>False) au) (λ _ _ h=>h) (λ _ _ h=>h.elim);have a4:p.fns.drop q=f :: p.fns.drop (q+1):=by
      obtain⟨hi,rfl⟩:=AK dv;exact drop_eq_getElem_cons hi
     have bj:Hid (A2=Ck.bind (Ck.need (decide (q<32)) f.place 36) λ _=>Ck.bind (Ck.note envr f.name f.place ⟨2,q,[]⟩) λ e=>Ck.bind (Ck.params 0 f.params) λ _=>Ck.fns e (q+1) (p.fns.drop (q+1))):=by
      show _=_;rw[HI.out.ans,a4,Ck.fns]
     have hf:=au.size;have a5:=(au.block b (by omega)).trans HI.out.blk;have af:A9 w6 mb envr:=HI.out.env.since (au.block mb HI.out.env.lt);have bo:Sc w b cb nb nvr names w6:=HI.out.sc.keep (λ j hj=>au.block j (by
      rcases hj with rfl | rfl | e
      .exact (AB HI.out.sc.cbk).1
      .exact (AB HI.out.sc.nbk).1
      .exact (HI.out.sc.own.lt e).2))
     have a8:=Mf (w:=w6) a5 af HI.out.eok bo (by omega) hm (by rw[HI.out.nl];omega) f.name f.place ⟨2,q,[]⟩;have bu:=λ e=>Iy (env:=envr) (x:=f.name) (p:=f.place) (m:=⟨2,q,[]⟩) (e:=e)
     generalize Ck.note envr f.name f.place ⟨2,q,[]⟩=D at *;replace bu:=Bu bu;replace b7:=Bu b7;replace aa:=Bu aa;replace a0:=Bu a0;clear bt d4 a4 af bo hc;by_cases h32:q<32
     rotate_left
     .have cv:decide ((q:Int)<32)=false:=decide_eq_false (by omega);have hN:=Ap f.place 36 w6;have a3:=ab.out f.place 36 _ w6 bq (λ j _ e=>by rcases e with e | e | e;exact AI e;exact AJ e;omega) (by rw[cz.out,bj.out,decide_eq_false h32];rfl);clear a8 HI ab a5 bw;go_wp2_with fail;refine hN.mono ?_;rintro e w7 ⟨rfl,rfl⟩;exact⟨rfl,a3⟩
     have cv:decide ((q:Int)<32)=true:=decide_eq_true (by omega);have hN:=Aw f.place 36 w6;have ci:Hid (A2=Ck.bind D λ e=>Ck.bind (Ck.params 0 f.params) λ _=>Ck.fns e (q+1) (p.fns.drop (q+1))):=by
      show _=_;rw[bj.out,decide_eq_true h32];rfl
     clear bj;go_wp2_with fail;refine hN.mono ?_;rintro e w7 ⟨rfl,d5⟩;obtain rfl:=d5.symm;clear hN d5 u0 u1 u2 u3 u4 u5 u6 y0 y1 y2 y3 y4 y5 y6 z0 z1 z2 z3 z4 z5 z6 cv;go_wp2_with fail;refine a8.mono ?_;rintro e w8 hP;clear a8 c7 co c8 dw dy ds dz;rcases D with env' | ⟨a,er⟩
     rotate_left
     .obtain⟨e7,cm⟩:=hP;obtain rfl:=e7;have a3:=ab.out a er (λ j=>j=b\/j=mb\/j=nb) w8 (bq.trans (Fm.of_below (X:=λ _=>False) cm) (λ _ _ h=>h) (λ _ _ h=>h.elim)) (λ j _ e=>by rcases e with e | e | e;exact AI e;exact AJ e;omega) (by rw[cz.out,ci.out];rfl);exact⟨rfl,a3⟩
     obtain⟨rfl,c1,⟨bl,b5,az⟩,av⟩:=hP;have he:=bu.out _ rfl;have hh:=av.size;have aj:=HI.out.nv;have cr:=(av.block wr l6 (by rintro (e | e | e);omega;omega;have:=(HI.out.sc.own.lt e).2;omega)).trans bw;have ai:=(av.block b (by omega) (by rintro (e | e | e);exact hbm e;omega;have:=aj _ e;omega)).trans a5;have ae:Fm (λ j=>j=b\/j=mb\/j=nb) w4 w8:=bq.trans av (λ _ _ h=>h) (λ j hj e=>by
      rcases e with e | e | e
      .exact AJ (AI e)
      .exact AJ (AJ e)
      .have:=aj j e;omega)
     have bh:∀j,bl.ownBlock=some j->w4.heap.size<=j:=λ j e=>by
      rcases az j e with e | e
      .exact aj j e
      .omega
     have ct:Gf (λ j=>w4.heap.size<=j/\bl.ownBlock≠some j) w8 (.slice ar q ax) ((p.fns.take q).map Ep):=by
      have h1:=HI.out.gf.base (P':=λ j=>(w4.heap.size<=j/\nvr.ownBlock≠some j)/\j<wr.heap.size) (λ j h1 h2=>⟨h1,h2⟩);have h2:=(h1.below au).since (w':=w8) ⟨av.size,λ j hj hl=>av.block j hl (by rintro (e | e | e);omega;omega;exact hj.1.2 e)⟩;exact h2.base (λ j hj _=>⟨hj.1.1,λ e=>by
       rcases az j e with e | e
       .exact hj.1.2 e
       .omega⟩)
     have f0:D0 env':=by rw[he];exact HI.out.eok.more _ _ (by show (2:Nat)≠0;decide)
     have ex:(names ++ [f.name]).length=p.states.length+(q+1):=by rw[length_append,HI.out.nl];simp;omega
     have eb:(Value.slice ar q ax).ownBlock≠some wr.heap.size:=HI.out.gf.apart (AD _);obtain⟨B2,HB⟩:∃B2:Ck.R Unit,Hid (Ck.params 0 f.params=B2):=⟨_,rfl⟩;have e5:Hid (A2=Ck.bind B2 λ _=>Ck.fns env' (q+1) (p.fns.drop (q+1))):=by
      show _=_;rw[ci.out,HB.out];rfl
     have g4:Hid (Below w8 w8 w8/\B2=Ck.params 0 (f.params.drop 0)):=⟨AF _ _,by rw[drop_zero];exact HB.out.symm⟩;obtain⟨d0,d1,d2,-⟩:=Cd cr;have gb:wr<w8.heap.size:=by omega
     have cl:b<w8:=by omega
     clear HI ci HB bu he av az aj au a5 bw bq cj cd;go_wp2_with fail;clear d0 d1 d2;obtain⟨wo,hr⟩:∃wo,wo=wr:=⟨_,rfl⟩;subst hr
     go_loopg [79] f.params.length (λ gh ii wz=>∃jj,jj<=f.params.length/\gh=f.params.length - jj/\ii=iv jj/\Hid (Below w8 w8 wz/\B2=Ck.params jj (f.params.drop jj)))
     case atStart=>exact⟨0,AO _,rfl,rfl,g4⟩
     case round=>
      clear g4;obtain⟨jj,hz,rfl,rfl,HK⟩:=hrel;obtain⟨wz,ho⟩:∃wz,wz=wr:=⟨_,rfl⟩;subst ho;obtain⟨c0,cu⟩:=HK.out;have d6:=c0.size;replace cu:=Bu cu;by_cases hlt3:jj<f.params.length
      .have de:(jj:Int)<(f.params.length:Int):=by omega
       have gu:(0:Int)<=(jj:Int):=by omega
       obtain⟨s,fv⟩:∃s,f.params[jj]?=some s:=⟨_,AN hlt3⟩;obtain⟨ps,bs,dk,d3,-⟩:=b7.out;simp only[List.cons.injEq,and_true,true_and] at dk;obtain⟨rfl,rfl⟩:=dk;obtain⟨g3,o3,c3,e3,bi,fp,u0,u1,u2⟩:=Kr d3 fv;simp only[Value.slice.injEq] at e3;obtain⟨rfl,-,rfl⟩:=e3;have h6:wo.heap[g3]?=w.heap[g3]?:=a0.out g3 fp bi.2.1 bi.2.2;have f4:w8.heap[g3]?=w.heap[g3]?:=(ae.block g3 (by omega) (by rintro (e | e | e);exact bi.2.1 e;exact bi.2.2 e;omega)).trans (b3.block g3 fp bi.2.1);have dx:=(c0.block g3 (by omega)).trans f4;replace u0:=(Ak dx).trans u0;replace u1:=(Ak dx).trans u1;replace u2:=(Ak dx).trans u2;have h5:g3<wz:=by omega
       obtain⟨w9,ff⟩:∃w9,wz.alloc (.cells #[sE,sE,iv 0] 40)=w9:=⟨_,rfl⟩;obtain⟨w10,da⟩:∃w10,((w9.setCell wz (strV s.name)).setCell ⟨wz,1,none⟩ (strV s.type)).setCell ⟨wz,2,none⟩ (iv s.place)=w10:=⟨_,rfl⟩;have fq:Below wz wz w9:=by rw[<-ff];exact (AF _ _).alloc (AD _) _
       have du:w9.heap[wz.heap.size]?=some (.cells #[sE,sE,iv 0] 40 (0,0)):=by rw[<-ff];exact heap_new _ _
       have l9:wz<w9.heap.size:=(AB du).1;have b0:Below wz wz w10:=by rw[<-da];exact ((fq.setCell (p:=⟨wz,0,none⟩) (AD _) _).setCell (p:=⟨wz,1,none⟩) (AD _) _).setCell (p:=⟨wz,2,none⟩) (AD _) _
       have ay:w10.heap[wz.heap.size]?=some (.cells #[strV s.name,strV s.type,iv s.place] 40 (0,0)):=by rw[<-da];simp[World.setCell,Array.getElem?_modify,du]
       have hv:wz<w10.heap.size:=(AB ay).1;obtain⟨y0,y1,y2,z0,z1,z2⟩:=Az du;obtain⟨c7,co,c8,-⟩:=Az ay;have a4:f.params.drop jj=s :: f.params.drop (jj+1):=by
        obtain⟨hi,rfl⟩:=AK fv;exact drop_eq_getElem_cons hi
       have ez:Hid (B2=Ck.bind (Ck.need (decide (jj<8)) s.place 36) λ _=>Ck.params (jj+1) (f.params.drop (jj+1))):=by
        show _=_;rw[cu.out,a4,Ck.params]
       have aw:Below w8 w8 w10:=c0.trans (b0.mono d6);clear a4 du ay fq dx f4 h6 cu HK d3;by_cases h8:jj<8
       rotate_left
       .have cv:decide ((jj:Int)<8)=false:=decide_eq_false (by omega);have hN:=Ap s.place 36 w10;have a3:=ab.out s.place 36 (λ j=>j=b\/j=mb\/j=nb) w10 (ae.trans (Fm.of_below (X:=λ _=>False) aw) (λ _ _ h=>h) (λ _ _ h=>h.elim)) (λ j _ e=>by rcases e with e | e | e;exact AI e;exact AJ e;omega) (by rw[cz.out,e5.out,ez.out,decide_eq_false h8];rfl);clear ab ct b5 c1 ai cr aw b0 ae;go_wp2_with fail;refine hN.mono ?_;rintro e w7 ⟨rfl,rfl⟩;exact⟨rfl,a3⟩
       have cv:decide ((jj:Int)<8)=true:=decide_eq_true (by omega);have hN:=Aw s.place 36 w10;have bg:Hid (Below w8 w8 w10/\B2=Ck.params (jj+1) (f.params.drop (jj+1))):=⟨aw,by rw[ez.out,decide_eq_true h8];rfl⟩;clear ez aw b0;replace ct:=Bu ct;replace b5:=Bu b5;replace c1:=Bu c1;replace ai:=Bu ai;replace cr:=Bu cr;replace ae:=Bu ae;go_wp2_with fail;refine hN.mono ?_;rintro e w11 ⟨rfl,d9⟩;obtain rfl:=d9.symm;clear hN d9;go_wp2_with fail;go_roundg (f.params.length - (jj+1))
       case measure=>omega
       case rel=>exact⟨jj+1,by omega,rfl,by go_num,bg⟩
      .have de:¬(jj:Int)<(f.params.length:Int):=by omega
       have df:Hid (A2=Ck.fns env' (q+1) (p.fns.drop (q+1))):=by
        show _=_;rw[e5.out,cu.out,drop_of_length_le (by omega)];rfl
       clear e5 cu HK;obtain⟨ps,bs,dk,d3,-⟩:=b7.out;simp only[List.cons.injEq,and_true,true_and] at dk;obtain⟨rfl,rfl⟩:=dk;have dm:Since (λ j=>j<w.heap.size/\j≠b/\j≠mb) w w8:=⟨by omega,λ j h1 h2=>(ae.block j (by omega) (by rintro (e | e | e);exact h1.2.1 e;exact h1.2.2 e;omega)).trans (b3.block j h2 h1.2.1)⟩;have dh:=SlRow.since d3 dm;have e4:=λ w' (hb:Below wz wz w')=>Ak0 (f:=f) (ba:=ba) (bn:=f.body.length) (bc:=bc) (w:=w') (SlRow.since (SlRow.since dh (Since.of_below c0)) (Since.of_below hb)) g9 h7 g8 gc
       replace e4:=Bu e4;have fb:=(c0.block _ gb).trans cr;have b8:=(c0.block b cl).trans ai;obtain⟨c7,co,c8,dw,dy,ds,dz,-⟩:=Cd fb;obtain⟨-,-,fk,-⟩:=Bc b8;have ee:wo<wz.heap.size:=by omega
       have el:b<wz:=by omega
       have g5:w4<=wz.heap.size:=by omega
       clear d3 dh dm cr ai;go_wp2_with fail;have hS:∀w':World,w'.heap[wo.heap.size]?=wz.heap[wo.heap.size]?->w'.heap[b]?=wz.heap[b]?->(w'.cell? wo=some (strV f.name)/\w'.cell? ⟨wo,1,none⟩=some (.bool f.on)/\w'.cell? ⟨wo,2,none⟩=some (.slice pa f.params.length pc)/\w'.cell? ⟨wo,3,none⟩=some (strV f.result)/\w'.cell? ⟨wo,4,none⟩=some sZ/\w'.cell? ⟨wo,5,none⟩=some (.slice ba f.body.length bc)/\w'.cell? ⟨wo,6,none⟩=some (iv f.place)/\w'.cell? ⟨b,2,none⟩=some (.slice ar q ax)):=λ w' h1 h2=>⟨(Ak h1).trans c7,(Ak h1).trans co,(Ak h1).trans c8,(Ak h1).trans dw,(Ak h1).trans dy,(Ak h1).trans ds,(Ak h1).trans dz,(Ak h2).trans fk⟩
       replace hS:=Bu hS;refine Vv.wpE_begin (S:=λ w'=>w'.cell? wo=some (strV f.name)/\w'.cell? ⟨wo,1,none⟩=some (.bool f.on)/\w'.cell? ⟨wo,2,none⟩=some (.slice pa f.params.length pc)/\w'.cell? ⟨wo,3,none⟩=some (strV f.result)/\w'.cell? ⟨wo,4,none⟩=some sZ/\w'.cell? ⟨wo,5,none⟩=some (.slice ba f.body.length bc)/\w'.cell? ⟨wo,6,none⟩=some (iv f.place)/\w'.cell? ⟨b,2,none⟩=some (.slice ar q ax)) (N:=λ j=>decide (j<10)) (by kernel_rfl) ?_;have fd:Below wz wz wz.drew:=(AF _ _).drew;have a6:=hS.out wz.drew rfl rfl;have eo:wz<=wz.drew.heap.size:=AD _;generalize wz.drew=wd at *;clear c7 co c8 dw dy ds dz fk;refine Aa 90 [10,11,12,13] 0 (pt b 0) a6 ?_;refine Aa 91 [2,3,4,5,9,10,11,12,13] 1 (pt b 0) a6 ?_;refine Aa 92 [3,4,5,9,10,11,12,13] 2 (pt b 0) a6 ?_;refine Aa 93 [4,5,9,10,11,12,13] 3 (pt b 0) a6 ?_;refine Aa 94 [5,9,10,11,12,13] 4 (pt b 2) a6 ?_;refine Aa 95 [9,10,11,12,13] 5 (.slice ar q ax) a6 ?_;refine Aa 96 [7,8,9,10,11,12,13] 6 (.agg #[strV f.name,.bool f.on,.slice pa f.params.length pc,strV f.result,sZ,.slice ba f.body.length bc,iv f.place]) a6 ?_;refine Ah 7 λ K hK=>?_
       go_simp;refine (e4.out wd fd).mono ?_;rintro e wa ⟨a9,c9,rfl,ec,dl⟩;have cw:Below wz wz wa:=fd.trans (dl.mono eo);refine hK _ _ (λ _=>hS.out wa (cw.block _ ee) (cw.block _ el)) ?_;clear hK K e4
       try simp only[aP]
       obtain⟨wb,ei⟩:∃wb,wa.alloc (.cells #[strV f.name,.bool f.on,.slice a9 f.params.length c9,strV f.result,sZ,sZ,iv 0] 36)=wb:=⟨_,rfl⟩;have cg:Below wa wa wb:=by rw[<-ei];exact (AF _ _).alloc (AD _) _
       have bx:wb.heap[wa.heap.size]?=some (.cells #[strV f.name,.bool f.on,.slice a9 f.params.length c9,strV f.result,sZ,sZ,iv 0] 36 (0,0)):=by rw[<-ei];exact heap_new _ _
       have ce:Below wz wz wb:=cw.trans (cg.mono cw.size);refine Ah 8 λ K hK=>?_
       go_simp
       try rw[ei]
       refine hK _ _ (λ _=>hS.out wb (ce.block _ ee) (ce.block _ el)) ?_;clear hK K
       try simp only[aP]
       have ht:=cw.size;have gz:=ce.size;have ak:Below w8 w8 wb:=c0.trans (ce.mono d6);have f3:Gf (λ j=>w4.heap.size<=j/\bl.ownBlock≠some j) wb (.slice ar q ax) ((p.fns.take q).map Ep):=ct.below ak;have cq:∀j,bl.ownBlock=some j->j<w8.heap.size:=λ j e=>(b5.own.lt e).2
       have fy:((p.fns.take q).map Ep).length=q:=by simp;omega
       have ft:Cls wd wb (.slice a9 f.params.length c9) (Ck.slots f.params):=ec.since (λ j e=>cg.block j (ec.lt e).2);have fg:E3 (λ j=>(w4.heap.size<=j/\bl.ownBlock≠some j)/\(Value.slice ar q ax).ownBlock≠some j) wb (Ep f) [strV f.name,.bool f.on,.slice a9 f.params.length c9,strV f.result,sZ,sZ,iv 0]:=Aq7 (by
        have h1:(Ck.slots f.params).length=f.params.length:=by simp[Ck.slots]
        exact Cq.base' ft.row (λ j hj _=>by
         have hj:wd.heap.size<=j:=hj;refine⟨⟨by omega,λ e=>by have:=cq j e;omega⟩,λ e=>?_⟩;exact ct.apart (by omega) e))
       obtain⟨ey,eg,w10,cp,br,b0,dd,eu,dq⟩:=f3.push (ad:=⟨wa,0,none⟩) (cs:=[strV f.name,.bool f.on,.slice a9 f.params.length c9,strV f.result,sZ,sZ,iv 0]) (λ j u hj=>by
        have h1:wb.cell? ⟨wa,j,none⟩=some u:=by rw[Be bx,List.getElem?_toArray];exact hj
        by_cases h0:j=0
        .subst h0;simpa [Addr.add] using h1
        .simpa [Addr.add,h0] using h1) fg (by rw[fy];omega) (λ j hj=>⟨by omega,λ e=>by have:=cq j e;omega⟩) 1 24
       rw[fy] at cp br;have f9:(p.fns.take q).map Ep ++ [Ep f]=(p.fns.take (q+1)).map Ep:=by rw[take_add_one,dv,map_append];rfl
       rw[f9] at br;have b9:∀j,(Value.slice ar q ax).ownBlock=some j->w4.heap.size<=j/\bl.ownBlock≠some j/\j<wb.heap.size:=λ j e=>by
        obtain⟨eh,h1,h0,-⟩:=f3;have:=World.ownsRow.lt h1 j e;exact⟨(h0 j e).1,(h0 j e).2,this.2⟩
       have aq:∀j,j<wb.heap.size->(Value.slice ar q ax).ownBlock≠some j->w10.heap[j]?=wb.heap[j]?:=dd;have ay:w10.heap[wo.heap.size]?=wz.heap[wo.heap.size]?:=(aq _ (by omega) eb).trans (ce.block _ ee);have bf:w10.heap[b]?=wz.heap[b]?:=(aq b (by omega) (λ e=>by have:=(b9 b e).1;omega)).trans (ce.block _ el);have al:=bf.trans b8;obtain⟨w11,dc⟩:∃w11,w10.setCell ⟨b,2,none⟩ (sL ey 0 (q+1) eg)=w11:=⟨_,rfl⟩;have ah:Fm (λ j=>j=b) w10 w11:=by rw[<-dc];exact Fm.set (X:=λ j=>j=b) rfl 2 _
       have bg:Hid (H2 w b mb cb nb p.states.length v0 (.slice a2 p.states.length c2) lv0 num w4 p.fns A2 (q+1) env' bl (sL ey 0 (q+1) eg) (names ++ [f.name]) w11):=by
        have bk:∀j,j<w8.heap.size->j≠b->(Value.slice ar q ax).ownBlock≠some j->w11.heap[j]?=w8.heap[j]?:=λ j h1 h2 h3=>(ah.block j (by omega) h2).trans ((aq j (by omega) h3).trans (ak.block j h1))
        have e8:mb<w8:=by omega
        have cf:=b0 0 (AO _) (λ _ _=>AO _);have h4:Fm (λ j=>j=b\/(Value.slice ar q ax).ownBlock=some j) w8 w11:=⟨(ah.os.trans cf.os).trans ak.os,(ah.tape.trans cf.tape).trans ak.tape,(ah.output.trans cf.output).trans ak.output,AP ak.size (AP eu ah.size),λ j h1 h2=>bk j h1 (λ e=>h2 (AI e)) (λ e=>h2 (AJ e))⟩;refine⟨c1.since (bk mb e8 (by omega) (λ e=>by have:=(b9 mb e).1;omega)),f0,b5.keep (λ j hj=>?_),ex,bh,?_,?_,ae.trans h4 (λ _ _ h=>h) (λ j hj e=>?_),df.out⟩
        .have gi:j<w8.heap.size:=by
          rcases hj with rfl | rfl | e
          .exact (AB b5.cbk).1
          .exact (AB b5.nbk).1
          .exact (b5.own.lt e).2
         refine bk j gi ?_ (λ e=>?_)
         .rintro rfl;rcases hj with e | e | e
          .omega
          .omega
          .have:=bh _ e;omega
         .have h9:=b9 j e;rcases hj with rfl | rfl | e2
          .omega
          .omega
          .exact h9.2.1 e2
        .rw[<-dc];simp[World.setCell,Array.getElem?_modify,al]
        .exact br.since ⟨ah.size,λ j hj hl=>ah.block j hl (by have:=hj.1;omega)⟩
        .rcases e with e | e
         .exact AI e
         .have:=(b9 j e).1;omega
       obtain⟨-,-,hw,-,-,-,-,-,i0,-⟩:=Bc al;have gg:b<w10:=by omega
       have dn:=hS.out w10 ay bf;clear br f3 fg ft ec b9 aq dd b0 dq bx ce cg cw dl ak ct b5 c1 ae hS ay bf al ah f9 df bh cq b8 fb c0 b7 aa a0;refine Ah 9 λ K hK=>?_
       refine Cl _ _ 24 rfl _ _ rfl rfl _ _ cp ?_;refine hK _ _ (λ _=>dn) ?_;clear hK K dn cp
       try simp only[aP]
       refine Ah 10 λ K hK=>?_
       go_simp;refine hK _ _ (λ h=>by cases h) ?_;clear hK K
       try simp only[aP]
       refine Ah 11 λ K hK=>?_
       go_simp;refine hK _ _ (λ h=>by cases h) ?_;clear hK K
       try simp only[aP]
       refine Ah 12 λ K hK=>?_
       go_simp;refine hK _ _ (λ h=>by cases h) ?_;clear hK K
       try simp only[aP]
       refine Ah 13 λ K hK=>?_
       go_simp;refine hK _ _ (λ h=>by cases h) ?_;clear hK K
       try simp only[aP]
       refine Vv.wpE_done (by kernel_rfl) ?_;simp only[Exit.inBlock,Exit.then];refine ‹∀(a:Act) (w:World),_->_› _ _ ?_;go_wp2_with fail;go_roundg (p.fns.length - (q+1))
       case measure=>omega
       case rel=>exact⟨q+1,env',bl,_,some ⟨ey,0,none⟩,eg,by omega,rfl,by go_num,bg⟩
    .have bp:¬(q:Int)<(p.fns.length:Int):=by omega
     have a3:Vh b mb v0 lv0 num p w R (.returned (.tuple #[])) wr:=by
      have hR:R=.inl envr:=by
       rw[cz.out,HI.out.ans,drop_of_length_le (by omega)];rfl
      have hk:∀j,(Value.slice ar q ax).ownBlock=some j->w4.heap.size<=j:=λ j e=>by
       obtain⟨eh,-,h0,-⟩:=HI.out.gf;exact (h0 j e).1
      have hg:=HI.out.gf;rw[take_of_length_le (by omega)] at hg;rw[hR];have ej:Cq (λ j=>w3.heap.size<=j/\j<w4.heap.size) wr 3 (.slice a2 p.states.length c2) p.states.length ((Ck.slots p.states).flatMap A1):=e9.since ⟨db,λ j hj hl=>HI.out.fm.block j hl (by rintro (e | e | e) <;> omega)⟩;refine⟨rfl,_,_,HI.out.blk,HI.out.env,?_,hg.base (λ j hj _=>by have:=hj.1;show w.heap.size<=j;omega),b3.trans HI.out.fm (λ j _ e=>AI e) (λ j hj e=>by
       rcases e with e | e | e
       .exact AI e
       .exact AJ e
       .omega)⟩
      show Cq _ _ 3 _ (Ck.slots p.states).length _;rw[fx];exact ej.base' (λ j hj _=>⟨by show w.heap.size<=j;omega,λ e=>by have:=hk j e;omega⟩)
     clear HI;go_wp2_with fail;exact bodyPost_end (results_none rfl _ _ _) rfl a3
structure PrSh(p:Px.Pr):Prop where
 l1:p.states.length<=40000
 l2:p.fns.length<=40000
 n1:∀s∈p.states,s.name.length<=1000/\s.type.length<=1000
 n2:∀f∈p.fns,f.name.length<=1000/\f.result.length<=1000/\f.params.length<=100000/\∀s∈f.params,s.name.length<=1000/\s.type.length<=1000
 sh:∀f∈p.fns,H0 f.body/\M3 f.body/\f.body.length<=1000000
theorem Mj:∀(l:List Px.Sl) (env e:Ck.Env) (i:Nat),(∀s∈l,s.type.length<=1000)->D0 env->(∀x∈env,x.2.type.length<=1000)->Ck.states env i l=.inl e->D0 e/\∀x∈e,x.2.type.length<=1000
 | [],env,e,i,_,h1,h2,h=>by cases h;exact⟨h1,h2⟩
 | s :: r,env,e,i,ht,h1,h2,h=>by
  rw[Ck.states] at h;obtain⟨_,-,h⟩:=Ao h;obtain⟨e1,a2,h⟩:=Ao h;have:=Iy a2;subst this;refine Mj r _ e (i+1) (λ x hx=>ht x (AH _ hx)) (h1.more _ _ (by show (1:Nat)≠0;decide)) (λ x hx=>?_) h;rcases mem_append.1 hx with hx | hx
  .exact h2 x hx
  .simp at hx;subst hx;exact ht s (AC ..)
theorem Xh:∀(l:List Px.Fn) (env e:Ck.Env) (i:Nat),D0 env->(∀x∈env,x.2.type.length<=1000)->Ck.fns env i l=.inl e->D0 e/\∀x∈e,x.2.type.length<=1000
 | [],env,e,i,h1,h2,h=>by cases h;exact⟨h1,h2⟩
 | f :: r,env,e,i,h1,h2,h=>by
  rw[Ck.fns] at h;obtain⟨_,-,h⟩:=Ao h;obtain⟨e1,a2,h⟩:=Ao h;obtain⟨_,-,h⟩:=Ao h;have:=Iy a2;subst this;refine Xh r _ e (i+1) (h1.more _ _ (by show (2:Nat)≠0;decide)) (λ x hx=>?_) h;rcases mem_append.1 hx with hx | hx
  .exact h2 x hx
  .simp at hx;subst hx;simp
theorem Ak2{hs:List Ck.Hd}{env:Ck.Env}{f:Px.Fn}{x:CF}(h:Ck.fn hs env i f=.inl x):x.name=f.name/\x.on=f.on/\x.params=Ck.slots f.params/\x.result=f.result:=by
 obtain⟨_,-,h⟩:=Ao h;obtain⟨_,-,h⟩:=Ao h;cases h;exact⟨rfl,rfl,rfl,rfl⟩
theorem Ak3(f:Px.Fn):Ix (Ep f)=Ck.hd f:=by
 unfold Ix Ep Ck.hd Ck.slots;simp only[map_map];rfl
theorem Ay1{hs:List Ck.Hd}{env:Ck.Env}{f:Px.Fn}{x:CF}(h:Ck.fn hs env i f=.inl x):Ix x=Ck.hd f:=by
 obtain⟨h1,h2,h3,h4⟩:=Ak2 h;rw[<-Ak3];unfold Ix Ep;rw[h2,h3,h4]
theorem Di.put{B:AS}{cur:Array Value}{l:List CF}{f:Px.Fn}{x:CF}{lv bv:Value}(h:Di B w cur l)(s:Since B w w')(hi:l[i]?=some (Ep f))(hx:x.name=f.name/\x.on=f.on/\x.params=Ck.slots f.params/\x.result=f.result)(ht:Hi B w' x.locals lv)(hb:Ew B w' x.body bv):Di B w' ((cur.setIfInBounds (i*7+5) bv).setIfInBounds (i*7+4) lv) (l.set i x):=by
 have hl:=(AK hi).1;have a0:=h.1;refine⟨by simpa using h.1,λ j y hj=>?_⟩;by_cases e:i=j
 .subst e;rw[List.getElem?_set_self hl] at hj;cases hj;obtain⟨cs,⟨ps,ls,bs,rfl,m1,-,-⟩,k2⟩:=h.2 i _ hi;refine⟨[strV x.name,.bool x.on,ps,strV x.result,lv,bv,iv 0],⟨ps,lv,bv,rfl,by rw[hx.2.2.1];exact Cq.since m1 s,ht,hb⟩,λ j hj=>?_⟩;obtain⟨x1,x2,x3,x4⟩:=hx;have hk:=k2 j hj
  match j,hj with
  | 0,_=>rw[Array.getElem?_setIfInBounds_ne (by omega),Array.getElem?_setIfInBounds_ne (by omega),hk,x1];rfl
  | 1,_=>rw[Array.getElem?_setIfInBounds_ne (by omega),Array.getElem?_setIfInBounds_ne (by omega),hk,x2];rfl
  | 2,_=>rw[Array.getElem?_setIfInBounds_ne (by omega),Array.getElem?_setIfInBounds_ne (by omega),hk];rfl
  | 3,_=>rw[Array.getElem?_setIfInBounds_ne (by omega),Array.getElem?_setIfInBounds_ne (by omega),hk,x4];rfl
  | 4,_=>rw[Array.getElem?_setIfInBounds_self_of_lt (by simp;omega)];rfl
  | 5,_=>rw[Array.getElem?_setIfInBounds_ne (by omega),Array.getElem?_setIfInBounds_self_of_lt (by omega)];rfl
  | 6,_=>rw[Array.getElem?_setIfInBounds_ne (by omega),Array.getElem?_setIfInBounds_ne (by omega),hk];rfl
 .rw[List.getElem?_set_ne e] at hj;obtain⟨cs,k1,k2⟩:=h.2 j y hj;refine⟨cs,k1.since s,λ m hm=>?_⟩;rw[Array.getElem?_setIfInBounds_ne (by omega),Array.getElem?_setIfInBounds_ne (by omega),k2 m hm]
theorem Mk{B:AS}{l:List Px.Fn}(h:F6 B w l v)(hb:∀k,B k->B' k):F6 B' w l v:=by
 obtain⟨row,h1,h2⟩:=h;refine⟨row,h1.base hb,?_⟩;clear h1;induction l generalizing row with
 | nil=>exact h2
 | cons f r ih=>
  obtain⟨c1,c2,hc,⟨ps,bs,e1,e2,row2,e3,e4⟩,h3⟩:=h2;exact⟨c1,c2,hc,⟨ps,bs,e1,SlRow.base e2 hb,row2,e3.base hb,e4.base hb⟩,ih c2 h3⟩
structure PI(b mb gf nf fc base:Nat)(V:Int)(ss:Value)(env0:Ck.Env)(hs:List Ck.Hd)(w5:World)(fl:List Px.Fn)(A:Ck.R (List CF))(q num:Nat)(acc:List CF)(lv:Value)(cur:Array Value)(wr:World):Prop where
 blk:wr.heap[b]?=some (.cells #[iv V,ss,sL gf 0 nf fc,.map (some mb),iv num,lv] 62 (0,0))
 env:A9 wr mb env0
 row:wr.heap[gf]?=some (.cells cur 36 (0,0))
 fns:Di (λ j=>base<=j/\j≠gf) wr cur (acc ++ (fl.drop q).map Ep)
 len:acc.length=q
 hd:acc.map Ix=(fl.take q).map Ck.hd
 fm:Fm (S5 b mb gf) w5 wr
 ans:A=Ck.bind (Ck.bodies hs env0 q (fl.drop q)) λ xs=>.inl (acc ++ xs)
def H4(b mb:Nat)(V:Int)(w:World)(r:Ck.R CP)(e:Ending)(w':World):Prop:=
 match r with
 | .inl c=>e=.returned (.tuple #[])/\∃ss fs num lv,w'.heap[b]?=some (.cells #[iv V,ss,fs,.map (some mb),iv num,lv] 62 (0,0))/\B7 (From w) w' c.states ss/\Ah8 (From w) w' c.fns fs/\(c.version:Int)=V/\Fm (λ j=>j=b\/j=mb) w w'
 | .inr (a,er)=>e=.panicked (Ag a er)/\Fm (λ j=>j=b\/j=mb) w w'
theorem Qk{p:Px.Pr}{V:Int}(hV:Hid ((p.version:Int)=V)){sa fa:Option Addr}{sc fc:Nat}
  (hblk:w.heap[b]?=some (.cells #[iv 0,sZ,sZ,.map (some mb),iv 0,sZ] 62 (0,0))) (henv:A9 w mb []) (hbm:b≠mb)
  (hst:Et (λ j=>j<w.heap.size/\j≠b/\j≠mb) w p.states (.slice sa p.states.length sc)) (hfn:F6 (λ j=>j<w.heap.size/\j≠b/\j≠mb) w p.fns (.slice fa p.fns.length fc))
  (hw:Px.WfP VW p) (hc:(Px.prT p).length<=4096) (he:Env8 w) (hsh:PrSh p) :
  AA 24 #[pt b 0,.agg #[iv V,.slice sa p.states.length sc,.slice fa p.fns.length fc]] w λ e w'=>H4 b mb V w (Ck.check p) e w':=by
 have hb:b<w:=(AB hblk).1;have hm:mb<w:=henv.lt;obtain⟨R,HR⟩:∃R:Ck.R CP,Hid (Ck.check p=R):=⟨_,rfl⟩;rw[HR.out];obtain⟨w0,dd⟩:∃w0,w.alloc (.cells #[iv V,.slice sa p.states.length sc,.slice fa p.fns.length fc] 26)=w0:=⟨_,rfl⟩;have b7:Below w w w0:=by rw[<-dd];exact (AF _ _).alloc (AD _) _
 have c3:w0.heap[w.heap.size]?=some (.cells #[iv V,.slice sa p.states.length sc,.slice fa p.fns.length fc] 26 (0,0)):=by rw[<-dd];exact heap_new _ _
 have l0:w.heap.size<w0.heap.size:=(AB c3).1;have aw:=Yp (v:=.agg #[iv V,.slice sa p.states.length sc,.slice fa p.fns.length fc]) hw hc (he.below b7) (⟨_,_,by rw[hV.out],SlRow.since hst (Since.of_below b7),(by
  obtain⟨row,h1,h2⟩:=hfn;exact⟨row,h1.since (Since.of_below b7),h2.since (Since.of_below b7)⟩)⟩:Ez (λ j=>j<w.heap.size/\j≠b/\j≠mb) w0 p _)
 have cz:(((shT p).2:Int) != 11)=true:=by unfold shT;split <;> rfl
 generalize (shT p).2=er0 at *;generalize (shT p).1=tx0 at *;obtain⟨d0,d1,d2,-⟩:=Az c3;clear hw hc he;go_enter func24,ntmps24;go_wp2_with fail;refine aw.mono ?_;rintro e w1 ⟨rfl,cc⟩;clear aw d0 d1 d2;have c1:Below w w w1:=b7.trans (cc.mono b7.size);have e5:=cc.size;have cv:=(cc.block _ l0).trans c3;obtain⟨d0,d1,d2,-⟩:=Az cv;have dt:w<w1.heap.size:=by omega
 have hN:=Aw 0 11 w1;go_wp2_with fail;refine hN.mono ?_;rintro e w2 ⟨rfl,bi⟩;obtain rfl:=bi.symm;clear hN bi cz cc b7 c3;by_cases hv1:(1:Int)<=V
 rotate_left
 .have br:decide ((1:Int)<=V)=false:=decide_eq_false hv1;have hN:=Ap 0 61 w1;have a0:H4 b mb V w R (.panicked (Ag 0 61)) w1:=by
   have:R=.inr (0,61):=by
    rw[<-HR.out];unfold Ck.check;have h1:decide (1<=p.version)=false:=decide_eq_false (by have:=hV.out;omega);rw[h1];rfl
   rw[this];exact⟨rfl,BD c1⟩
  go_wp2_with fail
  refine hN.mono ?_;rintro e w7 ⟨rfl,rfl⟩;exact⟨rfl,a0⟩
 have br:decide ((1:Int)<=V)=true:=decide_eq_true hv1;by_cases hv2:V<=1099511627776
 rotate_left
 .have bw:decide (V<=1099511627776)=false:=decide_eq_false hv2;have hN:=Ap 0 61 w1;have a0:H4 b mb V w R (.panicked (Ag 0 61)) w1:=by
   have:R=.inr (0,61):=by
    rw[<-HR.out];unfold Ck.check;have h1:decide (p.version<=1099511627776)=false:=decide_eq_false (by have:=hV.out;omega);rw[h1,Bool.and_false];rfl
   rw[this];exact⟨rfl,BD c1⟩
  go_wp2_with fail
  refine hN.mono ?_;rintro e w7 ⟨rfl,rfl⟩;exact⟨rfl,a0⟩
 have bw:decide (V<=1099511627776)=true:=decide_eq_true hv2;have hN:=Aw 0 61 w1;have cj:Hid (R=Ck.bind (Ck.bind (Ck.states [] 0 p.states) λ e1=>Ck.fns e1 0 p.fns) λ e2=>Ck.bind (Ck.bodies (p.fns.map Ck.hd) e2 0 p.fns) λ fs=>.inl ⟨p.version,Ck.slots p.states,fs⟩):=by
  show _=_;rw[<-HR.out,En];unfold Ck.check;have h1:decide (1<=p.version)=true:=decide_eq_true (by have:=hV.out;omega);have h2:decide (p.version<=1099511627776)=true:=decide_eq_true (by have:=hV.out;omega);rw[h1,h2];rfl
 clear HR;go_wp2_with fail;refine hN.mono ?_;rintro e w2 ⟨rfl,bi⟩;obtain rfl:=bi.symm;clear hN bi br bw hv1 hv2;have a8:=(c1.block b hb).trans hblk;obtain⟨g0,-,-,-,-,-,f0,-⟩:=Bc a8;have ej:b<w1:=by omega
 obtain⟨w3,dh⟩:∃w3,w1.setCell b (iv V)=w3:=⟨_,rfl⟩;have cr:Fm (λ j=>j=b) w1 w3:=by rw[<-dh];exact Fm.set (X:=λ j=>j=b) rfl 0 _
 have b0:w3.heap[b]?=some (.cells #[iv V,sZ,sZ,.map (some mb),iv (0:Nat),sZ] 62 (0,0)):=by rw[<-dh];simp[World.setCell,Array.getElem?_modify,a8]
 have ak:Fm (λ j=>j=b) w w3:=(Fm.of_below (X:=λ _=>False) c1).trans cr (λ _ _ h=>h.elim) (λ _ _ h=>h);have dv:=cr.size;have ch:=(cr.block _ dt (by omega)).trans cv;have b6:Since (λ j=>j<w.heap.size/\j≠b/\j≠mb) w w3:=ak.since (λ j hj e=>hj.2.1 e);have bo:∀j,(j<w.heap.size/\j≠b/\j≠mb)->(j<w3.heap.size/\j≠b/\j≠mb):=λ j hj=>⟨by omega,hj.2⟩
 have bk:Et (λ j=>j<w3.heap.size/\j≠b/\j≠mb) w3 p.states (.slice sa p.states.length sc):=SlRow.base (SlRow.since hst b6) bo;have b4:F6 (λ j=>j<w.heap.size/\j≠b/\j≠mb) w3 p.fns (.slice fa p.fns.length fc):=by
  obtain⟨row,h1,h2⟩:=hfn;exact⟨row,h1.since b6,h2.since b6⟩
 have au:F6 (λ j=>j<w3.heap.size/\j≠b/\j≠mb) w3 p.fns (.slice fa p.fns.length fc):=Mk b4 bo;have aq:A9 w3 mb []:=henv.since (ak.block mb hm (by omega));have co:=Y7 (num:=0) b0 aq hbm bk au hsh.l1 hsh.l2 hsh.n1 hsh.n2;rw[hV.out] at co;have c8:∀e,(Ck.bind (Ck.states [] 0 p.states) λ e1=>Ck.fns e1 0 p.fns)=.inl e->D0 e/\∀x∈e,x.2.type.length<=1000:=λ e h=>by
  obtain⟨e1,h1,h2⟩:=Ao h;obtain⟨a1,a2⟩:=Mj p.states [] e1 0 (λ s hs=>(hsh.n1 s hs).2) (λ x hx=>by cases hx) (λ x hx=>by cases hx) h1;exact Xh p.fns e1 e 0 a1 a2 h2
 replace c8:=Bu c8;generalize (Ck.bind (Ck.states [] 0 p.states) λ e1=>Ck.fns e1 0 p.fns)=C at *;have eb:b<w3:=by omega
 obtain⟨e0,e1,e2,-⟩:=Az ch;have dm:w<w3.heap.size:=by omega
 clear bk au aq hst hfn a8 cv;go_wp2_with fail;refine co.mono ?_;rintro e w5 hP;clear co d0 d1 d2 e0 e1 e2 g0 f0;rcases C with env | ⟨a,er⟩
 rotate_left
 .obtain⟨ci,hF⟩:=hP;obtain rfl:=ci;have a0:H4 b mb V w R (.panicked (Ag a er)) w5:=by
   rw[cj.out];exact⟨rfl,ak.trans hF (λ j _ e=>AI e) (λ _ _ h=>h)⟩
  exact⟨rfl,a0⟩
 obtain⟨rfl,ss,fs,a5,aa,al,ai,c2⟩:=hP;obtain⟨dn,dx⟩:=c8.out env rfl;have du:=c2.size;have b5:Fm (λ j=>j=b\/j=mb) w w5:=ak.trans c2 (λ j _ e=>AI e) (λ _ _ h=>h);have dr:=(c2.block _ dm (by rintro (e | e) <;> omega)).trans ch;obtain⟨d0,d1,d2,-⟩:=Az dr;have ee:w<w5.heap.size:=by omega
 have bp:Hid (R=Ck.bind (Ck.bodies (p.fns.map Ck.hd) env 0 p.fns) λ fs=>.inl ⟨p.version,Ck.slots p.states,fs⟩):=cj.out;have bh:F6 (λ j=>j<w.heap.size/\j≠b/\j≠mb) w5 p.fns (.slice fa p.fns.length fc):=by
  obtain⟨row,h1,h2⟩:=b4;have d5:Since (λ j=>j<w.heap.size/\j≠b/\j≠mb) w3 w5:=c2.since (λ j hj e=>by rcases e with e | e;exact hj.2.1 e;exact hj.2.2 e);exact⟨row,h1.since d5,h2.since d5⟩
 clear cj b4 c8 ch b0;rcases Nat.eq_zero_or_pos p.fns.length with hz | hpos
 .have hn:p.fns=[]:=length_eq_zero_iff.1 hz;have a0:H4 b mb V w R (.returned (.tuple #[])) w5:=by
   rw[bp.out,hn];refine⟨rfl,ss,fs,0,_,a5,Cq.base' al (λ j hj _=>by have:w3.heap.size<=j:=hj.1;show w.heap.size<=j;omega),?_,hV.out,b5⟩;rw[hn] at ai;obtain⟨row,h1,h2⟩:=ai.row;exact⟨row,h1.base' (λ j hj _=>by have:w3.heap.size<=j:=hj;show w.heap.size<=j;omega),h2.base (λ j hj _=>by have:w3.heap.size<=j:=hj;show w.heap.size<=j;omega)⟩
  have ei:(p.fns.length:Int)=0:=by omega
  rw[hz] at d2;clear ai al a5 aa bh bp hn hz;go_wp2_with fail
  go_loopg [37] 0 (λ gh i wz=>i=iv 0/\wz=w5)
  case atStart=>exact⟨rfl,rfl⟩
  case round=>
   obtain⟨rfl,rfl⟩:=hrel;go_wp2_with fail;exact bodyPost_end (results_none rfl _ _ _) rfl a0
 obtain⟨gf,ab,bn,rfl,e9,ad,ae,aj,bq⟩:=ai.arr (by simpa using hpos);have bx:(p.fns.map Ep).length=p.fns.length:=by simp
 rw[bx] at a5 al ae;have e7:w3<=gf:=e9;obtain⟨A,HA⟩:∃A:Ck.R (List CF),Hid (Ck.bodies (p.fns.map Ck.hd) env 0 p.fns=A):=⟨_,rfl⟩;rw[HA.out] at bp;have d8:Hid (PI b mb gf p.fns.length ab w V ss env (p.fns.map Ck.hd) w5 p.fns A 0 0 [] sZ bn w5):=⟨a5,aa,ad,by
  rw[nil_append,drop_zero];exact bq.base (λ j hj _=>⟨by have:w3.heap.size<=j:=hj.1;omega,hj.2⟩),rfl,rfl,Fm.refl _ _,by
  rw[drop_zero,HA.out];rcases A with x | e <;> rfl⟩
 have ce:=λ (j:Nat) (f:Px.Fn) (hj:p.fns[j]?=some f)=>Xg bh hj
 replace ce:=Bu ce;have di:gf<w5:=(AB ad).1;clear ai bq ad aa HA bh;go_wp2_with fail;clear d0 d1 d2
 go_loopg [37] p.fns.length (λ gh ii wr=>∃q num acc la ln lc cur,q<=p.fns.length/\gh=p.fns.length - q/\ii=iv q/\Hid (PI b mb gf p.fns.length ab w V ss env (p.fns.map Ck.hd) w5 p.fns A q num acc (.slice la ln lc) cur wr))
 case atStart=>exact⟨0,0,[],none,0,0,bn,AO _,rfl,rfl,d8⟩
 case round=>
  clear d8;obtain⟨q,num,acc,la,ln,lc,cur,hq,rfl,rfl,HI⟩:=hrel;have cq:=HI.out.fm.size;by_cases hlt:q<p.fns.length
  .have cy:(q:Int)<(p.fns.length:Int):=by omega
   have eg:(0:Int)<=(q:Int):=by omega
   obtain⟨f,bu⟩:∃f,p.fns[q]?=some f:=⟨_,AN hlt⟩;obtain⟨ga,oa,ca,pa,ba,pc,bc,ea,bb,eh,a3,bj⟩:=ce.out q f bu;simp only[Value.slice.injEq] at ea;obtain⟨rfl,-,rfl⟩:=ea;have db:=mem_of_getElem? bu;have bf:∀j,j<w.heap.size->j≠b->j≠mb->wr.heap[j]?=w5.heap[j]?:=λ j h1 h2 h3=>HI.out.fm.block j (by omega) (by rintro (e | e | e) <;> omega)
   have a4:=bf ga bb.1 bb.2.1 bb.2.2;have u0:wr.cell? ⟨ga,oa+q*7,none⟩=some (strV f.name):=(Ak a4).trans (a3 0 _ rfl);have u1:=(Ak a4).trans (a3 1 _ rfl);have u2:=(Ak a4).trans (a3 2 _ rfl);have u3:=(Ak a4).trans (a3 3 _ rfl);have u4:=(Ak a4).trans (a3 4 _ rfl);have u5:=(Ak a4).trans (a3 5 _ rfl);have u6:=(Ak a4).trans (a3 6 _ rfl);have e3:ga<wr:=by omega
   obtain⟨w7,da⟩:∃w7,wr.alloc (.cells #[sE,.bool false,sZ,sE,sZ,sZ,iv 0] 36)=w7:=⟨_,rfl⟩;obtain⟨w6,d4⟩:∃w6,((((((w7.setCell wr (strV f.name)).setCell ⟨wr,1,none⟩ (.bool f.on)).setCell ⟨wr,2,none⟩ (.slice pa f.params.length pc)).setCell ⟨wr,3,none⟩ (strV f.result)).setCell ⟨wr,4,none⟩ sZ).setCell ⟨wr,5,none⟩ (.slice ba f.body.length bc)).setCell ⟨wr,6,none⟩ (iv f.place)=w6:=⟨_,rfl⟩;have dk:Below wr wr w7:=by rw[<-da];exact (AF _ _).alloc (AD _) _
   have c7:w7.heap[wr.heap.size]?=some (.cells #[sE,.bool false,sZ,sE,sZ,sZ,iv 0] 36 (0,0)):=by rw[<-da];exact heap_new _ _
   have l7:wr<w7.heap.size:=(AB c7).1;have b9:Below wr wr w6:=by
    rw[<-d4];exact ((((((dk.setCell (p:=⟨wr,0,none⟩) (AD _) _).setCell (p:=⟨wr,1,none⟩) (AD _) _).setCell (p:=⟨wr,2,none⟩) (AD _) _).setCell (p:=⟨wr,3,none⟩) (AD _) _).setCell (p:=⟨wr,4,none⟩) (AD _) _).setCell (p:=⟨wr,5,none⟩) (AD _) _).setCell (p:=⟨wr,6,none⟩) (AD _) _
   have ct:w6.heap[wr.heap.size]?=some (.cells #[strV f.name,.bool f.on,.slice pa f.params.length pc,strV f.result,sZ,.slice ba f.body.length bc,iv f.place] 36 (0,0)):=by rw[<-d4];simp[World.setCell,Array.getElem?_modify,c7]
   have l6:wr<w6.heap.size:=(AB ct).1;obtain⟨y0,y1,y2,y3,y4,y5,y6,z0,z1,z2,z3,z4,z5,z6⟩:=Cd c7;obtain⟨e8,dy,dq,e6,dz,ds,e4,-⟩:=Cd ct;have ec:=b9.size;have az:=(b9.block b (by omega)).trans HI.out.blk;have b3:A9 w6 mb env:=HI.out.env.since (b9.block mb (by omega));have ah:=(b9.block gf (by omega)).trans HI.out.row;have cl:(acc ++ (p.fns.drop q).map Ep).length=p.fns.length:=by simp[HI.out.len];omega
   have a7:=HI.out.fns.since (w':=w6) (Since.of_below b9);have ag:(acc ++ (p.fns.drop q).map Ep).map Ix=p.fns.map Ck.hd:=by
    rw[map_append,HI.out.hd,map_map,show (Ix ∘ Ep)=Ck.hd from funext Ak3,<-map_append,take_append_drop]
   have bg:=(a7.base (B':=λ j=>j<w6.heap.size/\j≠b/\j≠mb) (λ j hj hl=>⟨hl,by have:=hj.1;omega,by have:=hj.1;omega⟩)).hds ah ⟨by omega,by omega,by omega⟩ (by rw[cl];exact ae) aj;rw[ag,cl] at bg;have bt:p.fns.length*7<=cur.size:=by have:=a7.1;rw[cl] at this;exact this
   have av:Ey (λ j=>j<w6.heap.size/\j≠b/\j≠mb/\j≠gf) w6 f [strV f.name,.bool f.on,.slice pa f.params.length pc,strV f.result,sZ,.slice ba f.body.length bc,iv f.place]:=by
    have bl:Since (λ j=>j<w.heap.size/\j≠b/\j≠mb) w5 w6:=⟨by omega,λ j hj hl=>(b9.block j (by omega)).trans (bf j hj.1 hj.2.1 hj.2.2)⟩;obtain⟨ps,bs,dw,m1,row2,m2,m3⟩:=bj;exact⟨ps,bs,dw,SlRow.base (SlRow.since m1 bl) (λ j hj=>⟨by omega,hj.2.1,hj.2.2,by omega⟩),row2,(m2.since bl).base (λ j hj=>⟨by omega,hj.2.1,hj.2.2,by omega⟩),(m3.since bl).base (λ j hj=>⟨by omega,hj.2.1,hj.2.2,by omega⟩)⟩
   obtain⟨d6,d9,de⟩:=hsh.sh f db;have df:(p.fns.map Ck.hd)[q]?=some (Ck.hd f):=by rw[List.getElem?_map,bu];rfl
   have dl:KOk ⟨q,p.fns.map Ck.hd,f.result⟩ env:=⟨dn,dx,λ h hh=>(by obtain⟨g,hg,rfl⟩:=mem_map.1 hh;exact (hsh.n2 g hg).2.1),λ h hh t ht=>(by
    obtain⟨g,hg,rfl⟩:=mem_map.1 hh;obtain⟨s,hs,rfl⟩:=mem_map.1 ht;exact ((hsh.n2 g hg).2.2.2 s hs).2),by simp;omega,⟨_,df,rfl⟩⟩
   have dc:=Qi (Bb7 d6 d9 de) az b3 ah bt bg (by simp) ⟨ae,aj⟩ hlt df av dl (λ s hs=>((hsh.n2 f db).2.2.2 s hs).2) hbm (by omega) (by omega);have a6:p.fns.drop q=f :: p.fns.drop (q+1):=by
    obtain⟨hi,rfl⟩:=AK bu;exact drop_eq_getElem_cons hi
   have cp:Hid (A=Ck.bind (Ck.fn (p.fns.map Ck.hd) env q f) λ x=>Ck.bind (Ck.bodies (p.fns.map Ck.hd) env (q+1) (p.fns.drop (q+1))) λ xs=>.inl (acc ++ (x :: xs))):=by
    show _=_;rw[HI.out.ans,a6,Ck.bodies,En];refine Aq4 _ (λ x=>?_);rw[En];rfl
   have c5:=λ x=>Ak2 (hs:=p.fns.map Ck.hd) (env:=env) (i:=q) (f:=f) (x:=x)
   have c6:=λ x=>Ay1 (hs:=p.fns.map Ck.hd) (env:=env) (i:=q) (f:=f) (x:=x)
   replace c5:=Bu c5;replace c6:=Bu c6;generalize Ck.fn (p.fns.map Ck.hd) env q f=D at *;have b8:Fm (S5 b mb gf) w5 w6:=HI.out.fm.trans (Fm.of_below (X:=λ _=>False) b9) (λ _ _ h=>h) (λ _ _ h=>h.elim);replace a7:=Bu a7;clear bf a4 c7 dk ct az b3 ah bg av bj a3 dl d6 d9 de ag;go_wp2_with fail;refine dc.mono ?_;rintro e w8 hP;clear dc e8 dy dq e6 dz ds e4 u0 u1 u2 u3 u4 u5 u6 y0 y1 y2 y3 y4 y5 y6 z0 z1 z2 z3 z4 z5 z6;rcases D with x | ⟨a,er⟩
   rotate_left
   .obtain⟨ci,hF⟩:=hP;obtain rfl:=ci;have a0:H4 b mb V w R (.panicked (Ag a er)) w8:=by
     rw[bp.out,cp.out];exact⟨rfl,b5.trans (b8.trans hF (λ _ _ h=>h) (λ _ _ h=>h)) (λ _ _ h=>h) (λ j _ e=>by
      rcases e with e | e | e
      .exact AI e
      .exact AJ e
      .omega)⟩
    exact⟨rfl,a0⟩
   obtain⟨ed,a9,c9,rfl,am,ax,ar,af,ay,c4⟩:=hP;obtain⟨cg,cd,rfl,-,-⟩:=SlRow.val af;have cf:=c4.size;have cw:Hid (PI b mb gf p.fns.length ab w V ss env (p.fns.map Ck.hd) w5 p.fns A (q+1) q (acc ++ [x]) (.slice cg x.locals.length cd) ((cur.setIfInBounds (q*7+5) (.slice a9 x.body.length c9)).setIfInBounds (q*7+4) (.slice cg x.locals.length cd)) w8):=by
    have cu:∀{wx:World} j,From w6 j->j<wx.heap.size->(w.heap.size<=j/\j≠gf):=λ {wx} j hj _=>⟨by have:w6.heap.size<=j:=hj;omega,by have:w6.heap.size<=j:=hj;omega⟩
    have bl:Since (λ j=>w.heap.size<=j/\j≠gf) w6 w8:=⟨cf,λ j hj hl=>c4.block j hl (by rintro (e | e | e);omega;omega;exact hj.2 e)⟩;have hi:(acc ++ (p.fns.drop q).map Ep)[q]?=some (Ep f):=by
     rw[List.getElem?_append_right (by rw[HI.out.len];exact Nat.le_refl _),HI.out.len,Nat.sub_self,a6];rfl
    have c0:=a7.out.put (lv:=.slice cg x.locals.length cd) (bv:=.slice a9 x.body.length c9) bl hi (c5.out x rfl) (SlRow.base' af cu) (by
     obtain⟨row,h1,h2⟩:=ay;exact⟨row,h1.base' cu,h2.base cu⟩)
    have cm:(acc ++ (p.fns.drop q).map Ep).set q x=(acc ++ [x]) ++ (p.fns.drop (q+1)).map Ep:=by
     rw[set_append_right _ _ (by rw[HI.out.len];exact Nat.le_refl _),HI.out.len,Nat.sub_self,a6];simp
    rw[cm] at c0;refine⟨am,ax,ar,c0,by rw[length_append,HI.out.len];rfl,?_,b8.trans c4 (λ _ _ h=>h) (λ _ _ h=>h),?_⟩
    .rw[map_append,HI.out.hd,take_add_one,bu,map_append];show _ ++ [Ix x]=_ ++ [Ck.hd f];rw[c6.out x rfl]
    .rw[cp.out];simp only[Ck.bind,append_assoc,singleton_append]
   clear am ax ar af ay c4 b8 cp c5 c6 a7 HI a6;go_wp2_with fail;go_roundg (p.fns.length - (q+1))
   case measure=>omega
   case rel=>exact⟨q+1,q,acc ++ [x],_,_,_,_,by omega,rfl,by go_num,cw⟩
  .have cy:¬(q:Int)<(p.fns.length:Int):=by omega
   have a0:H4 b mb V w R (.returned (.tuple #[])) wr:=by
    have hA:A=.inl acc:=by
     rw[HI.out.ans,drop_of_length_le (by omega)];show Sum.inl (acc ++ [])=_;rw[append_nil]
    have hl:=HI.out.len;have ef:q=p.fns.length:=by omega
    have dj:=HI.out.fns;rw[drop_of_length_le (by omega),map_nil,append_nil] at dj;rw[bp.out,hA];have d7:=(dj.base (B':=From w) (λ j hj _=>hj.1)).fns HI.out.row (by show w<=gf;omega) (cap:=ab) (by omega) aj;have d3:acc.length=p.fns.length:=by omega
    rw[d3] at d7;refine⟨rfl,ss,sL gf 0 p.fns.length ab,num,_,HI.out.blk,?_,d7,hV.out,b5.trans HI.out.fm (λ _ _ h=>h) (λ j _ e=>by
     rcases e with e | e | e
     .exact AI e
     .exact AJ e
     .omega)⟩
    have h9:=Cq.since al (w':=wr) ⟨cq,λ j hj hl=>HI.out.fm.block j hl (by
     have:w3.heap.size<=j:=hj.1;rintro (e | e | e)
     .omega
     .omega
     .exact hj.2 (by rw[e];rfl))⟩
    exact Cq.base' h9 (λ j hj _=>by have:w3.heap.size<=j:=hj.1;show w.heap.size<=j;omega)
   clear HI;go_wp2_with fail;exact bodyPost_end (results_none rfl _ _ _) rfl a0
end
section
open Go.RowKit
open Px (Ex St Sl WfE WfS Cg WfSl WfF WfP NmOk prT Ot H5 S6 Gn)
mutual
theorem Ak6:∀e:Ex,WfE VW e->Ot 4096 e->ShE e
 | .mk k o n t args p,hw,hl=>by
  rw[WfE] at hw;rw[Ot] at hl;obtain⟨hf,hs⟩:=hw;rw[ShE];refine⟨?_,Xi args hs hl.2⟩;rcases hf with⟨rfl,-⟩ | ⟨rfl,-⟩ | ⟨rfl,-,-,-,hv⟩ | ⟨rfl,-⟩ | ⟨rfl,-⟩ | ⟨rfl,-,-,-,h⟩ | ⟨hk,-,-,-,h⟩ | ⟨rfl,-,-,-,-,h⟩
  .exact AI rfl
  .exact AJ (AI rfl)
  .have:=Ls (I5 hv);exact AJ (AJ (AI ⟨rfl,by omega⟩))
  .exact AJ (AJ (AJ (AI rfl)))
  .exact AJ (AJ (AJ (AJ (AI ⟨rfl,by omega⟩))))
  .exact AJ (AJ (AJ (AJ (AJ (AI ⟨rfl,h⟩)))))
  .rcases hk with rfl | rfl
   .exact AJ (AJ (AJ (AJ (AJ (AJ (AI ⟨rfl,h⟩))))))
   .exact AJ (AJ (AJ (AJ (AJ (AJ (AJ (AI ⟨rfl,h⟩)))))))
  .exact AJ (AJ (AJ (AJ (AJ (AJ (AJ (AJ ⟨rfl,h⟩)))))))
theorem Xi:∀l:List Ex,Px.WfEs VW l->H5 4096 l->Mc l
 | [],_,_=>by rw[Mc];trivial
 | e :: r,hw,hl=>by
  rw[Px.WfEs] at hw;rw[H5] at hl;rw[Mc];exact⟨Ak6 e hw.1 hl.1,Xi r hw.2 hl.2⟩
end
theorem S8:∀{l:List Ex},(∀e∈l,ShE e)->Mc l
 | [],_=>by rw[Mc];trivial
 | e :: r,h=>by rw[Mc];exact⟨h e (AC ..),S8 (λ x hx=>h x (AH _ hx))⟩
mutual
theorem Aq9:∀s:St,WfS VW s->S6 4096 s->ShS s/\LnS s
 | .mk k n es b c p,hw,hl=>by
  rw[WfS] at hw;rw[S6] at hl;obtain⟨hf,he,hb,hc⟩:=hw;obtain⟨l1,l2,l3,l4,l5⟩:=hl;obtain⟨b1,b2⟩:=Iz b hb l4;obtain⟨c1,c2⟩:=Iz c hc l5;rw[ShS,LnS];refine⟨⟨?_,S8 (λ e h=>Ak6 e (he e h) (l1 e h)),b1,c1⟩,by omega,by omega,b2,c2⟩;rcases hf with⟨rfl,-,h,-⟩ | ⟨rfl,-,h,-⟩ | ⟨rfl,-,h,-⟩ | ⟨rfl,-,h⟩ | ⟨rfl,-,h,-⟩ | ⟨rfl,-,h,-⟩
  .exact AI ⟨rfl,h⟩
  .exact AJ (AI ⟨rfl,h⟩)
  .exact AJ (AJ (AI ⟨rfl,h⟩))
  .exact AJ (AJ (AJ (AI ⟨rfl,h⟩)))
  .exact AJ (AJ (AJ (AJ (AI ⟨rfl,h⟩))))
  .exact AJ (AJ (AJ (AJ (AJ ⟨rfl,h⟩))))
theorem Iz:∀l:List St,Cg VW l->Gn 4096 l->H0 l/\M3 l
 | [],_,_=>by rw[H0,M3];exact⟨trivial,trivial⟩
 | s :: r,hw,hl=>by
  rw[Cg] at hw;rw[Gn] at hl;obtain⟨a1,a2⟩:=Aq9 s hw.1 hl.1;obtain⟨b1,b2⟩:=Iz r hw.2 hl.2;rw[H0,M3];exact⟨⟨a1,b1⟩,a2,b2⟩
end
theorem Ql{t:Lx.B}(h:NmOk VW t):t.length<=1000:=by have:=Gz (Ie h.2);omega
theorem Qm{y:AQ}(h:∃c,Px.Ty 4 y c):y.length<=1000:=by
 have hg:gType y=true:=by unfold gType;rw[if_pos (show Px.IsTy 4 y from h)]
 have:=E9 hg;omega
theorem Ar0{p:Px.Pr}(h:WfP VW p)(hc:(prT p).length<=4096):PrSh p:=by
 obtain⟨-,hs,hf⟩:=h;have h1:=Px.ssT_le p.states;have h2:=Px.fsT_le p.fns;simp[prT] at hc;refine⟨by omega,by omega,λ s h=>⟨Ql (hs s h).1,Qm (hs s h).2⟩,λ f h=>?_,λ f h=>?_⟩
 .obtain⟨a1,a2,a3,a4,a5⟩:=hf f h;have h3:=Kh h;have h4:=Px.fnT_le f;exact⟨Ql a1,Qm a3,by omega,λ s hs=>⟨Ql (a2 s hs).1,Qm (a2 s hs).2⟩⟩
 .obtain⟨a1,a2,a3,a4,a5⟩:=hf f h;have h3:=Kh h;have h4:=Px.fnT_le f;have h5:=Px.stmles_of (N:=4096) f.body a4 (by omega);obtain⟨b1,b2⟩:=Iz f.body a4 h5;have h6:=(Px.stsT_le f.body).1;exact⟨b1,b2,by omega⟩
end
section
open Go.RowKit
open Ck (CE CS CF CP Mng)
mutual
theorem IsEx.old{B:AS}{w:World}:∀{e:Px.Ex} {cs:AR},IsEx B w e cs->IsEx (λ j=>j<w.heap.size) w e cs
 | .mk k o n t a p,cs,h=>by
  rw[IsEx] at h ⊢;obtain⟨sl,row,h1,h2,h3⟩:=h;exact⟨sl,row,h1,h2.base' (λ j _ hl=>hl),Ai.old h3⟩
theorem Ai.old{B:AS}{w:World}:∀{l:List Px.Ex} {cs:AR},Ai B w l cs->Ai (λ j=>j<w.heap.size) w l cs
 | [],cs,h=>by rw[Ai] at h ⊢;exact h
 | e :: r,cs,h=>by
  rw[Ai] at h ⊢;obtain⟨c1,c2,hc,h1,h2⟩:=h;exact⟨c1,c2,hc,IsEx.old h1,Ai.old h2⟩
end
mutual
theorem IsSt.old{B:AS}{w:World}:∀{e:Px.St} {cs:AR},IsSt B w e cs->IsSt (λ j=>j<w.heap.size) w e cs
 | .mk k n es b c p,cs,h=>by
  rw[IsSt] at h ⊢;obtain⟨s1,s2,s3,r1,r2,r3,hc,a1,a2,a3,a4,a5,a6⟩:=h;exact⟨s1,s2,s3,r1,r2,r3,hc,a1.base' (λ j _ hl=>hl),a2.old,a3.base' (λ j _ hl=>hl),Av.old a4,a5.base' (λ j _ hl=>hl),Av.old a6⟩
theorem Av.old{B:AS}{w:World}:∀{l:List Px.St} {cs:AR},Av B w l cs->Av (λ j=>j<w.heap.size) w l cs
 | [],cs,h=>by rw[Av] at h ⊢;exact h
 | e :: r,cs,h=>by
  rw[Av] at h ⊢;obtain⟨c1,c2,hc,h1,h2⟩:=h;exact⟨c1,c2,hc,IsSt.old h1,Av.old h2⟩
end
theorem Bq.old{B:AS}{w:World}:∀{l:List Px.Fn} {cs:AR},Bq B w l cs->Bq (λ j=>j<w.heap.size) w l cs
 | [],cs,h=>h
 | e :: r,cs,h=>by
  obtain⟨c1,c2,hc,⟨ps,bs,h1,h2,row,h3,h4⟩,h5⟩:=h;exact⟨c1,c2,hc,⟨ps,bs,h1,SlRow.base' h2 (λ j _ hl=>hl),row,h3.base' (λ j _ hl=>hl),h4.old⟩,Bq.old h5⟩
theorem Qn(a er:Nat)(w:World):AA 23 #[.iface 58 (.agg #[iv a,iv er])] w λ e w'=>e=.returned (.agg #[iv a,iv er])/\Below w w w':=by
 have a6:∀w1:World,(Instr.typeAssert (.iface 58 (.agg #[iv a,iv er])) 20 58 false).run prog w1=.ok (.agg #[iv a,iv er]) w1:=λ _=>by kernel_rfl
 obtain⟨w0,a5⟩:∃w0,w.alloc (.cells #[iv 0,iv 0] 58)=w0:=⟨_,rfl⟩;have a4:Below w w w0:=by rw[<-a5];exact (AF _ _).alloc (AD _) _
 have a0:w0.heap[w.heap.size]?=some (.cells #[iv 0,iv 0] 58 (0,0)):=by rw[<-a5];exact heap_new _ _
 have l0:w.heap.size<w0.heap.size:=(AB a0).1;have c0:w0.cell? w=some (iv 0):=by simp[World.cell?,a0]
 have c1:w0.cell? ⟨w,1,none⟩=some (iv 0):=by simp[World.cell?,a0]
 have f0:w0.frozen? w=false:=by simp[World.frozen?,a0]
 have f1:w0.frozen? ⟨w,1,none⟩=false:=by simp[World.frozen?,a0]
 have a3:Below w w ((w0.setCell w (iv a)).setCell ⟨w,1,none⟩ (iv er)):=(a4.setCell (p:=⟨w,0,none⟩) (AD _) _).setCell (p:=⟨w,1,none⟩) (AD _) _;clear a0 a4;go_enter func23,ntmps23;go_wp2_with fail;exact bodyPost_ret (v:=.agg #[iv a,iv er]) (by simp[results,results23,go_sem,l0,c0,c1]) rfl ⟨rfl,a3⟩
theorem S9(p q r:Addr)(w:World) :
  CallsD prog 22 #[.pointer (some p),.pointer (some q),.pointer (some r)] .returning w λ e u' w'=>e=.returned (.tuple #[])/\u'=.returning/\w'=w:=by
 refine callsD_of_wpS func22 rfl λ c₀ cs hu=>?_
 apply wpS_seq;apply wpS_region;simp[wpOpsS,go_sem,recoverD,hu,ntmps22,Exit.thenS];refine wpS_of_wp ?_;go_wp2;cases c₀
 simp_all [bodyPostS,results,results22]
theorem M4(p g1 g2 a er v1 v2:Nat)(bc:p<g1)(bj:g1<g2)(older:List PanicEntry)(w:World)(hp:w.heap[p]?=some Cn)(hq:w.heap[g1]?=some (Eq v1))(hr:w.heap[g2]?=some (Cr v2)) :
  CallsD prog 22 #[pt p 0,pt g1 0,pt g2 0] (.panicking ({ v:=.iface 58 (.agg #[iv a,iv er]),recovered:=false } :: older)) w λ e u' w'=>
   e=.returned (.tuple #[])/\u'=.panicking ({ v:=.iface 58 (.agg #[iv a,iv er]),recovered:=true } :: older) /\
   w'.heap[p]?=some Cn/\w'.heap[g1]?=some (Eq a)/\w'.heap[g2]?=some (Cr er)/\Below p w w':=by
 refine callsD_of_wpS func22 rfl λ c₀ cs hu=>?_
 apply wpS_seq;apply wpS_region;simp[wpOpsS,go_sem,recoverD,hu,ntmps22,Exit.thenS];refine wpS_of_wp ?_;have lp:p<w:=(AB hp).1;have lq:g1<w:=(AB hq).1;have lr:g2<w:=(AB hr).1;have hF:=Qn a er w;go_wp2_with fail;refine hF.mono ?_;rintro e w1 ⟨rfl,ak⟩;clear hF;have ba:=ak.size;obtain⟨w2,ai⟩:∃w2,w1.alloc (.cells #[iv 0,iv 0] 58)=w2:=⟨_,rfl⟩;obtain⟨w4,af⟩:∃w4,(w2.setCell w1 (iv a)).setCell ⟨w1,1,none⟩ (iv er)=w4:=⟨_,rfl⟩;have au:Below w1 w1 w2:=by rw[<-ai];exact (AF _ _).alloc (AD _) _
 have a0:w2.heap[w1.heap.size]?=some (.cells #[iv 0,iv 0] 58 (0,0)):=by rw[<-ai];exact heap_new _ _
 have l2:w1.heap.size<w2.heap.size:=(AB a0).1;have b6:Below w1 w1 w4:=by rw[<-af];exact (au.setCell (p:=⟨w1,0,none⟩) (AD _) _).setCell (p:=⟨w1,1,none⟩) (AD _) _
 have ad:w4.heap[w1.heap.size]?=some (.cells #[iv a,iv er] 58 (0,0)):=by rw[<-af];simp[World.setCell,Array.getElem?_modify,a0]
 have c0:w2.cell? w1=some (iv 0):=by simp[World.cell?,a0]
 have c1:w2.cell? ⟨w1,1,none⟩=some (iv 0):=by simp[World.cell?,a0]
 have f0:w2.frozen? w1=false:=by simp[World.frozen?,a0]
 have f1:w2.frozen? ⟨w1,1,none⟩=false:=by simp[World.frozen?,a0]
 have a5:Below w w w4:=ak.trans (b6.mono ba);have am:=(a5.block p lp).trans hp;have ar:=(a5.block g1 lq).trans hq;have b0:=(a5.block g2 lr).trans hr;have bh:=a5.size;have e0:w4.cell? w1=some (iv a):=by simp[World.cell?,ad]
 have e1:w4.cell? ⟨w1,1,none⟩=some (iv er):=by simp[World.cell?,ad]
 clear a0 au b6 hp hq hr;go_wp2_with fail;have hS:∀w':World,w'.heap[w1.heap.size]?=w4.heap[w1.heap.size]?->(w'.cell? w1=some (iv a)/\w'.cell? ⟨w1,1,none⟩=some (iv er)):=λ w' h=>⟨(Ak h).trans e0,(Ak h).trans e1⟩
 replace hS:=Bu hS;refine Vv.wpE_begin (S:=λ w'=>w'.cell? w1=some (iv a)/\w'.cell? ⟨w1,1,none⟩=some (iv er)) (N:=λ j=>decide (j<7)) (by kernel_rfl) ?_;have a4:=hS.out w4.drew rfl;have ah:w4.drew.heap[p]?=some Cn:=am;have ay:w4.drew.heap[g1]?=some (Eq v1):=ar;have az:w4.drew.heap[g2]?=some (Cr v2):=b0;have al:w4.drew.heap[w1.heap.size]?=w4.heap[w1.heap.size]?:=rfl;have aj:Below w w w4.drew:=a5.drew;generalize w4.drew=wd at *;clear e0 e1 ad a5 am ar b0 c0 c1 f0 f1;have bf:=aj.size;have bk:p<wd:=by omega
 obtain⟨x0,x1,x2,k0,k1,k2⟩:=Ad ah;obtain⟨w5,a3⟩:∃w5,w3 wd p (iv (0:Nat)) sZ sZ=w5:=⟨_,rfl⟩;have b3:w5.heap[p]?=some Cn:=by rw[<-a3];exact K6 ah _ _ _
 have a7:∀k,k≠p->w5.heap[k]?=wd.heap[k]?:=λ k hk=>by rw[<-a3];exact C9 hk _ _ _
 have b9:w5=wd.heap.size:=by rw[<-a3];exact Gv _ _ _ _ _
 have b4:Below p w w5:=by rw[<-a3];exact Ec (aj.mono (by omega)) (AD _) _ _ _
 replace a3:w3 wd p (iv 0) sZ sZ=w5:=a3;have ab:=(a7 g1 (by omega)).trans ay;have av:=(a7 g2 (by omega)).trans az;have ae:=(a7 w1 (by omega)).trans al;obtain⟨w6,a6⟩:∃w6,w5.setCell g1 (iv a)=w6:=⟨_,rfl⟩;have aa:∀k,k≠g1->w6.heap[k]?=w5.heap[k]?:=λ k hk=>by rw[<-a6];exact AG _ _ _ _ hk
 have b7:w6.heap[g1]?=some (Eq a):=by rw[<-a6];simp[World.setCell,Array.getElem?_modify,ab]
 have aw:Below p w w6:=by rw[<-a6];exact b4.setCell (p:=⟨g1,0,none⟩) (by show p<=g1;omega) _
 have b8:w6=w5.heap.size:=by rw[<-a6];simp[World.setCell]
 have a8:=(aa g2 (by omega)).trans av;have ax:=(aa w1 (by omega)).trans ae;obtain⟨w7,a9⟩:∃w7,w6.setCell g2 (iv er)=w7:=⟨_,rfl⟩;have ag:∀k,k≠g2->w7.heap[k]?=w6.heap[k]?:=λ k hk=>by rw[<-a9];exact AG _ _ _ _ hk
 have bb:w7.heap[p]?=some Cn/\w7.heap[g1]?=some (Eq a)/\w7.heap[g2]?=some (Cr er)/\Below p w w7:=⟨(ag p (by omega)).trans ((aa p (by omega)).trans b3),(ag g1 (by omega)).trans b7,by rw[<-a9];simp[World.setCell,Array.getElem?_modify,a8],by rw[<-a9];exact aw.setCell (p:=⟨g2,0,none⟩) (by show p<=g2;omega) _⟩;have m1:=cell_of_one ab;have n1:=free_of_one ab;have m2:=cell_of_one a8;have n2:=free_of_one a8;have bg:g1<w5:=by omega
 have bi:g2<w6:=by omega
 have aq:=hS.out w5 ae;have b5:=hS.out w6 ax;clear b9 b8 a7 aa ag b3 ab av ae b7 a8 ax b4 aw hS ah ay az al aj;refine Aa 11 [2,6,7] 1 (pt w1 0) a4 ?_;refine Aa 12 [6,7] 2 (iv a) a4 ?_;refine Aa 13 [4,7] 3 (pt w1 1) a4 ?_;refine Aa 14 [7] 4 (iv er) a4 ?_;refine Ah 0 λ K hK=>?_
 go_simp;refine hK _ _ (λ _=>a4) ?_;clear hK K
 try simp only[aP]
 refine Ah 5 λ K hK=>?_
 go_simp;refine hK _ _ (λ _=>aq) ?_;clear hK K
 try simp only[aP]
 refine Ah 6 λ K hK=>?_
 go_simp;refine hK _ _ (λ _=>b5) ?_;clear hK K
 try simp only[aP]
 refine Ah 7 λ K hK=>?_
 go_simp;refine hK _ _ (λ h=>by cases h) ?_;clear hK K
 try simp only[aP]
 refine Vv.wpE_done (by kernel_rfl) ?_;clear a4 aq b5 m1 n1 m2 n2 x0 x1 x2 k0 k1 k2 ak ai af a3 a6 a9;show bodyPostS _ _ _ _ _ _ _ _ _;cases c₀
 simp_all [bodyPostS,results,results22]
end
section
open Go.RowKit
open Ck (CE CS CF CP Mng)
attribute [local go_sem ↓] Go.wp_at_zero Go.wp_at_succ
def Qo(w:World)(r:Ck.R CP)(e:Ending)(w':World):Prop:=
 match r with
 | .inl c=>(∃ss fs,e=.returned (.tuple #[.agg #[iv c.version,ss,fs],iv 0,iv 0])/\Dg (From w) w' c (.agg #[iv c.version,ss,fs]))/\Below w w w'
 | .inr (a,er)=>e=.returned (.tuple #[Jf,iv a,iv er])/\Below w w w'
theorem H6{p:Px.Pr}{B:AS}(bv:Ez B w p v)(hw:Px.WfP VW p)(hc:(Px.prT p).length<=4096)(he:Env8 w) :
  AA 10 #[v] w λ e w'=>Qo w (Ck.check p) e w':=by
 obtain⟨cc,c8,rfl,aq,ak,ay,bi⟩:=bv;obtain⟨sa,sc,rfl,-,-⟩:=SlRow.val aq;obtain⟨fa,fc,rfl,-,-⟩:=ay.val;obtain⟨V,hV⟩:∃V:Int,Hid ((p.version:Int)=V):=⟨_,rfl⟩;rw[hV.out];have ca:∀(fn:Fn) (first cap:Array Value) (w:World),(Instr.makeFunc fn first cap).run prog w=.ok (.func fn first cap) w:=λ _ _ _ _=>rfl
 have c9:∀w:World,(Instr.makeMap 60 none).run prog w=.ok (.map (some w.heap.size)) (w.alloc (.map #[] 0)):=λ _=>rfl
 obtain⟨v1,b9⟩:∃v1,w.alloc (.cells #[iv V,.slice sa p.states.length sc,.slice fa p.fns.length fc] 26)=v1:=⟨_,rfl⟩;obtain⟨v2,bn⟩:∃v2,v1.alloc (.cells #[iv 0,sZ,sZ] 26)=v2:=⟨_,rfl⟩;obtain⟨v3,bp⟩:∃v3,v2.alloc (.cells #[iv 0] 3)=v3:=⟨_,rfl⟩;obtain⟨v4,ba⟩:∃v4,v3.alloc (.cells #[iv 0] 27)=v4:=⟨_,rfl⟩;obtain⟨v5,bh⟩:∃v5,v4.alloc (.map #[] 0)=v5:=⟨_,rfl⟩;obtain⟨v6,b8⟩:∃v6,v5.alloc (.cells #[iv 0,sZ,sZ,.map none,iv 0,sZ] 62)=v6:=⟨_,rfl⟩;obtain⟨v7,bq⟩:∃v7,(((((v6.setCell v5 (iv 0)).setCell ⟨v5,1,none⟩ sZ).setCell ⟨v5,2,none⟩ sZ).setCell ⟨v5,3,none⟩ (.map (some v4.heap.size))).setCell ⟨v5,4,none⟩ (iv 0)).setCell ⟨v5,5,none⟩ sZ=v7:=⟨_,rfl⟩;have b1:Below w w v1:=by rw[<-b9];exact (AF _ _).alloc (AD _) _
 have b2:Below v1 v1 v2:=by rw[<-bn];exact (AF _ _).alloc (AD _) _
 have b3:Below v2 v2 v3:=by rw[<-bp];exact (AF _ _).alloc (AD _) _
 have b4:Below v3 v3 v4:=by rw[<-ba];exact (AF _ _).alloc (AD _) _
 have b5:Below v4 v4 v5:=by rw[<-bh];exact (AF _ _).alloc (AD _) _
 have b6:Below v5 v5 v6:=by rw[<-b8];exact (AF _ _).alloc (AD _) _
 have b7:Below v5 v5 v7:=by
  rw[<-bq];exact (((((b6.setCell (p:=⟨v5,0,none⟩) (AD _) _).setCell (p:=⟨v5,1,none⟩) (AD _) _).setCell (p:=⟨v5,2,none⟩) (AD _) _).setCell (p:=⟨v5,3,none⟩) (AD _) _).setCell (p:=⟨v5,4,none⟩) (AD _) _).setCell (p:=⟨v5,5,none⟩) (AD _) _
 have x1:v1.heap[w.heap.size]?=some (.cells #[iv V,.slice sa p.states.length sc,.slice fa p.fns.length fc] 26 (0,0)):=by rw[<-b9];exact heap_new _ _
 have x2:v2.heap[v1.heap.size]?=some Cn:=by rw[<-bn];exact heap_new _ _
 have x3:v3.heap[v2.heap.size]?=some (Eq 0):=by rw[<-bp];exact heap_new _ _
 have x4:v4.heap[v3.heap.size]?=some (Cr 0):=by rw[<-ba];exact heap_new _ _
 have x5:v5.heap[v4.heap.size]?=some (.map #[] 0):=by rw[<-bh];exact heap_new _ _
 have x6:v6.heap[v5.heap.size]?=some (.cells #[iv 0,sZ,sZ,.map none,iv 0,sZ] 62 (0,0)):=by rw[<-b8];exact heap_new _ _
 have x7:v7.heap[v5.heap.size]?=some (.cells #[iv 0,sZ,sZ,.map (some v4.heap.size),iv 0,sZ] 62 (0,0)):=by rw[<-bq];simp[World.setCell,Array.getElem?_modify,x6]
 have l1:w<v1.heap.size:=(AB x1).1;have l2:v1<v2.heap.size:=(AB x2).1;have l3:v2<v3.heap.size:=(AB x3).1;have l4:v3<v4.heap.size:=(AB x4).1;have l5:v4<v5.heap.size:=(AB x5).1;have l6:v5<v6.heap.size:=(AB x6).1;have l7:v5<v7.heap.size:=(AB x7).1;have au:Below v4 v4 v7:=b5.trans (b7.mono (by omega));have am:Below v3 v3 v7:=b4.trans (au.mono (by omega));have aw:Below v2 v2 v7:=b3.trans (am.mono (by omega));have ar:Below v1 v1 v7:=b2.trans (aw.mono (by omega));have a3:Below w w v7:=b1.trans (ar.mono (by omega));have y1:=(ar.block _ l1).trans x1;have y2:=(aw.block _ l2).trans x2;have y3:=(am.block _ l3).trans x3;have y4:=(au.block _ l4).trans x4;have y5:A9 v7 v4 []:=⟨#[],0,(b7.block _ l5).trans x5,rfl⟩;have a4:∀k,k<w.heap.size->k<v7.heap.size->(k<v7.heap.size/\k≠v5.heap.size/\k≠v4.heap.size):=λ k h1 h2=>⟨h2,by omega,by omega⟩
 have a6:Et (λ j=>j<v7.heap.size/\j≠v5.heap.size/\j≠v4.heap.size) v7 p.states (.slice sa p.states.length sc):=SlRow.base' (SlRow.since (SlRow.base' aq (B':=λ j=>j<w.heap.size) (λ j _ hl=>hl)) (Since.of_below a3)) a4;have a5:F6 (λ j=>j<v7.heap.size/\j≠v5.heap.size/\j≠v4.heap.size) v7 p.fns (.slice fa p.fns.length fc):=by
  have h1:F6 (λ j=>j<w.heap.size) v7 p.fns (.slice fa p.fns.length fc):=⟨ak,(ay.base' (λ j _ hl=>hl)).since (Since.of_below a3),bi.old.since (Since.of_below a3)⟩;exact Mk h1 (λ j hj=>⟨by omega,by omega,by omega⟩)
 have hP:=Qk (V:=V) hV x7 y5 (by omega) a6 a5 hw hc (he.below a3) (Ar0 hw hc);obtain⟨R,HR⟩:∃R,Hid (Ck.check p=R):=⟨_,rfl⟩;rw[HR.out] at hP ⊢;obtain⟨p0,p1,p2,-⟩:=Ad y1;obtain⟨q0,q1,q2,q3,q4,q5,f0,f1,f2,f3,f4,f5⟩:=Bc x6;have c7:w<v7.heap.size:=by omega
 clear aq ay bi hw hc he a6 a5 b1 b2 b3 b4 b5 b6 b7 au am aw ar x1 x2 x3 x4 x5 x6 y1 y5 a4
 go_enter_defers func10,ntmps10
 go_wp2_with fail
 refine hP.mono ?_;rintro e w8 hQ;clear hP p0 p1 p2 q0 q1 q2 q3 q4 q5 f0 f1 f2 f3 f4 f5;rcases R with c | ⟨a,er⟩
 .obtain⟨rfl,ss,fs,num,lv,b0,az,al,a7,a0⟩:=hQ;obtain⟨s1,s2,rfl,-,-⟩:=Cq.val az;have ax:=al;obtain⟨c3,bs,-⟩:=ax;obtain⟨f1,f2,rfl,-,-⟩:=bs.val;have bt:=a0.size;have g2:=(a0.block v1 (by omega) (by rintro (e | e) <;> omega)).trans y2;have g3:=(a0.block v2 (by omega) (by rintro (e | e) <;> omega)).trans y3;have g4:=(a0.block v3 (by omega) (by rintro (e | e) <;> omega)).trans y4;have ah:Below w w w8:=a3.trans (a0.below (n:=w.heap.size) (by omega) (λ j e=>by rcases e with e | e <;> omega));obtain⟨c0,c1,c2,-⟩:=Bc b0;obtain⟨x0,x1,x2,k0,k1,k2⟩:=Ad g2;obtain⟨wa,aj⟩:∃wa,w3 w8 v1 (iv V) (.slice s1 c.states.length s2) (.slice f1 c.fns.length f2)=wa:=⟨_,rfl⟩;have ha:wa.heap[v1.heap.size]?=some (.cells #[iv V,.slice s1 c.states.length s2,.slice f1 c.fns.length f2] 26 (0,0)):=by rw[<-aj];exact K6 g2 _ _ _
  have ai:∀k,k≠v1.heap.size->wa.heap[k]?=w8.heap[k]?:=λ k hk=>by rw[<-aj];exact C9 hk _ _ _
  have bl:Below w w wa:=by rw[<-aj];exact Ec ah (by omega) _ _ _
  have bu:wa=w8.heap.size:=by rw[<-aj];exact Gv _ _ _ _ _
  have bx:w8<=wa.heap.size:=by omega
  have af:=(ai _ (by omega)).trans g3;have bg:=(ai _ (by omega)).trans g4;obtain⟨wb,ad⟩:∃wb,wa.setCell v2 (iv 0)=wb:=⟨_,rfl⟩;have aa:∀k,k≠v2.heap.size->wb.heap[k]?=wa.heap[k]?:=λ k hk=>by rw[<-ad];exact AG _ _ _ _ hk
  have bj:wb.heap[v2.heap.size]?=some (Eq 0):=by rw[<-ad];simp[World.setCell,Array.getElem?_modify,af]
  have br:Below w w wb:=by rw[<-ad];exact bl.setCell (p:=⟨v2,0,none⟩) (by show w<=v2.heap.size;omega) _
  have bw:wa.heap.size<=wb.heap.size:=by rw[<-ad];simp[World.setCell]
  have ae:=(aa _ (by omega)).trans bg;obtain⟨wc,ag⟩:∃wc,wb.setCell v3 (iv 0)=wc:=⟨_,rfl⟩;have a9:∀k,k≠v3.heap.size->wc.heap[k]?=wb.heap[k]?:=λ k hk=>by rw[<-ag];exact AG _ _ _ _ hk
  have bc:wc.heap[v3.heap.size]?=some (Cr 0):=by rw[<-ag];simp[World.setCell,Array.getElem?_modify,ae]
  have bb:Below w w wc:=by rw[<-ag];exact br.setCell (p:=⟨v3,0,none⟩) (by show w<=v3.heap.size;omega) _
  have c4:wb.heap.size<=wc.heap.size:=by rw[<-ag];simp[World.setCell]
  have bk:=(a9 v2 (by omega)).trans bj;have bf:=(a9 v1 (by omega)).trans ((aa v1 (by omega)).trans ha);have ab:Since (From v7) w8 wc:=⟨by omega,λ j hj hl=>by
   have hj:v7.heap.size<=j:=hj;exact (a9 j (by omega)).trans ((aa j (by omega)).trans (ai j (by omega)))⟩
  have a4:∀{wx:World} j,From v7 j->j<wx.heap.size->From w j:=λ {wx} j hj _=>by have:v7.heap.size<=j:=hj;show w.heap.size<=j;omega
  have a8:Hid (Qo w (.inl c) (.returned (.tuple #[.agg #[iv V,.slice s1 c.states.length s2,.slice f1 c.fns.length f2],iv 0,iv 0])) wc):=by
   refine⟨⟨_,_,by rw[a7],_,_,rfl,Cq.base' (Cq.since az ab) a4,?_⟩,bb⟩;obtain⟨row,h1,h2⟩:=al;exact⟨row,(h1.since ab).base' a4,(h2.since ab).base a4⟩
  have i1:=cell_of_one af;have j1:=free_of_one af;have i2:=cell_of_one ae;have j2:=free_of_one ae;have cd:v1<w8.heap.size:=by omega
  have c6:v2<wa.heap.size:=by omega
  have ce:v3<wb.heap.size:=by omega
  have c5:v5<w8.heap.size:=by omega
  have u1:=cell_of_one bk;have u2:=cell_of_one bc;obtain⟨r0,r1,r2,-⟩:=Ad bf;have t0:v1<wc.heap.size:=by omega
  have t1:v2<wc.heap.size:=by omega
  have t2:v3<wc.heap.size:=by omega
  clear bu az al a0 b0 g2 g3 g4 ha ai bl af bg aa bj br ae a9 bc bb bk bf ab a4 ah bs a7 HR x7 y2 y3 y4 a3;go_wp2;refine leaves_cons (f:=22) (args:=#[pt v1 0,pt v2 0,pt v3 0]) (by simp) (by simp[go_sem]) ?_;refine (S9 _ _ _ _).mono ?_;rintro e u' w'' ⟨rfl,rfl,rfl⟩;simp[Leaves,settle,results,results10,go_sem,u1,u2,r0,r1,r2];exact a8.out
 .obtain⟨rfl,a0⟩:=hQ;have bt:=a0.size;have g2:=(a0.block v1 (by omega) (by rintro (e | e) <;> omega)).trans y2;have g3:=(a0.block v2 (by omega) (by rintro (e | e) <;> omega)).trans y3;have g4:=(a0.block v3 (by omega) (by rintro (e | e) <;> omega)).trans y4;have ah:Below w w w8:=a3.trans (a0.below (n:=w.heap.size) (by omega) (λ j e=>by rcases e with e | e <;> omega));clear a0 HR x7 y2 y3 y4 a3;refine leaves_cons (f:=22) (args:=#[pt v1 0,pt v2 0,pt v3 0]) (by simp) (by simp[go_sem]) ?_;refine (M4 v1 v2 v3 a er 0 0 (by omega) (by omega) [] _ g2 g3 g4).mono ?_;rintro e u' w'' ⟨rfl,rfl,r1,r2,r3,bo⟩;have av:Below w w w'':=ah.trans (bo.mono (by omega));have u1:=cell_of_one r2;have u2:=cell_of_one r3;obtain⟨z0,z1,z2,_⟩:=Ad r1;clear r1 r2 r3 bo;simp[Leaves,settle,results,results10,go_sem,u1,u2,z0,z1,z2];exact⟨rfl,av⟩
end
section
open Go.RowKit
open Px (WfP prT)
open Ck (CE CS CF CP)
theorem Y8(w:World)(x0 x1 x2:Value):∃wz wf,w.alloc (.cells #[iv 0,sZ,sZ] 26)=wz/\w3 wz w x0 x1 x2=wf/\w.heap.size<wz.heap.size/\w.heap.size<wf.heap.size/\Below w w wf/\wz.heap[w.heap.size]?=some (.cells #[iv 0,sZ,sZ] 26 (0,0))/\wf.heap[w.heap.size]?=some (.cells #[x0,x1,x2] 26 (0,0)):=by
 have h:=heap_new w (.cells #[iv 0,sZ,sZ] 26);have hb:Below w w (w.alloc (.cells #[iv 0,sZ,sZ] 26)):=(AF _ _).alloc (AD _) _;have hl:=(AB h).1;exact⟨_,_,rfl,rfl,hl,by rw[Gv];exact hl,Ec hb (AD _) _ _ _,h,K6 h _ _ _⟩
def Ml:List UInt8:=[118,101,114,115,105,111,110,32,49,59,32,115,116,97,116,101,32,110,58,32,105,110,116,59,32,111,110,32,97,100,100,40,120,58,32,105,110,116,41,58,32,105,110,116,32,123,32,115,101,116,32,110,32,61,32,110,32,43,32,120,59,32,114,101,116,32,110,59,32,125]
def wkE:CE->Bool
 | .mk k o n t s y args=>k == 15 && (match args with
  | [.mk ka _ _ _ _ _ _,.mk kb _ _ _ _ _ _]=>ka == 5 && kb == 4
  | _=>false)
def wkS:CS->Bool
 | .mk k s f n es b c=>f && s == 0 && (match es with
  | [e]=>wkE e
  | _=>false)
def wkC(c:CP):Bool:=match c.fns with
 | [f]=>(match f.body with
  | [a,_]=>wkS a
  | _=>false)
 | _=>false
def Bb8:Bool:=match Px.parse Ml with
 | .inl p=>(match Ck.check p with
  | .inl c=>wkC c
  | .inr _=>false)
 | .inr _=>false
theorem Y9:Bb8=true:=by kernel_rfl
theorem Vi:∃p c,Px.parse Ml=.inl p/\Ck.check p=.inl c/\∃(f:CF) (k n:Nat) (o m sl:Nat) (t y:AQ) (oa na sa ob nb sb:Nat) (ta ya tb yb:AQ) (xa xb:List CE) (b1 c1:List CS) (s2:CS),c.fns=[f]/\f.body=[.mk k 0 true n [.mk 15 o m t sl y [.mk 5 oa na ta sa ya xa,.mk 4 ob nb tb sb yb xb]] b1 c1,s2]:=by
 have h:=Y9;unfold Bb8 at h;rcases hp:Px.parse Ml with p | x
 .rw[hp] at h;rcases hc:Ck.check p with c | x
  .simp only[hc] at h;unfold wkC at h;split at h
   .rename_i f hf;split at h
    .rename_i a s2 hb;obtain⟨k,s,fl,n,es,b1,c1⟩:=a;simp only[wkS,Bool.and_eq_true,beq_iff_eq] at h;obtain⟨⟨rfl,rfl⟩,h⟩:=h;split at h
     .rename_i e;obtain⟨ke,o,m,t,sl,y,args⟩:=e;simp only[wkE,Bool.and_eq_true,beq_iff_eq] at h;obtain⟨rfl,h⟩:=h;split at h
      .rename_i ka oa na ta sa ya xa kb ob nb tb sb yb xb;simp only[Bool.and_eq_true,beq_iff_eq] at h;obtain⟨rfl,rfl⟩:=h;exact⟨p,c,rfl,hc,f,k,n,o,m,sl,t,y,oa,na,sa,ob,nb,sb,ta,ya,tb,yb,xa,xb,b1,c1,s2,hf,hb⟩
      .cases h
     .cases h
    .cases h
   .cases h
  .simp only[hc] at h;cases h
 .rw[hp] at h;cases h
theorem Vj{B:AS}{c:CP}(hx:Dg B w c (.agg #[iv c.version,ss,fs])){f:CF}{k n:Nat}{o sl:Nat}{t y:AQ}{oa na sa ob nb sb:Nat}{ta ya tb yb:AQ}{xa xb:List CE}{b1 c1:List CS}{s2:CS}(hf:c.fns=[f])(hb:f.body=[.mk k 0 true n [.mk 15 o m t sl y [.mk 5 oa na ta sa ya xa,.mk 4 ob nb tb sb yb xb]] b1 c1,s2]) :
  ∃(s1:Option Addr) (sn sc:Nat) (g1 o1 a0 g2 o2 c2 g3 o3 c3 g4 o4 c4:Nat) (p2 q2:Option Addr) (l2 l3 d2 d3:Nat),ss=.slice s1 sn sc/\fs=sL g1 o1 1 a0/\(g1<w/\g2<w/\g3<w/\g4<w)/\w.cell? ⟨g1,o1+5,none⟩=some (sL g2 o2 2 c2) /\
   (w.cell? ⟨g2,o2,none⟩=some (iv k)/\w.cell? ⟨g2,o2+1,none⟩=some sE/\w.cell? ⟨g2,o2+2,none⟩=some (iv 0)/\w.cell? ⟨g2,o2+3,none⟩=some (.bool true)/\w.cell? ⟨g2,o2+4,none⟩=some (iv n)/\w.cell? ⟨g2,o2+5,none⟩=some (sL g3 o3 1 c3)/\w.cell? ⟨g2,o2+6,none⟩=some (.slice p2 l2 d2)/\w.cell? ⟨g2,o2+7,none⟩=some (.slice q2 l3 d3)/\w.cell? ⟨g2,o2+8,none⟩=some (iv 0)) /\
   w.cell? ⟨g3,o3,none⟩=some (iv 15)/\w.cell? ⟨g3,o3+6,none⟩=some (sL g4 o4 2 c4)/\w.cell? ⟨g4,o4,none⟩=some (iv 5)/\w.cell? ⟨g4,o4+8,none⟩=some (iv 4):=by
 obtain⟨af,ad,he,h1,a5,h2,h3⟩:=hx;simp only[Value.agg.injEq,Array.mk.injEq,List.cons.injEq,and_true,true_and] at he;obtain⟨rfl,rfl⟩:=he;obtain⟨s1,sc,rfl,-,-⟩:=Cq.val h1;rw[hf] at h2 h3;obtain⟨g1,o1,a0,rfl,-,-,-,a7,e1⟩:=h2.cells (by simp);obtain⟨cs,⟨ps,ls,bs,rfl,-,-,a9,h4,h5⟩,k1⟩:=h3.at (i:=0) rfl;rw[hb] at h4 h5;obtain⟨g2,o2,c2,rfl,-,-,-,ab,e2⟩:=h4.cells (by simp);obtain⟨r1,r2,rfl,h6,-⟩:=h5;rw[Ch] at h6;obtain⟨x1,x2,x3,q1,ah,q3,rfl,m1,m2,m3,-,m5,-⟩:=h6;obtain⟨g3,o3,c3,rfl,-,-,-,a6,e3⟩:=m1.cells (by simp);obtain⟨p2,d2,rfl,-,-⟩:=m3.val;obtain⟨q2,d3,rfl,-,-⟩:=m5.val;obtain⟨y1,y2,rfl,n1,-⟩:=m2;rw[Ce] at n1;obtain⟨z1,zr,rfl,i1,i2⟩:=n1;obtain⟨g4,o4,c4,rfl,-,-,-,aa,e4⟩:=i1.cells (by simp);obtain⟨a1,a2,rfl,j1,j2⟩:=i2;obtain⟨a3,a4,rfl,j3,-⟩:=j2;rw[Ce] at j1 j3;obtain⟨z2,ag,rfl,-,-⟩:=j1;obtain⟨z3,ae,rfl,-,-⟩:=j3;have a8:=e1 5 _ (by have:=k1 5 (by omega);simpa using this);refine⟨s1,_,sc,g1,o1,a0,g2,o2,c2,g3,o3,c3,g4,o4,c4,p2,q2,_,_,d2,d3,rfl,rfl,⟨a7,ab,a6,aa⟩,a8,⟨e2 0 _ rfl,e2 1 _ rfl,e2 2 _ rfl,e2 3 _ rfl,e2 4 _ rfl,e2 5 _ rfl,e2 6 _ rfl,e2 7 _ rfl,e2 8 _ rfl⟩,e3 0 _ rfl,e3 6 _ rfl,e4 0 _ rfl,e4 8 _ rfl⟩
theorem Ta(w:World)(he:Env8 w):AA 8 #[] w λ e w'=>e=.returned (.bool true)/\Below w w w':=by
 obtain⟨p,c,hp,al,f,k,n,o,m,sl,t,y,oa,na,sa,ob,nb,sb,ta,ya,tb,yb,xa,xb,b1,c1,s2,hf,hb⟩:=Vi;have hL:=Hs ⟨Ml.toArray⟩ w he.env (by show Ml.toArray.size<=maxLen;unfold maxLen;decide) (by show _ ∉ Ml.toArray.toList;rw[toList_toArray];decide);simp only[toList_toArray] at hL;rw[hp] at hL;replace hL:AA 9 #[.string ⟨Ml.toArray⟩] w λ e w'=>(∃v,e=.returned (.tuple #[v,iv 0,iv 0])/\Ez (From w) w' p v)/\Below w w w':=hL
 obtain⟨hw,hc⟩:=Py hp;go_enter func8,ntmps8;go_wp2_with fail;refine hL.mono ?_;rintro e w2 ⟨⟨v,rfl,hx⟩,ab⟩;obtain⟨b3,b7,aw,b6,b5,b4,hv⟩:=hx.cells;subst hv;have aq:=he.below ab;obtain⟨wz,wf,ay,b0,lz,lf,aa,xz,xf⟩:=Y8 w2 (iv p.version) (.slice b3 b7 aw) (.slice b6 b5 b4);have hC:=H6 (hx.since (Since.of_below aa)) hw hc (aq.below aa);rw[al] at hC;have ah:=ab.trans (aa.mono ab.size);obtain⟨z0,z1,z2,m0,m1,m2⟩:=Ad xz;obtain⟨q0,q1,q2,-⟩:=Ad xf;clear hL hx aa aq hp al xz xf;go_wp2_with fail;refine hC.mono ?_;rintro e w4 ⟨⟨ss,fs,rfl,au⟩,ar⟩;clear hC z0 z1 z2 m0 m1 m2 q0 q1 q2 ay b0;obtain⟨s1,sn,sc,g1,o1,d1,g2,o2,d2,g3,o3,d3,g4,o4,d4,p2,r2,l2,l3,h2,h3,rfl,rfl,⟨am,a9,ag,af⟩,u0,⟨a0,a1,a2,a3,a4,a5,a6,a7,a8⟩,e0,e6,v0,v8⟩:=Vj au hf hb;have ai:=ah.trans (ar.mono ah.size);obtain⟨wy,wg,bb,bj,ly,lg,ad,xy,xg⟩:=Y8 w4 (iv c.version) (.slice s1 sn sc) (sL g1 o1 1 d1);obtain⟨z0,z1,z2,m0,m1,m2⟩:=Ad xy;obtain⟨q0,q1,q2,-⟩:=Ad xg;obtain⟨bc,-⟩:=bcell ad;replace u0:=(bc _ _ am).trans u0;replace a0:=(bc _ _ a9).trans a0;replace a1:=(bc _ _ a9).trans a1;replace a2:=(bc _ _ a9).trans a2;replace a3:=(bc _ _ a9).trans a3;replace a4:=(bc _ _ a9).trans a4;replace a5:=(bc _ _ a9).trans a5;replace a6:=(bc _ _ a9).trans a6;replace a7:=(bc _ _ a9).trans a7;replace a8:=(bc _ _ a9).trans a8;replace e0:=(bc _ _ ag).trans e0;replace e6:=(bc _ _ ag).trans e6;replace v0:=(bc _ _ af).trans v0;replace v8:=(bc _ _ af).trans v8
 have az:=ad.size;have aj:=ai.trans (ad.mono ai.size);have k1:g1<wg:=by omega
 have k2:g2<wg:=by omega
 have k3:g3<wg:=by omega
 have k4:g4<wg:=by omega
 obtain⟨wx,wh,bf,ba,ae,b8,b9,ax,xh,xx⟩:=Jm wg (iv k) sE (iv 0) (.bool true) (iv n) (sL g3 o3 1 d3) (.slice p2 l2 h2) (.slice r2 l3 h3) (iv 0);have lx:wg<wx.heap.size:=by omega
 have lh:wg<wh.heap.size:=by omega
 obtain⟨bd,-⟩:=bcell ae;have bh:=(bd _ _ k3).trans e0;have bi:=(bd _ _ k3).trans e6;have bl:=(bd _ _ k4).trans v0;have bn:=(bd _ _ k4).trans v8;obtain⟨y0,y1,y2,y3,y4,y5,y6,y7,y8,j0,j1,j2,j3,j4,j5,j6,j7,j8⟩:=Aj xx;obtain⟨i0,i1,i2,i3,i4,i5,i6,i7,i8,-⟩:=Aj xh;have av:=ae.size;have bg:g3<wh:=by omega
 have bk:g4<wh:=by omega
 have ak:=aj.trans (ae.mono aj.size);clear b8 b9 bc bd au ar ah ai ad ae aj ab xy xg xh xx ax hf hb am a9 ag af av az;go_wp2_with fail;go_ret;exact⟨rfl,ak⟩
theorem Ay2{B:AS}:Dg B w ⟨0,[],[]⟩ Jf:=⟨sZ,sZ,rfl,⟨⟨rfl,AI ⟨rfl,rfl⟩⟩,.nil⟩,[],⟨⟨rfl,AI ⟨rfl,rfl⟩⟩,.nil⟩,rfl⟩
theorem Za{l:AQ}{a er:Nat}(h:Px.parse l=.inr (a,er)):er≠0:=by
 rcases parse_bad_cases h with h | ⟨ts,h1,h2⟩
 .exact h.2.1
 .omega
end
section
open Go.RowKit
open Lx (B rho)
open Ck (CE CS CF CP OkE OkEs OkS OkSs LsV Uy CfOk OkCP VT NW L3 M2 slF)
structure Nx(w w':World):Prop where
 size:w<=w'.heap.size
 frozen:∀g j,g<w.heap.size->w'.frozen? ⟨g,j,none⟩=w.frozen? ⟨g,j,none⟩
 cell:∀g o,g<w.heap.size->w'.cell? ⟨g,o,none⟩=w.cell? ⟨g,o,none⟩\/∃t,Jj t/\w.cell? ⟨g,o,none⟩=some (.string ⟨t.toArray⟩)/\w'.cell? ⟨g,o,none⟩=some (.string ⟨(unr t).toArray⟩)
def Sty(u:Value):Prop:=∀t:B,u=.string ⟨t.toArray⟩->Jj t->unr t=t
theorem Ks{a b:B}(h:(Value.string ⟨a.toArray⟩)=.string ⟨b.toArray⟩):a=b:=by
 have:=congrArg (λ v=>match v with | .string s=>s.data.toList | _=>[]) h;simpa using this
theorem Nx.stay(x:Nx w w'){o:Nat}(hg:g<w){u:Value}(h:w.cell? ⟨g,o,none⟩=some u)(hs:Sty u):w'.cell? ⟨g,o,none⟩=some u:=by
 rcases x.cell g o hg with e | ⟨t,h1,h2,h3⟩
 .rw[e];exact h
 .rw[h] at h2;have e:=Option.some.inj h2;rw[h3,e,hs t e h1]
theorem sty_int{k:IntKind}{n:Int}:Sty (.int k n):=λ t e=>by cases e
theorem Mi{b:Bool}:Sty (.bool b):=λ t e=>by cases e
theorem Jn{a:Option Addr}{n c:Nat}:Sty (.slice a n c):=λ t e=>by cases e
theorem sty_vt{t:B}(h:VT t):Sty (.string ⟨t.toArray⟩):=λ u e hu=>by
 have:=Ks e;subst this;exact absurd hu (Bb2 h)
theorem Qj{t:B}(h:NW t):Sty (.string ⟨t.toArray⟩):=λ u e hu=>by
 have:=Ks e;subst this;exact Ax0 h
theorem Xf:Sty sE:=λ u e hu=>by
 have:([]:B)=u:=Ks e;exact absurd this.symm hu.2.1
theorem SlRow.stay{B:AS}{n:Nat}{row:AR}(h:SlRow B w sz v n row)(x:Nx w w')(hs:∀u∈row,Sty u):SlRow B w' sz v n row:=by
 obtain⟨h1,h2⟩:=h;refine⟨h1,?_⟩;rcases h2 with h2 | ⟨g,o,cap,hv,hc,hm,hB,hg,r⟩
 .exact AI h2
 .exact AJ ⟨g,o,cap,hv,hc,hm,hB,by have:=x.size;omega,λ j u hj=>x.stay hg (r j u hj) (hs u (mem_of_getElem? hj))⟩
theorem Ht.stay{B:AS}(h:Ht B w v)(x:Nx w w'):Ht B w' v:=λ g o n c e=>by
 obtain⟨h1,h2,h3⟩:=h g o n c e;exact⟨h1,by have:=x.size;omega,λ j=>by rw[x.frozen g j h2];exact h3 j⟩
theorem SlRow.sty{B:AS}{n:Nat}{row:AR}(h:SlRow B w sz v n row):Sty v:=by
 obtain⟨a,c,rfl,-⟩:=h.slice;exact Jn
mutual
theorem Ce.stay{B:AS}{w w':World}(x:Nx w w'):∀{e:CE} {cs:AR},Ce B w e cs->Ck.OkE e->Ce B w' e cs/\∀u∈cs,Sty u
 | .mk k o n t s y a,cs,h,ok=>by
  rw[Ce] at h;rw[Ck.OkE] at ok;obtain⟨sl,row,rfl,h1,h2⟩:=h;obtain⟨rfl,a3,a0⟩:=ok;obtain⟨k1,k2⟩:=Ar.stay x h2 a0;refine⟨by rw[Ce];exact⟨sl,row,rfl,h1.stay x k2,k1⟩,λ u hu=>?_⟩;simp only[mem_cons,not_mem_nil,or_false] at hu;rcases hu with rfl | rfl | rfl | rfl | rfl | rfl | rfl | rfl
  .exact sty_int
  .exact sty_int
  .exact sty_int
  .exact Xf
  .exact sty_int
  .exact sty_vt a3
  .exact h1.sty
  .exact sty_int
theorem Ar.stay{B:AS}{w w':World}(x:Nx w w'):∀{l:List CE} {row:AR},Ar B w l row->Ck.OkEs l->Ar B w' l row/\∀u∈row,Sty u
 | [],row,h,_=>by
  rw[Ar] at h;subst h;exact⟨by rw[Ar],λ u hu=>by cases hu⟩
 | e :: r,row,h,ok=>by
  rw[Ar] at h;rw[Ck.OkEs] at ok;obtain⟨c1,c2,rfl,h1,h2⟩:=h;obtain⟨k1,k2⟩:=Ce.stay x h1 ok.1;obtain⟨k3,k4⟩:=Ar.stay x h2 ok.2;refine⟨by rw[Ar];exact⟨c1,c2,rfl,k1,k3⟩,λ u hu=>?_⟩;rcases mem_append.1 hu with hu | hu
  .exact k2 u hu
  .exact k4 u hu
end
mutual
theorem Ch.stay{B:AS}{w w':World}(x:Nx w w'):∀{e:CS} {cs:AR},Ch B w e cs->Ck.OkS e->Ch B w' e cs/\∀u∈cs,Sty u
 | .mk k s f n es b c,cs,h,ok=>by
  rw[Ch] at h;rw[Ck.OkS] at ok;obtain⟨s1,s2,s3,r1,r2,r3,rfl,h1,h2,h3,h4,h5,h6⟩:=h;obtain⟨a4,a3,a0⟩:=ok;obtain⟨k1,k2⟩:=Ar.stay x h2 a4;obtain⟨k3,k4⟩:=Aq.stay x h4 a3;obtain⟨k5,k6⟩:=Aq.stay x h6 a0;refine⟨by rw[Ch];exact⟨s1,s2,s3,r1,r2,r3,rfl,h1.stay x k2,k1,h3.stay x k4,k3,h5.stay x k6,k5⟩,λ u hu=>?_⟩;simp only[mem_cons,not_mem_nil,or_false] at hu;rcases hu with rfl | rfl | rfl | rfl | rfl | rfl | rfl | rfl | rfl
  .exact sty_int
  .exact Xf
  .exact sty_int
  .exact Mi
  .exact sty_int
  .exact h1.sty
  .exact h3.sty
  .exact h5.sty
  .exact sty_int
theorem Aq.stay{B:AS}{w w':World}(x:Nx w w'):∀{l:List CS} {row:AR},Aq B w l row->Ck.OkSs l->Aq B w' l row/\∀u∈row,Sty u
 | [],row,h,_=>by
  rw[Aq] at h;subst h;exact⟨by rw[Aq],λ u hu=>by cases hu⟩
 | e :: r,row,h,ok=>by
  rw[Aq] at h;rw[Ck.OkSs] at ok;obtain⟨c1,c2,rfl,h1,h2⟩:=h;obtain⟨k1,k2⟩:=Ch.stay x h1 ok.1;obtain⟨k3,k4⟩:=Aq.stay x h2 ok.2;refine⟨by rw[Aq];exact⟨c1,c2,rfl,k1,k3⟩,λ u hu=>?_⟩;rcases mem_append.1 hu with hu | hu
  .exact k2 u hu
  .exact k4 u hu
end
theorem Ew.stay{B:AS}(x:Nx w w'){l:List CS}(h:Ew B w l v)(ok:Ck.OkSs l):Ew B w' l v:=by
 obtain⟨row,h1,h2⟩:=h;obtain⟨k1,k2⟩:=Aq.stay x h2 ok;exact⟨row,h1.stay x k2,k1⟩
theorem Hi.stay{B:AS}(x:Nx w w'){l:List Lx.B}(h:Hi B w l v)(ok:LsV l):Hi B w' l v:=by
 have h':SlRow B w 1 v l.length (l.map λ t=>.string ⟨t.toArray⟩):=h;refine SlRow.stay h' x λ u hu=>?_
 obtain⟨t,ht,rfl⟩:=mem_map.1 hu;exact sty_vt (ok t ht)
theorem B7.stay{B:AS}(x:Nx w w'){l:List (Lx.B × Lx.B)}(h:B7 B w l v)(ok:∀s∈l,Uy s):B7 B w' l v:=by
 have h':SlRow B w 3 v l.length (l.flatMap A1):=h.1;refine⟨SlRow.stay h' x λ u hu=>?_,h.2.stay x⟩;obtain⟨s,hs,hu⟩:=mem_flatMap.1 hu;have k:=ok s hs;simp only[A1,mem_cons,not_mem_nil,or_false] at hu;rcases hu with rfl | rfl | rfl
 .exact Qj k.2.1
 .exact sty_vt k.2.2
 .exact sty_int
theorem Bm.stay{B:AS}{w w':World}(x:Nx w w'):∀{l:List CF} {row:AR},Bm B w l row->(∀f∈l,CfOk f)->Bm B w' l row/\∀u∈row,Sty u
 | [],row,h,_=>by
  have h:row=[]:=h;subst h;exact⟨rfl,λ u hu=>by cases hu⟩
 | f :: r,row,h,ok=>by
  obtain⟨c1,c2,rfl,⟨ps,ls,bs,rfl,h1,h2,h3⟩,h4⟩:=h;obtain⟨k3,k4⟩:=Bm.stay x h4 (λ y hy=>ok y (AH _ hy));have k:=ok f (AC ..);refine⟨⟨_,c2,rfl,⟨ps,ls,bs,rfl,B7.stay x h1 k.par,Hi.stay x h2 k.loc,Ew.stay x h3 k.body⟩,k3⟩,λ u hu=>?_⟩;rcases mem_append.1 hu with hu | hu
  .simp only[mem_cons,not_mem_nil,or_false] at hu;rcases hu with rfl | rfl | rfl | rfl | rfl | rfl | rfl
   .exact Qj k.name.2
   .exact Mi
   .exact SlRow.sty h1.1
   .exact sty_vt k.res
   .exact SlRow.sty h2
   .obtain⟨row,h3,-⟩:=h3;exact h3.sty
   .exact sty_int
  .exact k4 u hu
theorem Dg.stay{B:AS}(x:Nx w w'){c:CP}(h:Dg B w c v)(ok:OkCP c):Dg B w' c v:=by
 obtain⟨ss,fs,e,h1,row,h2,h3⟩:=h;obtain⟨k1,k2⟩:=Bm.stay x h3 ok.fn;exact⟨ss,fs,e,B7.stay x h1 ok.st,row,⟨h2.1.stay x k2,h2.2.stay x⟩,k1⟩
theorem B7.back{B:AS}(x:Nx w w'){l:List (Lx.B × Lx.B)}{sa:Option Addr}{sn sc:Nat}(h:B7 B w (l.map slF) (.slice sa sn sc))(ok:∀s∈l,Uy s)(hn:∀i s,l[i]?=some s->∃g o,sa=some ⟨g,o,none⟩/\w'.cell? ⟨g,o+i*3,none⟩=some (.string ⟨s.1.toArray⟩)):B7 B w' l (.slice sa sn sc):=by
 have h':SlRow B w 3 (.slice sa sn sc) (l.map slF).length ((l.map slF).flatMap A1):=h.1;have a0:∀m:List (Lx.B × Lx.B),(m.flatMap A1).length=m.length*3:=λ m=>by
  induction m with
  | nil=>rfl
  | cons a r ih=>simp only[flatMap_cons,length_append,ih,A1,length_cons,length_nil];omega
 obtain⟨h1,h2⟩:=h';rw[length_map] at h1 h2;refine⟨⟨a0 l,?_⟩,h.2.stay x⟩;rcases h2 with h2 | ⟨g,o,cap,hv,hc,hm,hB,hg,r⟩
 .exact AI h2
 .refine AJ ⟨g,o,cap,hv,hc,hm,hB,by have:=x.size;omega,λ j u hj=>?_⟩;simp only[Value.slice.injEq] at hv;have a6:=(AK hj).1;rw[a0] at a6;obtain⟨s,hs⟩:∃s,l[j / 3]?=some s:=⟨l[j / 3],AN (by omega)⟩;have a5:(l.map slF)[j / 3]?=some (slF s):=by rw[List.getElem?_map,hs];rfl
  obtain⟨a1,a2,a3⟩:=Fe hs;obtain⟨b1,b2,b3⟩:=Fe a5;have k:=ok s (mem_of_getElem? hs);have a4:j % 3=0\/j % 3=1\/j % 3=2:=by omega
  rcases a4 with e | e | e
  .have ej:j=j / 3*3:=by omega
   rw[ej,a1] at hj;cases hj;obtain⟨g',o',e1,e2⟩:=hn _ _ hs;rw[hv.1] at e1;simp only[Option.some.injEq,Addr.mk.injEq,and_true] at e1;obtain⟨rfl,rfl⟩:=e1;rw[ej];exact e2
  .have ej:j=j / 3*3+1:=by omega
   rw[ej,a2] at hj;cases hj;rw[ej];exact x.stay hg (r _ _ b2) (sty_vt k.2.2)
  .have ej:j=j / 3*3+2:=by omega
   rw[ej,a3] at hj;cases hj;rw[ej];exact x.stay hg (r _ _ b3) sty_int
end
section
open Go.RowKit
open Lx (B rho)
open Ck (CE CS CF CP LsV Uy CfOk OkCP VT NW L3 M2 slF)
theorem Nx.has(x:Nx w w'){o:Nat}(hg:g<w){u:Value}(h:w.cell? ⟨g,o,none⟩=some u):∃u',w'.cell? ⟨g,o,none⟩=some u':=by
 rcases x.cell g o hg with e | ⟨t,h1,h2,h3⟩
 .exact⟨u,by rw[e];exact h⟩
 .exact⟨_,h3⟩
theorem Dg.back{B:AS}(x:Nx w w'){c:CP}{V:Int}{sa fa:Option Addr}{sn sc fn fc:Nat}(h:Dg B w (L3 c) (.agg #[iv V,.slice sa sn sc,.slice fa fn fc]))(ok:OkCP c)
  (hS:∀i s,c.states[i]?=some s->∃g o,sa=some ⟨g,o,none⟩/\w'.cell? ⟨g,o+i*3,none⟩=some (.string ⟨s.1.toArray⟩))
  (hF:∀i f,c.fns[i]?=some f->∃g o,fa=some ⟨g,o,none⟩/\w'.cell? ⟨g,o+i*7,none⟩=some (.string ⟨f.name.toArray⟩))
  (hP:∀i f,c.fns[i]?=some f->∀g o pa pn pc,fa=some ⟨g,o,none⟩->w.cell? ⟨g,o+i*7+2,none⟩=some (.slice pa pn pc)->∀k p,f.params[k]?=some p->∃g2 o2,pa=some ⟨g2,o2,none⟩/\w'.cell? ⟨g2,o2+k*3,none⟩=some (.string ⟨p.1.toArray⟩)) :
  Dg B w' c (.agg #[iv V,.slice sa sn sc,.slice fa fn fc]):=by
 obtain⟨k1,-,-,-,-,-,k7⟩:=h.at;obtain⟨ss,fs,e,h1,row,h2,h3⟩:=h;simp only[Value.agg.injEq,Array.mk.injEq,List.cons.injEq,and_true,Value.int.injEq,true_and] at e;obtain⟨e1,rfl,rfl⟩:=e;have ai:(L3 c).fns.length=c.fns.length:=length_map ..;have af:B7 B w' c.states (.slice sa sn sc):=B7.back x h1 ok.st hS;rw[ai] at h2;have hV:V=c.version:=k1;subst hV;by_cases h0:c.fns.length=0
 .have ad:c.fns=[]:=eq_nil_of_length_eq_zero h0;have hr:row=[]:=eq_nil_of_length_eq_zero (by rw[h2.1.1,h0]);refine⟨_,_,rfl,af,row,⟨h2.1.stay x (by rw[hr];exact λ u hu=>by cases hu),h2.2.stay x⟩,?_⟩;rw[ad,hr];rfl
 .obtain⟨g,o,cap,hv,hc,hm,hB,hg,r⟩:=h2.cells (by omega);simp only[Value.slice.injEq] at hv;obtain⟨ae,al,am⟩:=hv;obtain⟨row',aa⟩:∃row':AR,row'=(List.range (c.fns.length*7)).map λ j=>(w'.cell? ⟨g,o+j,none⟩).getD undef:=⟨_,rfl⟩
  have a8:row'.length=c.fns.length*7:=by rw[aa];simp
  have a7:∀j u,j<c.fns.length*7->w'.cell? ⟨g,o+j,none⟩=Option.some u->row'[j]?=Option.some u:=by
   intro j u hj hu;rw[aa,List.getElem?_map,List.getElem?_range hj];simp[hu]
  have ah:SlRow B w' 7 (.slice fa fn fc) c.fns.length row':=by
   refine⟨a8,AJ ⟨g,o,cap,by rw[ae,al,am],hc,hm,hB,by have:=x.size;omega,λ j u hj=>?_⟩⟩;have ab:=(AK hj).1;rw[a8] at ab;obtain⟨u0,aj⟩:∃u0,row[j]?=Option.some u0:=⟨row[j]'(by rw[h2.1.1];exact ab),AN _⟩;obtain⟨u',ag⟩:=x.has hg (r j u0 aj);rw[a7 j u' ab ag] at hj;cases hj;exact ag
  refine⟨_,_,rfl,af,row',⟨ah,h2.2.stay x⟩,Di.all a8 λ i f hf=>?_⟩;have hi:=(AK hf).1;have kf:=ok.fn f (mem_of_getElem? hf);obtain⟨g',o',pc,lc,bc,pa,la,ba,m1,m2,⟨a0,a1,a2,a3,a4,a5,a6⟩,hp,hl,hb⟩:=k7 i (M2 f) (by show (c.fns.map M2)[i]?=_;rw[List.getElem?_map,hf];rfl);have aq:=hP i f hf g' o' pa _ pc m1 a2;rw[ae] at m1;simp only[Option.some.injEq,Addr.mk.injEq,and_true] at m1;obtain⟨rfl,rfl⟩:=m1;obtain⟨g3,o3,n1,n2⟩:=hF i f hf;rw[ae] at n1;simp only[Option.some.injEq,Addr.mk.injEq,and_true] at n1;obtain⟨rfl,rfl⟩:=n1;have ak:(M2 f).params.length=f.params.length:=length_map ..;rw[ak] at a2 hp;refine⟨[.string ⟨f.name.toArray⟩,.bool f.on,.slice pa f.params.length pc,.string ⟨f.result.toArray⟩,.slice la f.locals.length lc,.slice ba f.body.length bc,iv 0],⟨_,_,_,rfl,B7.back x hp kf.par aq,Hi.stay x hl kf.loc,Ew.stay x hb kf.body⟩,λ j hj=>?_⟩;have a9:i*7+j<c.fns.length*7:=by omega
  have c1:=x.stay m2 a1 Mi;have c2:=x.stay m2 a2 Jn;have c3:=x.stay m2 a3 (sty_vt kf.res);have c4:=x.stay m2 a4 Jn;have c5:=x.stay m2 a5 Jn;have c6:=x.stay m2 a6 sty_int
  match j,hj with
  | 0,_=>exact a7 _ _ a9 n2
  | 1,_=>exact a7 _ _ a9 (by rw[<-Nat.add_assoc];exact c1)
  | 2,_=>exact a7 _ _ a9 (by rw[<-Nat.add_assoc];exact c2)
  | 3,_=>exact a7 _ _ a9 (by rw[<-Nat.add_assoc];exact c3)
  | 4,_=>exact a7 _ _ a9 (by rw[<-Nat.add_assoc];exact c4)
  | 5,_=>exact a7 _ _ a9 (by rw[<-Nat.add_assoc];exact c5)
  | 6,_=>exact a7 _ _ a9 (by rw[<-Nat.add_assoc];exact c6)
theorem Nx.put(x:Nx w w1){o:Nat}(hg:g<w){n:B}(hn:NW n)(hm:Jj (rho n))(h:w.cell? ⟨g,o,none⟩=some (.string ⟨(rho n).toArray⟩)):Nx w (w1.setCell ⟨g,o,none⟩ (.string ⟨n.toArray⟩))/\(w1.setCell ⟨g,o,none⟩ (.string ⟨n.toArray⟩)).cell? ⟨g,o,none⟩=some (.string ⟨n.toArray⟩):=by
 obtain⟨u',a0⟩:=x.has hg h;have s1:=World.cell?_setCell_same w1 ⟨g,o,none⟩ (.string ⟨n.toArray⟩) a0;refine⟨⟨by have:=x.size;simp[World.setCell];omega,λ g' j hg'=>by rw[World.frozen?_setCell];exact x.frozen g' j hg',λ g' o' hg'=>?_⟩,s1⟩;by_cases e:(⟨g,o,none⟩:Addr)=⟨g',o',none⟩
 .simp only[Addr.mk.injEq,and_true] at e;obtain⟨rfl,rfl⟩:=e;exact AJ ⟨rho n,hm,h,by rw[s1,Ap5 hn]⟩
 .rw[World.cell?_setCell_other (w:=w1) (h:=e)];exact x.cell g' o' hg'
theorem Y6(x:Nx w w1){o g' o':Nat}(hg:g<w){n m:B}(hn:NW n)(hm:NW m)(h:w.cell? ⟨g,o,none⟩=some (.string ⟨(rho n).toArray⟩))(h':w.cell? ⟨g',o',none⟩=some (.string ⟨(rho m).toArray⟩))(k:w1.cell? ⟨g',o',none⟩=some (.string ⟨m.toArray⟩)):(w1.setCell ⟨g,o,none⟩ (.string ⟨n.toArray⟩)).cell? ⟨g',o',none⟩=some (.string ⟨m.toArray⟩):=by
 by_cases e:(⟨g,o,none⟩:Addr)=⟨g',o',none⟩
 .have e':=e;simp only[Addr.mk.injEq,and_true] at e';obtain⟨rfl,rfl⟩:=e';rw[h] at h';have e2:=(Ck.rho_inj hn hm).1 (Ks (Option.some.inj h'));subst e2;exact World.cell?_setCell_same w1 ⟨g,o,none⟩ (.string ⟨n.toArray⟩) k
 .rw[World.cell?_setCell_other (w:=w1) (h:=e)];exact k
structure Nv(W0:World)(bA bB n0:Nat)(w wr:World):Prop where
 nx:Nx W0 wr
 a:wr.heap[bA]?=W0.heap[bA]?
 b:wr.heap[bB]?=W0.heap[bB]?
 be:Below n0 w wr
theorem Nx.refl(w:World):Nx w w:=⟨AD _,λ _ _ _=>rfl,λ _ _ _=>AI rfl⟩
theorem Nx.drewN(x:Nx w w')(n:Nat):Nx w (w'.drewN n):=⟨x.size,λ g j h=>x.frozen g j h,λ g o h=>x.cell g o h⟩
theorem Nv.drewN{bA bB:Nat}(h:Nv W0 bA bB n0 w wr)(n:Nat):Nv W0 bA bB n0 w (wr.drewN n):=⟨h.nx.drewN n,h.a,h.b,cdrewN h.be n⟩
theorem Nv.put{bA bB:Nat}(h:Nv W0 bA bB n0 w wr){o:Nat}(hg:g<W0.heap.size)(hA:g≠bA)(hB:g≠bB)(h0:n0<=g){n:B}(hn:NW n)(hm:Jj (rho n))(hc:W0.cell? ⟨g,o,none⟩=some (.string ⟨(rho n).toArray⟩)):Nv W0 bA bB n0 w (wr.setCell ⟨g,o,none⟩ (.string ⟨n.toArray⟩)):=
 ⟨(h.nx.put hg hn hm hc).1,(AG _ _ _ _ (Ne.symm hA)).trans h.a,(AG _ _ _ _ (Ne.symm hB)).trans h.b,h.be.setCell (p:=⟨g,o,none⟩) h0 _⟩
def Kb(W0 wr:World)(g o:Nat)(m:B):Prop:=g<W0/\NW m/\W0.cell? ⟨g,o,none⟩=some (.string ⟨(rho m).toArray⟩)/\wr.cell? ⟨g,o,none⟩=some (.string ⟨m.toArray⟩)
theorem Kb.put(x:Nx W0 wr){o g' o':Nat}{n m:B}(hg:g<W0)(hn:NW n)(hc:W0.cell? ⟨g,o,none⟩=some (.string ⟨(rho n).toArray⟩))(h:Kb W0 wr g' o' m):Kb W0 (wr.setCell ⟨g,o,none⟩ (.string ⟨n.toArray⟩)) g' o' m:=
 ⟨h.1,h.2.1,h.2.2.1,Y6 x hg hn h.2.1 hc h.2.2.1 h.2.2.2⟩
theorem Kb.new(x:Nx W0 wr){o:Nat}{n:B}(hg:g<W0)(hn:NW n)(hm:Jj (rho n))(hc:W0.cell? ⟨g,o,none⟩=some (.string ⟨(rho n).toArray⟩)):Kb W0 (wr.setCell ⟨g,o,none⟩ (.string ⟨n.toArray⟩)) g o n:=
 ⟨hg,hn,hc,(x.put hg hn hm hc).2⟩
def B8(W0 wr:World)(l:List (B × B))(sa:Option Addr)(k:Nat):Prop:=∀j s,j<k->l[j]?=some s->∃g o,sa=some ⟨g,o,none⟩/\Kb W0 wr g (o+j*3) s.1
def Dj(W0 wr:World)(l:List CF)(fa:Option Addr)(k:Nat):Prop:=∀j f,j<k->l[j]?=some f->∃g o,fa=some ⟨g,o,none⟩/\Kb W0 wr g (o+j*7) f.name
def Dk(W0 wr:World)(l:List CF)(fa:Option Addr)(k:Nat):Prop:=∀j f,j<k->l[j]?=some f->∀g o pa pn pc,fa=some ⟨g,o,none⟩->W0.cell? ⟨g,o+j*7+2,none⟩=some (.slice pa pn pc)->B8 W0 wr f.params pa f.params.length
theorem B8.put(x:Nx W0 wr){o:Nat}{n:B}(hg:g<W0.heap.size)(hn:NW n)(hc:W0.cell? ⟨g,o,none⟩=some (.string ⟨(rho n).toArray⟩)){l:List (B × B)}{sa:Option Addr}{k:Nat}(h:B8 W0 wr l sa k):B8 W0 (wr.setCell ⟨g,o,none⟩ (.string ⟨n.toArray⟩)) l sa k:=λ j s hj hs=>by
 obtain⟨g',o',e,hd⟩:=h j s hj hs;exact⟨g',o',e,hd.put x hg hn hc⟩
theorem Dj.put(x:Nx W0 wr){o:Nat}{n:B}(hg:g<W0)(hn:NW n)(hc:W0.cell? ⟨g,o,none⟩=some (.string ⟨(rho n).toArray⟩)){l:List CF}{sa:Option Addr}{k:Nat}(h:Dj W0 wr l sa k):Dj W0 (wr.setCell ⟨g,o,none⟩ (.string ⟨n.toArray⟩)) l sa k:=λ j s hj hs=>by
 obtain⟨g',o',e,hd⟩:=h j s hj hs;exact⟨g',o',e,hd.put x hg hn hc⟩
theorem Dk.put(x:Nx W0 wr){o:Nat}{n:B}(hg:g<W0)(hn:NW n)(hc:W0.cell? ⟨g,o,none⟩=some (.string ⟨(rho n).toArray⟩)){l:List CF}{sa:Option Addr}{k:Nat}(h:Dk W0 wr l sa k):Dk W0 (wr.setCell ⟨g,o,none⟩ (.string ⟨n.toArray⟩)) l sa k:=λ j f hj hf g' o' pa pn pc e hc'=>(h j f hj hf g' o' pa pn pc e hc').put x hg hn hc
theorem B8.zero{l:List (B × B)}{sa:Option Addr}:B8 W0 wr l sa 0:=λ j s hj=>by omega
theorem Dj.zero{l:List CF}{sa:Option Addr}:Dj W0 wr l sa 0:=λ j s hj=>by omega
theorem Dk.zero{l:List CF}{sa:Option Addr}:Dk W0 wr l sa 0:=λ j s hj=>by omega
theorem B8.more{l:List (B × B)}{sa:Option Addr}{k:Nat}(h:B8 W0 wr l sa k){s:B × B}(hs:l[k]?=some s){o:Nat}(e:sa=some ⟨g,o,none⟩)(hd:Kb W0 wr g (o+k*3) s.1):B8 W0 wr l sa (k+1):=λ j t hj ht=>by
 by_cases hjk:j<k
 .exact h j t hjk ht
 .have:j=k:=by omega
  subst this;rw[hs] at ht;cases ht;exact⟨g,o,e,hd⟩
theorem Dj.more{l:List CF}{sa:Option Addr}{k:Nat}(h:Dj W0 wr l sa k){s:CF}(hs:l[k]?=some s){o:Nat}(e:sa=some ⟨g,o,none⟩)(hd:Kb W0 wr g (o+k*7) s.name):Dj W0 wr l sa (k+1):=λ j t hj ht=>by
 by_cases hjk:j<k
 .exact h j t hjk ht
 .have:j=k:=by omega
  subst this;rw[hs] at ht;cases ht;exact⟨g,o,e,hd⟩
theorem Dk.more{l:List CF}{fa:Option Addr}{k:Nat}(h:Dk W0 wr l fa k){f:CF}(hf:l[k]?=some f){o pn pc:Nat}{pa:Option Addr}(e:fa=some ⟨g,o,none⟩)(hc:W0.cell? ⟨g,o+k*7+2,none⟩=some (.slice pa pn pc))(hd:B8 W0 wr f.params pa f.params.length):Dk W0 wr l fa (k+1):=λ j t hj ht g' o' pa' pn' pc' e' hc'=>by
 by_cases hjk:j<k
 .exact h j t hjk ht g' o' pa' pn' pc' e' hc'
 .have:j=k:=by omega
  subst this;rw[hf] at ht;cases ht;rw[e] at e';simp only[Option.some.injEq,Addr.mk.injEq,and_true] at e';obtain⟨rfl,rfl⟩:=e';rw[hc] at hc';simp only[Option.some.injEq,Value.slice.injEq] at hc';rw[<-hc'.1];exact hd
theorem Ak7{B0:AS}(x:Nx W0 wr){c:CP}{V:Int}{sa fa:Option Addr}{sn sc fn fc:Nat}(h:Dg B0 W0 (L3 c) (.agg #[iv V,.slice sa sn sc,.slice fa fn fc]))(ok:OkCP c)(h1:B8 W0 wr c.states sa c.states.length)(h2:Dj W0 wr c.fns fa c.fns.length)(h3:Dk W0 wr c.fns fa c.fns.length):Dg B0 wr c (.agg #[iv V,.slice sa sn sc,.slice fa fn fc]):=by
 refine h.back x ok (λ i s hs=>?_) (λ i f hf=>?_) (λ i f hf g o pa pn pc e hc k p hp=>?_)
 .obtain⟨g,o,e,hd⟩:=h1 i s (AK hs).1 hs;exact⟨g,o,e,hd.2.2.2⟩
 .obtain⟨g,o,e,hd⟩:=h2 i f (AK hf).1 hf;exact⟨g,o,e,hd.2.2.2⟩
 .obtain⟨g2,o2,e2,hd⟩:=h3 i f (AK hf).1 hf g o pa pn pc e hc k p (AK hp).1 hp;exact⟨g2,o2,e2,hd.2.2.2⟩
theorem Dg.base'{B0 B1:AS}(hb:∀k,B0 k->k<w.heap.size->B1 k){c:CP}(h:Dg B0 w c v):Dg B1 w c v:=by
 obtain⟨ss,fs,e,h1,row,h2,h3⟩:=h;exact⟨ss,fs,e,Cq.base' h1 hb,row,h2.base' hb,h3.base hb⟩
theorem Tc{BA BB:AS}{l:List (B × B)}{sa ta:Option Addr}{sn sc tn tc:Nat}(hA:B7 BA W0 l (.slice sa sn sc))(hB:B7 BB W0 (l.map slF) (.slice ta tn tc))(ok:∀s∈l,Uy s){k:Nat}(hk:k<l.length) :
  ∃s ga oa gb ob,l[k]?=some s/\sa=some ⟨ga,oa,none⟩/\ta=some ⟨gb,ob,none⟩/\ga<W0.heap.size/\gb<W0.heap.size/\BB gb/\(∀j,W0.frozen? ⟨gb,j,none⟩=false)/\NW s.1/\Jj (rho s.1)/\W0.cell? ⟨gb,ob+k*3,none⟩=some (.string ⟨(rho s.1).toArray⟩)/\∀w',Nx W0 w'->w'.cell? ⟨ga,oa+k*3,none⟩=some (.string ⟨s.1.toArray⟩):=by
 obtain⟨s,hs⟩:∃s,l[k]?=some s:=⟨l[k],AN hk⟩;have o:=ok s (mem_of_getElem? hs);obtain⟨ga,oa,e1,e2,e3,-⟩:=Ai7 hA hs;obtain⟨gb,ob,m1,m2,m3,-⟩:=Ai7 hB (i:=k) (t:=slF s) (by rw[List.getElem?_map,hs];rfl);obtain⟨t1,t2,t3⟩:=hB.2 gb ob tn tc (by rw[m1]);exact⟨s,ga,oa,gb,ob,hs,e1,m1,e2,m2,t1,t3,o.2.1,Ah7 o.1,m3,λ w' x=>x.stay e2 e3 (Qj o.2.1)⟩
theorem Ak8{BA BB:AS}{c:CP}{V V':Int}{sa fa ta ha:Option Addr}{sn sc fn fc tn tc hn hc:Nat}(hA:Dg BA W0 c (.agg #[iv V,.slice sa sn sc,.slice fa fn fc]))(hB:Dg BB W0 (L3 c) (.agg #[iv V',.slice ta tn tc,.slice ha hn hc]))(ok:OkCP c){k:Nat}(hk:k<c.fns.length) :
  ∃f ga oa gb ob a3 a0,∃(pa pb:Option Addr),c.fns[k]?=some f/\fa=some ⟨ga,oa,none⟩/\ha=some ⟨gb,ob,none⟩/\ga<W0.heap.size/\gb<W0.heap.size/\BB gb/\(∀j,W0.frozen? ⟨gb,j,none⟩=false)/\NW f.name/\Jj (rho f.name)/\W0.cell? ⟨gb,ob+k*7,none⟩=some (.string ⟨(rho f.name).toArray⟩)/\(∀w',Nx W0 w'->w'.cell? ⟨ga,oa+k*7,none⟩=some (.string ⟨f.name.toArray⟩)) /\
   W0.cell? ⟨gb,ob+k*7+2,none⟩=some (.slice pb f.params.length a0)/\(∀w',Nx W0 w'->w'.cell? ⟨gb,ob+k*7+2,none⟩=some (.slice pb f.params.length a0)/\w'.cell? ⟨ga,oa+k*7+2,none⟩=some (.slice pa f.params.length a3))/\f.params.length<=9223372036854775807 /\
   B7 BA W0 f.params (.slice pa f.params.length a3)/\B7 BB W0 (f.params.map slF) (.slice pb f.params.length a0)/\∀s∈f.params,Uy s:=by
 obtain⟨f,hf⟩:∃f,c.fns[k]?=some f:=⟨c.fns[k],AN hk⟩;have o:=ok.fn f (mem_of_getElem? hf);obtain⟨-,-,-,-,-,-,kA⟩:=hA.at;obtain⟨-,-,-,-,-,-,kB⟩:=hB.at;obtain⟨ga,oa,a3,aa,a8,pa,la,ba,e1,e2,⟨e3,-,e4,-⟩,a5,-,-⟩:=kA k f hf;obtain⟨gb,ob,a0,a7,a9,pb,lb,bb,m1,m2,⟨m3,-,m4,-⟩,a4,-,-⟩:=kB k (M2 f) (by show (c.fns.map M2)[k]?=_;rw[List.getElem?_map,hf];rfl);have a6:(M2 f).params.length=f.params.length:=length_map ..;rw[a6] at m4 a4;have hT:Ht BB W0 (.slice ha hn hc):=by
  obtain⟨ss,fs,e,h1,row,h2,h3⟩:=hB;simp only[Value.agg.injEq,Array.mk.injEq,List.cons.injEq,and_true,Value.int.injEq,true_and] at e;obtain⟨-,rfl,rfl⟩:=e;exact h2.2
 obtain⟨t1,t2,t3⟩:=hT gb ob hn hc (by rw[m1]);exact⟨f,ga,oa,gb,ob,a3,a0,pa,pb,hf,e1,m1,e2,m2,t1,t3,o.name.2,Ah7 o.name.1,m3,λ w' x=>x.stay e2 e3 (Qj o.name.2),m4,λ w' x=>⟨x.stay m2 m4 Jn,x.stay e2 e4 Jn⟩,SlRow.n_le a5.1,a5,a4,o.par⟩
end
section
open Go.RowKit
open Px (WfP prT)
open Lx (B rho)
open Ck (CE CS CF CP LsV Uy CfOk OkCP VT NW L3 M2 slF)
theorem Al0:∀(l:B) (a:Bool),(Lx.rn a l).length<=2*l.length
 | [],a=>by simp[Lx.rn]
 | c :: r,a=>by
  have:=Al0 r (Lx.isPart c);rw[Lx.rn];split <;> simp <;> omega
theorem Lx.NoQ.q{l:Lx.B}(h:Lx.NoQ l):(34:UInt8) ∉ l:=λ m=>(h _ m).1 rfl
theorem rn_mem{c:UInt8}:∀(l:Lx.B) (a:Bool),c∈Lx.rn a l->c∈l\/c=119
 | [],a,h=>by simp[Lx.rn] at h
 | x :: r,a,h=>by
  rw[Lx.rn] at h;split at h
  .rcases mem_cons.1 h with h | h
   .exact AJ h
   .rcases mem_cons.1 h with h | h
    .exact AI (h ▸ AC)
    .rcases rn_mem r _ h with h | h
     .exact AI (AH _ h)
     .exact AJ h
  .rcases mem_cons.1 h with h | h
   .exact AI (h ▸ AC)
   .rcases rn_mem r _ h with h | h
    .exact AI (AH _ h)
    .exact AJ h
theorem Zd{l:B}{p:Px.Pr}(h:Px.parse l=.inl p):l.length<=16384:=by
 unfold Px.parse at h;rcases hl:Lx.lex true l with ts | x
 .unfold Lx.lex at hl;split at hl
  .cases hl
  .omega
 .rw[hl] at h;simp at h
def Vm(n:Nat)(w':World)(r:Ck.R CP)(V er:Int)(sa fa:Option Addr)(sn sc fn fc:Nat):Prop:=
 match r with
 | .inl c=>Dg (λ g=>n<=g/\g<w'.heap.size) w' c (.agg #[iv V,.slice sa sn sc,.slice fa fn fc])/\er=0/\sn=c.states.length/\fn=c.fns.length
 | .inr (a,x)=>Dg (λ g=>n<=g/\g<w'.heap.size) w' ⟨0,[],[]⟩ (.agg #[iv V,.slice sa sn sc,.slice fa fn fc])/\er=x/\sn=0/\fn=0
theorem Mn{r:Ck.R CP}{e:Ending}(h:Qo w r e w'):∃(V at_ er:Int) (sa fa:Option Addr) (sn sc fn fc:Nat),e=.returned (.tuple #[.agg #[iv V,.slice sa sn sc,.slice fa fn fc],iv at_,iv er])/\Below w w w'/\Vm w w' r V er sa fa sn sc fn fc:=by
 rcases r with c | ⟨a,x⟩
 .obtain⟨⟨ss,fs,rfl,hx⟩,hb⟩:=h;obtain⟨a3,a0,he,h1,row,h2,h3⟩:=hx;simp only[Value.agg.injEq,Array.mk.injEq,List.cons.injEq,and_true,true_and] at he;obtain⟨rfl,rfl⟩:=he;obtain⟨sa,sc,rfl,-,-⟩:=Cq.val h1;obtain⟨fa,fc,rfl,-,-⟩:=h2.val;exact⟨_,_,_,sa,fa,_,sc,_,fc,rfl,hb,Dg.base' (λ k h1 h2=>⟨h1,h2⟩) ⟨_,_,rfl,h1,row,h2,h3⟩,rfl,rfl,rfl⟩
 .obtain⟨rfl,hb⟩:=h;exact⟨0,a,x,none,none,0,0,0,0,rfl,hb,Ay2,rfl,rfl,rfl⟩
theorem Ar4{p q:Px.Pr}(h:(∃c,Ck.check p=.inl c/\Ck.check q=.inl (L3 c))\/∃a b e,Ck.check p=.inr (a,e)/\Ck.check q=.inr (b,e))(ok:∀c,Ck.check p=.inl c->OkCP c){n1 n2:Nat}{V1 a3 V2 a0:Int}{sa fa ta ha:Option Addr}{sn sc fn fc tn tc hn hc:Nat}(h1:Vm n1 w1 (Ck.check p) V1 a3 sa fa sn sc fn fc)(h2:Vm n2 w2 (Ck.check q) V2 a0 ta ha tn tc hn hc) :
  a3=a0/\∃c,OkCP c/\Dg (λ g=>n1<=g/\g<w1.heap.size) w1 c (.agg #[iv V1,.slice sa sn sc,.slice fa fn fc])/\Dg (λ g=>n2<=g/\g<w2.heap.size) w2 (L3 c) (.agg #[iv V2,.slice ta tn tc,.slice ha hn hc])/\sn=c.states.length/\fn=c.fns.length/\tn=c.states.length/\hn=c.fns.length:=by
 rcases h with⟨c,e1,e2⟩ | ⟨a,b,e,e1,e2⟩
 .rw[e1] at h1;rw[e2] at h2;obtain⟨k1,rfl,rfl,rfl⟩:=h1;obtain⟨m1,rfl,rfl,rfl⟩:=h2;exact⟨rfl,c,ok c e1,k1,m1,rfl,rfl,length_map ..,length_map ..⟩
 .rw[e1] at h1;rw[e2] at h2;obtain⟨k1,rfl,rfl,rfl⟩:=h1;obtain⟨m1,rfl,rfl,rfl⟩:=h2;exact⟨rfl,⟨0,[],[]⟩,⟨λ s hs=>(by cases hs),λ f hf=>(by cases hf)⟩,k1,m1,rfl,rfl,rfl,rfl⟩
theorem Qp{c:UInt8}{n:Nat}(hn:n<256)(h:¬c=UInt8.ofNat n):((c.toNat:Int) == (n:Int))=false:=by
 rw[beq_eq_false_iff_ne];intro e;refine h (UInt8.toNat_inj.1 ?_);rw[UInt8.toNat_ofNat_of_lt' (by exact hn)];omega
theorem tnames_walk(s:ByteArray)(w:World)(he:Env8 w)(hm:s.size<=maxLen):AA 6 #[.string s] w λ e w'=>e=.returned (.bool true)/\Below w w w':=by
 have d1:=Ta w he;have eo:s.size<=9223372036854775807:=by unfold maxLen at hm;omega
 go_enter func6,ntmps6;go_wp2_with fail;refine d1.mono ?_;rintro e w1 ⟨rfl,am⟩;have cl:=he.below am;clear d1;go_wp2_with fail
 go_loopg [3] s.size (λ g i wr=>∃k:Nat,k<=s.size/\g=s.size - k/\i=iv k/\wr=w1/\Aside (∀j (h:j<s.size),j<k->s[j]≠34/\s[j]≠35/\s[j]≠119))
 case atStart=>exact⟨0,AO _,rfl,rfl,rfl,λ j h hj=>by omega⟩
 case round=>
  obtain⟨k,hk,rfl,rfl,dw,bq⟩:=hrel;subst dw;by_cases hlt:k<s.size
  .have ad:(k:Int)<(s.size:Int):=by omega
   by_cases h1:s[k]=34
   .have e1:((s[k].toNat:Int) == 34)=true:=by rw[h1];rfl
    go_wp2_with fail
    go_ret;exact⟨rfl,am⟩
   have e1:((s[k].toNat:Int) == 34)=false:=Qp (n:=34) (by decide) h1;by_cases h2:s[k]=35
   .have e2:((s[k].toNat:Int) == 35)=true:=by rw[h2];rfl
    go_wp2_with fail
    go_ret;exact⟨rfl,am⟩
   have e2:((s[k].toNat:Int) == 35)=false:=Qp (n:=35) (by decide) h2;by_cases h3:s[k]=119
   .have e3:((s[k].toNat:Int) == 119)=true:=by rw[h3];rfl
    go_wp2_with fail
    go_ret;exact⟨rfl,am⟩
   have e3:((s[k].toNat:Int) == 119)=false:=Qp (n:=119) (by decide) h3;have dt:Aside (∀j (h:j<s.size),j<k+1->s[j]≠34/\s[j]≠35/\s[j]≠119):=λ j h hj=>by
    by_cases hjk:j<k
    .exact bq.out j h hjk
    .have:j=k:=by omega
     subst this;exact⟨h1,h2,h3⟩
   clear bq h1 h2 h3;go_wp2_with fail;go_roundg (s.size - (k+1))
   case measure=>omega
   case rel=>exact⟨k+1,by omega,rfl,by go_num,rfl,dt⟩
  .have ad:¬(k:Int)<(s.size:Int):=by omega
   have bl:Lx.NoQ s.data.toList:=by
    intro c hc;obtain⟨j,hj,rfl⟩:=mem_iff_getElem.1 hc;have ed:j<s.size:=by rw[Array.length_toList] at hj;exact hj
    exact bq.out j ed (by omega)
   clear bq;have hL:=Hs s wr cl.env hm bl.q;rcases hpr:Px.parse s.data.toList with p | ⟨a,er⟩
   rotate_left
   .rw[hpr] at hL;replace hL:AA 9 #[.string s] wr λ e w'=>e=.returned (.tuple #[Jf,iv a,iv er])/\Below wr wr w':=hL
    have ex:er≠0:=Za hpr;have ek:((er:Int) != 0)=true:=by simp;omega
    go_wp2_with fail
    refine hL.mono ?_;rintro e w2 ⟨rfl,bn⟩;have b6:=am.trans (bn.mono am.size);go_wp2;go_ret;exact⟨rfl,b6.alloc b6.size _⟩
   rw[hpr] at hL;replace hL:AA 9 #[.string s] wr λ e w'=>(∃v,e=.returned (.tuple #[v,iv 0,iv 0])/\Ez (From wr) w' p v)/\Below wr wr w':=hL
   obtain⟨hw,hc⟩:=Py hpr;have c9:=Ap4 bl hpr;have di:=Zd hpr;have cq:s.data.toList.length=s.size:=by rw[Array.length_toList];rfl
   rw[cq] at di;go_wp2_with fail;refine hL.mono ?_;rintro e w2 ⟨⟨v,rfl,bx⟩,bn⟩;obtain⟨sa,sn,sc,fa,fn,fc,hv⟩:=bx.cells;subst hv;have b6:Below w w w2:=am.trans (bn.mono am.size);obtain⟨wz,wf,ds,e0,lz,lf,c5,xz,xf⟩:=Y8 w2 (iv p.version) (.slice sa sn sc) (.slice fa fn fc);have cp:=b6.trans (c5.mono b6.size);have hx:=(bx.since (Since.of_below c5)).base (B':=λ _=>True) (λ _ _=>trivial);have hR:=Td s wf (by omega);obtain⟨z0,z1,z2,m0,m1,m2⟩:=Ad xz;obtain⟨q0,q1,q2,-⟩:=Ad xf;clear hL bx xz;go_wp2_with fail;refine hR.mono ?_;rintro e w4 ⟨rfl,bf⟩;clear hR z0 z1 z2 m0 m1 m2 q0 q1 q2 ds e0;have b4:=cp.trans (bf.mono cp.size);have du:=Al0 s.data.toList false;rw[cq] at du;have ae:=Hs ⟨(Lx.rn false s.data.toList).toArray⟩ w4 (he.below b4).env (by show (Lx.rn false s.data.toList).toArray.size<=maxLen;unfold maxLen;simp;omega) (by show _ ∉ (Lx.rn false s.data.toList).toArray.toList;rw[toList_toArray];exact λ h=>(rn_mem _ _ h).elim bl.q (by decide));simp only[toList_toArray] at ae;have ch:=hx.since (Since.of_below bf);have d2:=(bf.block _ lf).trans xf;have ez:=bf.size;have e8:w2<w4.heap.size:=by omega
   rcases Px.parse_rn bl hpr with⟨q,hq,d3⟩ | ⟨a,hq⟩
   rotate_left
   .rw[hq] at ae;replace ae:AA 9 #[.string ⟨(Lx.rn false s.data.toList).toArray⟩] w4 λ e w'=>e=.returned (.tuple #[Jf,iv a,iv 3])/\Below w4 w4 w':=ae
    go_wp2_with fail
    refine ae.mono ?_;rintro e w5 ⟨rfl,ay⟩;have ba:=b4.trans (ay.mono b4.size);go_wp2;go_ret;exact⟨rfl,ba.alloc ba.size _⟩
   rw[hq] at ae;replace ae:AA 9 #[.string ⟨(Lx.rn false s.data.toList).toArray⟩] w4 λ e w'=>(∃v,e=.returned (.tuple #[v,iv 0,iv 0])/\Ez (From w4) w' q v)/\Below w4 w4 w':=ae
   obtain⟨d5,cw⟩:=Py hq;have h2:=Ck.check_both As3 c9 d3;have cm:=λ c=>Ck.okCP_of (c:=c) c9
   go_wp2_with fail
   refine ae.mono ?_;rintro e w5 ⟨⟨v,rfl,bv⟩,ay⟩;clear ae;obtain⟨ta,tn,tc,ga,gn,gc,hv⟩:=bv.cells;subst hv;have ba:=b4.trans (ay.mono b4.size);obtain⟨wy,wg,dm,e7,ly,lg,bp,xy,xg⟩:=Y8 w5 (iv q.version) (.slice ta tn tc) (.slice ga gn gc);have ca:=ba.trans (bp.mono ba.size);have dq:=ay.size;have ak:Below w4 w4 wg:=ay.trans (bp.mono dq);have cz:=ch.since (Since.of_below ak);have dd:=(bv.since (Since.of_below bp)).base (B':=λ _=>True) (λ _ _=>trivial);have d9:=(ak.block _ e8).trans d2;have co:=H6 cz hw hc (he.below ca);obtain⟨z0,z1,z2,m0,m1,m2⟩:=Ad xy;obtain⟨q0,q1,q2,-⟩:=Ad d9;have em:w2<wg.heap.size:=by have:=ak.size;omega
   clear bv ch xy d2;go_wp2_with fail;refine co.mono ?_;rintro e w7 bo;obtain⟨V1,f0,d7,s1,f1,n1,c1,n2,c2,rfl,cf,bo⟩:=Mn bo;clear co z0 z1 z2 m0 m1 m2 q0 q1 q2 dm e7;obtain⟨wx,wh,dz,dj,lx,lh,bt,xx,xh⟩:=Y8 w7 (iv V1) (.slice s1 n1 c1) (.slice f1 n2 c2);have ea:=cf.size;have ab:Below wg wg wh:=cf.trans (bt.mono ea);have ci:=dd.since (Since.of_below ab);have cj:=(ab.block _ lg).trans xg;have bs:=ca.trans (ab.mono ca.size);have d6:=H6 ci d5 cw (he.below bs);obtain⟨z0,z1,z2,m0,m1,m2⟩:=Ad xx;obtain⟨q0,q1,q2,-⟩:=Ad cj;have ep:w5<wh.heap.size:=by have:=ab.size;omega
   clear dd xx d9 xf;go_wp2_with fail;refine d6.mono ?_;rintro e w9 bk;obtain⟨V2,eq,el,s2,f2,n3,c3,n4,c4,rfl,c7,bk⟩:=Mn bk;clear d6 z0 z1 z2 m0 m1 m2 q0 q1 q2 dz dj;obtain⟨wv,wi,e4,dy,lv,li,bu,xv,xi⟩:=Y8 w9 (iv V2) (.slice s2 n3 c3) (.slice f2 n4 c4);have d4:=c7.size;have a9:Below wh wh wi:=c7.trans (bu.mono d4);have b7:Below w7 w7 wi:=bt.trans (a9.mono bt.size);have al:=(a9.block _ lh).trans xh;have eh:=bs.trans (a9.mono bs.size);obtain⟨z0,z1,z2,m0,m1,m2⟩:=Ad xv;have f7:w7<wi.heap.size:=by have:=a9.size;omega
   have f3:w9<wi.heap.size:=li;obtain⟨rfl,c,bj,cr,d0,rfl,rfl,rfl,rfl⟩:=Ar4 h2 cm bo bk;have hA:=cr.keep (Since.of_below b7);have hB:=d0.keep (Since.of_below bu);have ey:(d7 != d7)=false:=by simp
   have ev:w<=wh.heap.size:=bs.size;have df:w7<wh.heap.size:=lh;have dx:wh<=w9.heap.size:=d4;clear bo bk h2 cm cr d0 xv bt b7 hw hc d5 cw cl c9 d3 hpr hq cz hx ci xg cj ab ak a9 c7 bu cf bp ay bf c5 bn am;obtain⟨-,-,-,dk,ej,av,-⟩:=hA.at;obtain⟨-,-,-,-,-,b9,-⟩:=hB.at;have aa:B7 (λ g=>wh.heap.size<=g/\g<w9.heap.size) wi (c.states.map slF) (.slice s2 (L3 c).states.length c3):=b9;clear b9;obtain⟨q0,q1,q2,-⟩:=Ad xi;obtain⟨p0,p1,p2,-⟩:=Ad al;have ct:Nv wi w7 w9 w w wi:=⟨Nx.refl _,rfl,rfl,eh⟩;go_wp2_with fail;clear z0 z1 z2 m0 m1 m2 q0 q1 q2 p0 p1 p2 e4 dy
   go_loopg [78] c.states.length (λ g i wr=>∃k:Nat,k<=c.states.length/\g=c.states.length - k/\i=iv k/\Aside (Nv wi w7 w9 w w wr/\B8 wi wr c.states s2 k))
   case atStart=>exact⟨0,AO _,rfl,rfl,⟨ct,B8.zero⟩⟩
   case round=>
    obtain⟨k,hk,rfl,rfl,ar⟩:=hrel;obtain⟨nv,hd⟩:=ar.out;clear ct ar;have db:=nv.nx.size;obtain⟨y0,y1,y2,-⟩:=Ad (nv.a.trans al);obtain⟨z0,z1,z2,-⟩:=Ad (nv.b.trans xi);have lA:w7.heap.size<wr.heap.size:=by omega
    have lB:w9<wr.heap.size:=by omega
    by_cases hlt:k<c.states.length
    .obtain⟨st,ga,oa,gb,ob,c6,rfl,rfl,la,lb,ee,b8,a6,ah,a5,a8⟩:=Tc av aa bj.st hlt;have ad:(k:Int)<(c.states.length:Int):=by omega
     have a4:Nv wi w7 w9 w w wr.drew:=nv.drewN 1;have a3:=a4.put lb (by omega) (by omega) (by omega) a6 ah a5;have dl:=(B8.put a4.nx lb a6 a5 (show B8 wi wr.drew c.states (some ⟨gb,ob,none⟩) k from hd)).more c6 rfl (Kb.new a4.nx lb a6 ah a5);have xn:=a8 wr nv.nx;have aw:wr.drew.frozen? ⟨gb,ob+k*3,none⟩=false:=by rw[a4.nx.frozen _ _ lb];exact b8 _
     obtain⟨u',c8⟩:=a4.nx.has lb a5;have ef:gb<wr:=by omega
     have dh:ga<wr:=by omega
     have az:(wr.drew.setCell ⟨gb,ob+k*3,none⟩ (.string ⟨st.1.toArray⟩)).cell? ⟨w9,1,none⟩=some (sL gb ob c.states.length c3)/\(wr.drew.setCell ⟨gb,ob+k*3,none⟩ (.string ⟨st.1.toArray⟩)).cell? ⟨w7,1,none⟩=some (sL ga oa c.states.length c1)/\(wr.drew.setCell ⟨gb,ob+k*3,none⟩ (.string ⟨st.1.toArray⟩)).cell? ⟨ga,oa+k*3,none⟩=some (.string ⟨st.1.toArray⟩):=
      ⟨(Ad (a3.b.trans xi)).2.1,(Ad (a3.a.trans al)).2.1,a8 _ a3.nx⟩
     clear a8 b8 a5 hA hB av aa;go_wp2_with fail;refine Vv.wpE_begin (S:=λ w'=>w'.cell? ⟨w9,1,none⟩=some (sL gb ob c.states.length c3)/\w'.cell? ⟨w7,1,none⟩=some (sL ga oa c.states.length c1)/\w'.cell? ⟨ga,oa+k*3,none⟩=some (.string ⟨st.1.toArray⟩)) (N:=λ _=>true) (by kernel_rfl) ?_;have a0:wr.drew.cell? ⟨w9,1,none⟩=some (sL gb ob c.states.length c3)/\wr.drew.cell? ⟨w7,1,none⟩=some (sL ga oa c.states.length c1)/\wr.drew.cell? ⟨ga,oa+k*3,none⟩=some (.string ⟨st.1.toArray⟩):=⟨z1,y1,xn⟩;refine Aa 86 [] 0 (pt w9 1) a0 ?_;refine Aa 87 [] 1 (sL gb ob c.states.length c3) a0 ?_;refine Aa 88 [] 2 (iv k) a0 ?_;refine Aa 89 [] 3 (pt w7 1) a0 ?_;refine Aa 90 [] 4 (sL ga oa c.states.length c1) a0 ?_;refine Aa 91 [] 5 (iv k) a0 ?_;refine Aa 92 [] 6 (pt ga (oa+k*3)) a0 ?_;refine Aa 93 [] 7 (pt ga (oa+k*3)) a0 ?_;refine Aa 94 [] 8 (.string ⟨st.1.toArray⟩) a0 ?_;refine Aa 95 [] 9 (pt gb (ob+k*3)) a0 ?_;refine Aa 96 [] 10 (pt gb (ob+k*3)) a0 ?_;refine Ah 11 λ K hK=>?_
     go_simp;refine hK _ _ (λ _=>az) ?_;clear hK K
     try simp only[aP]
     refine Vv.wpE_done (by kernel_rfl) ?_;simp only[Exit.inBlock,Exit.then];refine ‹∀(a:Act) (w:World),_->_› _ _ ?_;go_wp2_with fail;go_roundg (c.states.length - (k+1))
     case measure=>omega
     case rel=>exact⟨k+1,by omega,rfl,by go_num,⟨a3,dl⟩⟩
    .have ad:¬(k:Int)<(c.states.length:Int):=by omega
     have b3:k=c.states.length:=by omega
     rw[b3] at hd;clear av aa b3;have cg:Aside (Nv wi w7 w9 w w wr/\B8 wi wr c.states s2 c.states.length/\Dj wi wr c.fns f2 0/\Dk wi wr c.fns f2 0):=⟨nv,hd,Dj.zero,Dk.zero⟩;go_wp2_with fail;clear y0 y1 y2 z0 z1 z2 lA lB nv hd db
     go_loopg [101] c.fns.length (λ g i wr=>∃k:Nat,k<=c.fns.length/\g=c.fns.length - k/\i=iv k/\Aside (Nv wi w7 w9 w w wr/\B8 wi wr c.states s2 c.states.length/\Dj wi wr c.fns f2 k/\Dk wi wr c.fns f2 k))
     case atStart=>exact⟨0,AO _,rfl,rfl,cg⟩
     case round=>
      obtain⟨k,hk,rfl,rfl,ar⟩:=hrel;obtain⟨nv,aq,ai,af⟩:=ar.out;clear cg ar;have db:=nv.nx.size;obtain⟨y0,y1,y2,-⟩:=Ad (nv.a.trans al);obtain⟨z0,z1,z2,-⟩:=Ad (nv.b.trans xi);have lA:w7<wr.heap.size:=by omega
      have lB:w9<wr.heap.size:=by omega
      by_cases hlt:k<c.fns.length
      .obtain⟨f,ga,oa,gb,ob,bh,br,pa,pb,hf,rfl,rfl,la,lb,ee,b8,a6,ah,a5,a8,de,ax,ew,c0,bw,dv⟩:=Ak8 hA hB bj hlt;have ad:(k:Int)<(c.fns.length:Int):=by omega
       have e6:¬(c.fns.length:Int)<=(k:Int):=by omega
       obtain⟨xb,xa⟩:=ax wr nv.nx;have ef:gb<wr:=by omega
       have dh:ga<wr:=by omega
       clear hA hB;go_wp2_with fail
       go_quiet (fail)
       have b5:=nv.drewN nq;have bb:B8 wi (wr.drewN nq) c.states s2 c.states.length:=aq;have bg:Dj wi (wr.drewN nq) c.fns (some ⟨gb,ob,none⟩) k:=ai;have b0:Dk wi (wr.drewN nq) c.fns (some ⟨gb,ob,none⟩) k:=af;have eg:(wr.drewN nq).heap.size=wr.heap.size:=rfl;generalize wr.drewN nq=wd at *;clear nv aq ai af y0 y1 y2 z0 z1 z2 xa xb;obtain⟨y0,y1,y2,-⟩:=Ad (b5.a.trans al);obtain⟨z0,z1,z2,-⟩:=Ad (b5.b.trans xi);have a4:Nv wi w7 w9 w w wd.drew:=b5.drewN 1;have a3:=a4.put lb (by omega) (by omega) (by omega) a6 ah a5;have ag:=B8.put a4.nx lb a6 a5 (show B8 wi wd.drew c.states s2 c.states.length from bb);have aj:=(Dj.put a4.nx lb a6 a5 (show Dj wi wd.drew c.fns (some ⟨gb,ob,none⟩) k from bg)).more hf rfl (Kb.new a4.nx lb a6 ah a5);have a7:=Dk.put a4.nx lb a6 a5 (show Dk wi wd.drew c.fns (some ⟨gb,ob,none⟩) k from b0);have xn:=a8 wd b5.nx;have aw:wd.drew.frozen? ⟨gb,ob+k*7,none⟩=false:=by rw[a4.nx.frozen _ _ lb];exact b8 _
       obtain⟨u',c8⟩:=a4.nx.has lb a5;have ei:gb<wd:=by omega
       have e9:ga<wd:=by omega
       have e5:w7<wd.heap.size:=by omega
       have dn:w9<wd.heap.size:=by omega
       have az:(wd.drew.setCell ⟨gb,ob+k*7,none⟩ (.string ⟨f.name.toArray⟩)).cell? ⟨w9,2,none⟩=some (sL gb ob c.fns.length c4)/\(wd.drew.setCell ⟨gb,ob+k*7,none⟩ (.string ⟨f.name.toArray⟩)).cell? ⟨w7,2,none⟩=some (sL ga oa c.fns.length c2)/\(wd.drew.setCell ⟨gb,ob+k*7,none⟩ (.string ⟨f.name.toArray⟩)).cell? ⟨ga,oa+k*7,none⟩=some (.string ⟨f.name.toArray⟩):=
        ⟨(Ad (a3.b.trans xi)).2.2.1,(Ad (a3.a.trans al)).2.2.1,a8 _ a3.nx⟩
       clear a8 b8 bb bg b0;go_wp2_with fail;refine Vv.wpE_begin (S:=λ w'=>w'.cell? ⟨w9,2,none⟩=some (sL gb ob c.fns.length c4)/\w'.cell? ⟨w7,2,none⟩=some (sL ga oa c.fns.length c2)/\w'.cell? ⟨ga,oa+k*7,none⟩=some (.string ⟨f.name.toArray⟩)) (N:=λ _=>true) (by kernel_rfl) ?_;have a0:wd.drew.cell? ⟨w9,2,none⟩=some (sL gb ob c.fns.length c4)/\wd.drew.cell? ⟨w7,2,none⟩=some (sL ga oa c.fns.length c2)/\wd.drew.cell? ⟨ga,oa+k*7,none⟩=some (.string ⟨f.name.toArray⟩):=⟨z2,y2,xn⟩;refine Aa 126 [] 0 (pt w9 2) a0 ?_;refine Aa 127 [] 1 (sL gb ob c.fns.length c4) a0 ?_;refine Aa 128 [] 2 (iv k) a0 ?_;refine Aa 129 [] 3 (pt w7 2) a0 ?_;refine Aa 130 [] 4 (sL ga oa c.fns.length c2) a0 ?_;refine Aa 131 [] 5 (iv k) a0 ?_;refine Aa 132 [] 6 (pt ga (oa+k*7)) a0 ?_;refine Aa 133 [] 7 (pt ga (oa+k*7)) a0 ?_;refine Aa 134 [] 8 (.string ⟨f.name.toArray⟩) a0 ?_;refine Aa 135 [] 9 (pt gb (ob+k*7)) a0 ?_;refine Aa 136 [] 10 (pt gb (ob+k*7)) a0 ?_;refine Ah 11 λ K hK=>?_
       go_simp;refine hK _ _ (λ _=>az) ?_;clear hK K
       try simp only[aP]
       refine Vv.wpE_done (by kernel_rfl) ?_;simp only[Exit.inBlock,Exit.then];refine ‹∀(a:Act) (w:World),_->_› _ _ ?_
       try rw[show (wd.setCell ⟨gb,ob+k*7,none⟩ (.string ⟨f.name.toArray⟩)).drew=wd.drew.setCell ⟨gb,ob+k*7,none⟩ (.string ⟨f.name.toArray⟩) from rfl]
       clear az aw c8 xn y0 y1 y2 z0 z1 z2;generalize wd.drew.setCell ⟨gb,ob+k*7,none⟩ (.string ⟨f.name.toArray⟩)=we at *;clear a4 b5;have ec:=a3.nx.size;obtain⟨y0,y1,y2,-⟩:=Ad (a3.a.trans al);obtain⟨z0,z1,z2,-⟩:=Ad (a3.b.trans xi);obtain⟨xb,xa⟩:=ax we a3.nx;have ce:ga<we:=by omega
       have dr:w7<we.heap.size:=by omega
       have cy:Aside (Nv wi w7 w9 w w we/\B8 wi we c.states s2 c.states.length/\Dj wi we c.fns (some ⟨gb,ob,none⟩) (k+1)/\Dk wi we c.fns (some ⟨gb,ob,none⟩) k/\B8 wi we f.params pb 0):=⟨a3,ag,aj,a7,B8.zero⟩;clear ag aj a7 a3 a5 ah a6;go_wp2_with fail;clear y0 y1 y2 z0 z1 z2 xa xb ce dr ec
       go_loopg [144] f.params.length (λ g i wr=>∃j:Nat,j<=f.params.length/\g=f.params.length - j/\i=iv j/\Aside (Nv wi w7 w9 w w wr/\B8 wi wr c.states s2 c.states.length/\Dj wi wr c.fns (some ⟨gb,ob,none⟩) (k+1)/\Dk wi wr c.fns (some ⟨gb,ob,none⟩) k/\B8 wi wr f.params pb j))
       case atStart=>exact⟨0,AO _,rfl,rfl,cy⟩
       case round=>
        obtain⟨j,hj,rfl,rfl,ar⟩:=hrel;obtain⟨nv,aq,ai,af,bi⟩:=ar.out;clear cy ar;have en:=nv.nx.size;by_cases hlt2:j<f.params.length
        .obtain⟨st,gq,oq,gp,op,c6,rfl,rfl,lq,lp,et,cv,a6,ah,a5,a8⟩:=Tc c0 bw dv hlt2;have bc:(j:Int)<(f.params.length:Int):=by omega
         obtain⟨y0,y1,y2,-⟩:=Ad (nv.a.trans al);obtain⟨z0,z1,z2,-⟩:=Ad (nv.b.trans xi);obtain⟨xb,xa⟩:=ax wr nv.nx;have a4:Nv wi w7 w9 w w wr.drew:=nv.drewN 1;have a3:=a4.put lp (by omega) (by omega) (by omega) a6 ah a5;have ag:=B8.put a4.nx lp a6 a5 (show B8 wi wr.drew c.states s2 c.states.length from aq);have aj:=Dj.put a4.nx lp a6 a5 (show Dj wi wr.drew c.fns (some ⟨gb,ob,none⟩) (k+1) from ai);have a7:=Dk.put a4.nx lp a6 a5 (show Dk wi wr.drew c.fns (some ⟨gb,ob,none⟩) k from af);have cc:=(B8.put a4.nx lp a6 a5 (show B8 wi wr.drew f.params (some ⟨gp,op,none⟩) j from bi)).more c6 rfl (Kb.new a4.nx lp a6 ah a5);have xn:=a8 wr nv.nx;have aw:wr.drew.frozen? ⟨gp,op+j*3,none⟩=false:=by rw[a4.nx.frozen _ _ lp];exact cv _
         obtain⟨u',c8⟩:=a4.nx.has lp a5;have f6:gb<wr:=by omega
         have eu:ga<wr:=by omega
         have f5:gp<wr:=by omega
         have f4:gq<wr:=by omega
         have e5:w7<wr.heap.size:=by omega
         have dn:w9<wr.heap.size:=by omega
         have au:=ax _ a3.nx;have az:(wr.drew.setCell ⟨gp,op+j*3,none⟩ (.string ⟨st.1.toArray⟩)).cell? ⟨w9,2,none⟩=some (sL gb ob c.fns.length c4)/\(wr.drew.setCell ⟨gp,op+j*3,none⟩ (.string ⟨st.1.toArray⟩)).cell? ⟨w7,2,none⟩=some (sL ga oa c.fns.length c2)/\(wr.drew.setCell ⟨gp,op+j*3,none⟩ (.string ⟨st.1.toArray⟩)).cell? ⟨gb,ob+k*7+2,none⟩=some (sL gp op f.params.length br)/\(wr.drew.setCell ⟨gp,op+j*3,none⟩ (.string ⟨st.1.toArray⟩)).cell? ⟨ga,oa+k*7+2,none⟩=some (sL gq oq f.params.length bh)/\(wr.drew.setCell ⟨gp,op+j*3,none⟩ (.string ⟨st.1.toArray⟩)).cell? ⟨gq,oq+j*3,none⟩=some (.string ⟨st.1.toArray⟩):=
          ⟨(Ad (a3.b.trans xi)).2.2.1,(Ad (a3.a.trans al)).2.2.1,au.1,au.2,a8 _ a3.nx⟩
         clear a8 cv ax au aq ai af bi c0 bw;go_wp2_with fail;refine Vv.wpE_begin (S:=λ w'=>w'.cell? ⟨w9,2,none⟩=some (sL gb ob c.fns.length c4)/\w'.cell? ⟨w7,2,none⟩=some (sL ga oa c.fns.length c2)/\w'.cell? ⟨gb,ob+k*7+2,none⟩=some (sL gp op f.params.length br)/\w'.cell? ⟨ga,oa+k*7+2,none⟩=some (sL gq oq f.params.length bh)/\w'.cell? ⟨gq,oq+j*3,none⟩=some (.string ⟨st.1.toArray⟩)) (N:=λ _=>true) (by kernel_rfl) ?_;have a0:wr.drew.cell? ⟨w9,2,none⟩=some (sL gb ob c.fns.length c4)/\wr.drew.cell? ⟨w7,2,none⟩=some (sL ga oa c.fns.length c2)/\wr.drew.cell? ⟨gb,ob+k*7+2,none⟩=some (sL gp op f.params.length br)/\wr.drew.cell? ⟨ga,oa+k*7+2,none⟩=some (sL gq oq f.params.length bh)/\wr.drew.cell? ⟨gq,oq+j*3,none⟩=some (.string ⟨st.1.toArray⟩):=⟨z2,y2,xb,xa,xn⟩;refine Aa 147 [] 0 (pt w9 2) a0 ?_;refine Aa 148 [] 1 (sL gb ob c.fns.length c4) a0 ?_;refine Aa 149 [] 2 (iv k) a0 ?_;refine Aa 150 [] 3 (pt gb (ob+k*7)) a0 ?_;refine Aa 151 [] 4 (pt gb (ob+k*7+2)) a0 ?_;refine Aa 152 [] 5 (sL gp op f.params.length br) a0 ?_;refine Aa 153 [] 6 (iv j) a0 ?_;refine Aa 154 [] 7 (pt w7 2) a0 ?_;refine Aa 155 [] 8 (sL ga oa c.fns.length c2) a0 ?_;refine Aa 156 [] 9 (iv k) a0 ?_;refine Aa 157 [] 10 (pt ga (oa+k*7)) a0 ?_;refine Aa 158 [] 11 (pt ga (oa+k*7+2)) a0 ?_;refine Aa 159 [] 12 (sL gq oq f.params.length bh) a0 ?_;refine Aa 160 [] 13 (iv j) a0 ?_;refine Aa 161 [] 14 (pt gq (oq+j*3)) a0 ?_
         refine Aa 162 [] 15 (pt gq (oq+j*3)) a0 ?_;refine Aa 163 [] 16 (.string ⟨st.1.toArray⟩) a0 ?_;refine Aa 164 [] 17 (pt gp (op+j*3)) a0 ?_;refine Aa 165 [] 18 (pt gp (op+j*3)) a0 ?_;refine Ah 19 λ K hK=>?_
         go_simp;refine hK _ _ (λ _=>az) ?_;clear hK K
         try simp only[aP]
         refine Vv.wpE_done (by kernel_rfl) ?_;simp only[Exit.inBlock,Exit.then];refine ‹∀(a:Act) (w:World),_->_› _ _ ?_;go_wp2_with fail;go_roundg (f.params.length - (j+1))
         case measure=>omega
         case rel=>exact⟨j+1,by omega,rfl,by go_num,⟨a3,ag,aj,a7,cc⟩⟩
        .have bc:¬(j:Int)<(f.params.length:Int):=by omega
         have cu:j=f.params.length:=by omega
         rw[cu] at bi;have a7:=af.more hf rfl de bi;clear ax c0 bw cu;go_wp2_with fail;go_roundg (c.fns.length - (k+1))
         case measure=>omega
         case rel=>exact⟨k+1,by omega,rfl,by go_num,⟨nv,aq,ai,a7⟩⟩
      .have ad:¬(k:Int)<(c.fns.length:Int):=by omega
       have b3:k=c.fns.length:=by omega
       rw[b3] at ai af;have da:=(Dg.stay nv.nx hA bj).base' (B1:=λ _=>True) (λ _ _ _=>trivial);have d8:=(Ak7 nv.nx hB bj aq ai af).base' (B1:=λ _=>True) (λ _ _ _=>trivial);have eb:=Vl c _ _ _ wr da d8;have dc:=nv.be;clear b3 hA hB da d8 aq ai af nv;go_wp2_with fail;refine eb.mono ?_;rintro e w10 ⟨rfl,cd⟩;go_wp2_with fail;go_ret;exact⟨rfl,dc.trans (cd.mono dc.size)⟩
end
end Go.Proofs.YtpckmjfabiallaaGreatDoor
