/- Texts of ours, joined. -/
import Derived.Test.YtpckmjfabiallaaGreatDoorH16
import Derived.Test.YtpckmjfabiallaaGreatDoorH09
set_option linter.unusedVariables false
set_option linter.unusedSimpArgs false
set_option maxRecDepth 100000
set_option maxHeartbeats 16000000
namespace Go.Proofs.YtpckmjfabiallaaGreatDoor
variable{B':Nat->Prop}{T:TypeId}{b d g ga m p sz:Nat}{cs xs:List Value}{fs sl ss v:Value}{w w' w1:World}
open List
open Tryz
section
open Go.RowKit
theorem Ab0:(prog.info? 46).map (λ i=>(i.zero,i.size,i.bytes))=some (some (sV 0 [] sZ sZ sZ 0),9,128):=by kernel_rfl
mutual
theorem IsSt.plow{B B':AS}{w:World}(hb:∀k,B k->k<w.heap.size->B' k):∀{e:Px.St} {cs:AR},IsSt B w e cs->IsSt B' w e cs
 | .mk k n es b c p,cs,h=>by
  rw[IsSt] at h ⊢;obtain⟨s1,s2,s3,r1,r2,r3,hc,a1,a2,a3,a4,a5,a6⟩:=h;exact⟨s1,s2,s3,r1,r2,r3,hc,plow hb a1,a2.plow hb,plow hb a3,As.plow hb a4,plow hb a5,As.plow hb a6⟩
theorem As.plow{B B':AS}{w:World}(hb:∀k,B k->k<w.heap.size->B' k):∀{l:List Px.St} {cs:AR},As B w l cs->As B' w l cs
 | [],cs,h=>by rw[As] at h ⊢;exact h
 | e :: r,cs,h=>by
  rw[As] at h ⊢;obtain⟨c1,c2,hc,h1,h2⟩:=h;exact⟨c1,c2,hc,IsSt.plow hb h1,As.plow hb h2⟩
end
def Gu(m:Nat)(w:World)(sl:Value)(acc:List Px.St):Prop:=∃row,w.ownsRow m 46 9 sl acc.length row/\As (λ k=>m<=k/\sl.ownBlock≠some k) w acc row
theorem Gu.nil(m:Nat)(w:World):Gu m w sZ []:=⟨[],⟨rfl,AI ⟨rfl,rfl⟩⟩,by rw[As]⟩
theorem Gu.fo{acc:List Px.St}(h:Gu m w sl acc)(f:Fo b w.heap.size w w')(hb:b<m):Gu m w' sl acc:=by
 obtain⟨row,h1,h2⟩:=h;exact⟨row,Bn h1 f hb,h2.since (f.sinceB (λ hh=>by omega))⟩
theorem Gu.sts{acc:List Px.St}{B:AS}(h:Gu m w sl acc)(hB:∀k,m<=k->k<w.heap.size->B k):Bg B w acc sl:=by
 obtain⟨row,h1,h2⟩:=h;exact⟨row,Dg h1 hB,h2.plow (λ k hk hl=>hB k hk.1 hl)⟩
theorem Tj{w4 w5:World}{a3:Nat}{acc:List Px.St}{row:AR}{x:Px.St}(a6:w4.ownsRow m 46 9 sl acc.length row)(a5:As (λ k=>m<=k/\sl.ownBlock≠some k) w4 acc row)(hx:IsSt (λ k=>m<=k/\sl.ownBlock≠some k) w4 x cs)
  (hG:Grew w4 w5 sl g) (hown5:w5.ownsRow m 46 9 (sL g 0 (acc.length+1) a3) (acc.length+1) (row ++ cs)):Gu m w5 (sL g 0 (acc.length+1) a3) (acc ++ [x]):=by
 have a7:∀k,m<=k/\sl.ownBlock≠some k->k<w4.heap.size->k≠g:=by
  intro k hk hl he;subst he;rcases hG.place with h | h
  .exact hk.2 h
  .omega
 have a4:∀k,(m<=k/\sl.ownBlock≠some k)->k<w4.heap.size->m<=k/\(sL g 0 (acc.length+1) a3).ownBlock≠some k/\(m<=k/\sl.ownBlock≠some k):=λ k h1 h2=>⟨h1.1,λ e=>a7 k h1 h2 (by simpa [Value.ownBlock] using e.symm),h1⟩
 have a0:Since (λ k=>m<=k/\(sL g 0 (acc.length+1) a3).ownBlock≠some k/\(m<=k/\sl.ownBlock≠some k)) w4 w5:=⟨hG.size,λ k h1 h2=>hG.block k h2 (λ e=>h1.2.2.2 e.symm)⟩;exact⟨row ++ cs,by simpa using hown5,((a5.plow a4).since a0 |>.base (λ k h=>⟨h.1,h.2.1⟩)).snoc ((hx.plow a4).since a0 |>.base (λ k h=>⟨h.1,h.2.1⟩))⟩
theorem Ks{q:Px.P Px.St}(hq:Px.Ok q):∀(f g:Nat) (acc:List Px.St) (l:List Lx.Tok),Px.Good l->l.length<f->l.length<g->Px.stmts q f acc l=Px.stmts q g acc l
 | 0,_,_,_,_,h,_=>by omega
 | _,0,_,_,_,_,h=>by omega
 | f+1,g+1,acc,l,hg,h1,h2=>by
  simp only[Px.stmts];split
  .rfl
  .refine Px.bind_congr λ s l1 e1=>?_
   have a1:=(hq l hg).ok s l1 e1;have:=a1.less;exact Ks hq f g _ l1 a1.good (by omega) (by omega)
theorem pblock_step{q:Px.P Px.St}(ak:Px.Ok q)(ax:Aa9 d q)(b ga:Nat)(l:List Lx.Tok)(w:World)(h:Ps b ga l w) :
  AA 111 #[pt b 0,iv d] w λ e w'=>Cn b ga w (Px.bind (Px.need [123] l) λ _ l1=>Px.stmts q (l1.length+1) [] l1) (λ x v w'=>Bg (From w.heap.size) w' x v) e w':=by
 obtain⟨i0,b4,av,az,b0⟩:=info_parts Ab0;obtain⟨res,a0⟩:∃res,Aside (res=Px.bind (Px.need [123] l) λ _ l1=>Px.stmts q (l1.length+1) [] l1):=⟨_,rfl⟩;rw[<-a0.out];have af:=h.there;have ay:=h.gl;go_enter func111,ntmps111;go_wp2_with fail;refine (pneed_any h 4 [123] (by decide) (by decide)).mono ?_;rcases hq:Px.need [123] l with⟨u,l1⟩ | ⟨a,er⟩
 rotate_left
 .rw[show Px.needK 4 [123] l=_ from hq];rintro e w1 ⟨rfl,ag⟩;refine⟨rfl,?_⟩;rw[a0.out,hq];exact⟨rfl,ag⟩
 rw[show Px.needK 4 [123] l=_ from hq];rintro e w1 ⟨v,rfl,rfl,h1,ag⟩;replace a0:Aside (res=Px.stmts q (l1.length+1) [] l1):=by
  show _=_;rw[a0.out,hq];rfl
 have ab:=h1.few;clear hq;go_wp2_with fail
 go_loopg [5] (l1.length+1) (λ m v wr=>∃(acc:List Px.St) (l4:List Lx.Tok),m=l4.length+1/\Ps b ga l4 wr/\Gu w.heap.size wr v acc/\Fo b w.heap.size w wr/\acc.length+l4.length<=4096/\Aside (res=Px.stmts q (l4.length+1) acc l4))
 case atStart=>exact⟨[],l1,rfl,h1,Gu.nil _ _,ag,by simpa using ab,a0⟩
 case round=>
  clear a0 h1 ag ab;obtain⟨acc,l4,rfl,h4,ae,aa,b7,a0⟩:=hrel;have ar:=aa.size;rcases hs:Px.sees 4 [125] l4 with _ | _
  .replace a0:Aside (res=Px.bind (q l4) λ s l1=>Px.stmts q l4.length (acc ++ [s]) l1):=by
    show _=_;rw[a0.out];simp only[Px.stmts];rw[if_neg (by rw[hs];simp)]
   go_wp2_with fail
   refine (A5 h4 [125] hs).mono ?_;rintro e w5 ⟨rfl,h5,ai⟩;have ah:=ae.fo (Fo.of_below (b:=b) ai) af;have a9:=aa.below ai ar;have am:=a9.size;clear hs h4 ae aa ai;have hC:=ax b ga l4 w5 h5;go_wp2_with fail;refine hC.mono ?_;rcases hq:q l4 with⟨s,l6⟩ | ⟨a,er⟩
   rotate_left
   .rintro e w6 ⟨rfl,a8⟩;refine⟨rfl,?_⟩;rw[a0.out,hq];exact⟨rfl,a9.call a8 am⟩
   rintro e w6 ⟨v,rfl,⟨k,nm,a1,n1,c1,a2,n2,c2,a3,n3,c3,pl,rfl,hx⟩,h6,a8⟩;have au:=((ak l4 h5.good).ok s l6 hq).good;have b6:=((ak l4 h5.good).ok s l6 hq).less;replace a0:Aside (res=Px.stmts q (l6.length+1) (acc ++ [s]) l6):=by
    show _=_;rw[a0.out,hq];exact Ks ak _ _ _ _ au (by omega) (by omega)
   obtain⟨row,a4,a6⟩:=ah;have a5:=Bn a4 a8 af;have a7:=a6.since (a8.sinceB (λ hh=>by omega));have aq:=hx.plow (B':=λ k=>w.heap.size<=k/\u5.ownBlock≠some k) (λ k hk _=>⟨by have:w5.heap.size<=k:=hk;omega,λ e=>by have:=(a4.lt k e).2;have:w5.heap.size<=k:=hk;omega⟩);have al:=a9.call a8 am;have b5:=al.size;obtain⟨ao,cap,rfl⟩:=A3 a5;clear hC hq hx a4 a6 a8 h5 a9;go_wp2_with (at_builtin;refine wpList_append_lies _ rfl _ _ 34 rfl w.heap.size 46 i0 _ 9 128 underlying34 b4 av az b0 rfl (by decide) _ acc.length row rfl (a5.alloc _) ⟨w6.heap.size,0,none⟩ 1 1 (sJ k nm (.slice a1 n1 c1) (.slice a2 n2 c2) (.slice a3 n3 c3) pl) rfl rfl (World.news_of_block (heap_new w6 _)) ?c1 (by decide) ?c3 ?c4 ?c5 (w6.heap.size+1) ?c6 ?_)
   case c1=>simp[Value.oneCell']
   case c3=>unfold maxLen;omega
   case c4=>omega
   case c5=>simp;omega
   case c6=>simp
   intro g cap7 w7 hown7 hgrow hat hlt7;have hG:=M1 hgrow hat;have aw:=Tj a5 a7 aq hG hown7;have ad:∀j,j<w.heap.size->w7.heap[j]?=w6.heap[j]?:=λ j hj=>hG.block j (by omega) (λ e=>by have:=(a5.lt j e.symm).1;omega)
   have h7:Ps b ga l6 w7:=h6.keep (ad b af) (ad ga ay) hG.size;have b3:Fo b w.heap.size w w7:=al.trans ⟨hG.os,hG.tape,hG.output,hG.size,λ j hj _=>ad j hj⟩;clear a5 a7 aq hgrow hat hown7 hG ad;go_wp2;go_roundg (l6.length+1)
   case measure=>omega
   case rel=>exact⟨acc ++ [s],l6,rfl,h7,aw,b3,by simp;omega,a0⟩
  .replace a0:Aside (res=.inl (acc,l4.tail)):=by
    show _=_;rw[a0.out];simp only[Px.stmts];rw[if_pos hs]
   go_wp2_with fail
   refine (Ay h4 [125] (by decide) hs).mono ?_;rintro e w5 ⟨rfl,h5,aj⟩;have ah:=ae.fo aj af;have a9:=aa.call aj ar;obtain⟨row,a4,a6⟩:=id ah;obtain⟨ao,cap,rfl⟩:=A3 a4;clear hs h4 ae aa aj a4 a6;go_wp2;go_ret;rw[a0.out];exact⟨_,rfl,ah.sts (λ k hk _=>hk),h5,a9⟩
theorem Kt:∀(k d:Nat),d+(k+1)=25->Oy d (Px.block (k+1))
 | k,d,hd=>by
  intro b ga l w h;rw[Px.block_as h.good];refine pblock_step (Px.stmt'_ok k) (pstmt_any hd (pexpr_deep k (d+1) (by omega)) (λ hk=>?_)) b ga l w h
  match k,hk with
  | k+1,_=>exact Kt k (d+1) (by omega)
theorem Ap8(args:Array Value)(w:World):(callFunc 110 args).run prog w=.ok (.enter 110 args) w:=enters_of func110 (by kernel_rfl) rfl args w
abbrev Vk:Obj:=Gq [] false sZ [] sZ 0
abbrev fV(nm:Lx.B)(on:Bool)(ps:Value)(y:Lx.B)(bs:Value)(pl:Nat):Value:=.agg #[.string ⟨nm.toArray⟩,.bool on,ps,.string ⟨y.toArray⟩,sZ,bs,iv pl]
abbrev fL(nm:Lx.B)(on:Bool)(ps:Value)(y:Lx.B)(bs:Value)(pl:Nat):List Value:=[.string ⟨nm.toArray⟩,.bool on,ps,.string ⟨y.toArray⟩,sZ,bs,iv pl]
abbrev fS(w:World)(g:Nat)(nm:Lx.B)(on:Bool)(ps:Value)(y:Lx.B)(bs:Value)(pl:Nat):World:=w7 w g (.string ⟨nm.toArray⟩) (.bool on) ps (.string ⟨y.toArray⟩) sZ bs (iv pl)
def FnV(B:AS)(w:World)(f:Px.Fn)(v:Value):Prop:=∃nm on a1 n1 c1 y a2 n2 c2 pl,v=fV nm on (.slice a1 n1 c1) y (.slice a2 n2 c2) pl/\Eh B w f (fL nm on (.slice a1 n1 c1) y (.slice a2 n2 c2) pl)
abbrev Xf(w:World)(b:Nat):World:=(w.alloc (Cy b)).alloc Vk
theorem Ab1(w:World)(b:Nat):(Xf w b).heap[w.heap.size]?=some (Cy b):=by
 rw[Al (by simp)];exact heap_new w _
theorem Ab2(w:World)(b:Nat):(Xf w b).heap[w.heap.size+1]?=some Vk:=by
 have:=heap_new (w.alloc (Cy b)) Vk;simpa using this
theorem Xg(w:World)(b:Nat):(Xf w b).heap.size=w.heap.size+2:=by simp
theorem Tl(w:World)(b:Nat):Below w.heap.size w (Xf w b):=((AF _ _).alloc (AD _) _).alloc (by simp) _
theorem Q6(on:Bool)(l:List Lx.Tok):Px.function on l=Px.bind (Px.name l) λ t l1=>Px.bind (Px.bind (Px.need [40] l1) λ _ l2=>Px.items Px.slot (l2.length+1) 0 [] l2) λ ps l3=>Px.bind (Px.need [58] l3) λ _ l4=>Px.bind (Px.typ 4 l4) λ y l5=>Px.bind (Px.block 24 l5) λ b l6=>.inl (⟨t.text,on,ps,y,b,t.place⟩,l6):=by
 simp only[Px.function,Ci]
theorem Gv(on:Bool)(b ga:Nat)(l:List Lx.Tok)(w:World)(h:Ps b ga l w) :
  AA 72 #[pt b 0,.bool on] w λ e w'=>Cn b ga w (Px.function on l) (λ x v w'=>FnV (From w.heap.size) w' x v) e w':=by
 have ar:=Kt 23 1 (by decide);obtain⟨res,a0⟩:∃res,Aside (res=Px.function on l):=⟨_,rfl⟩;rw[<-a0.out];replace a0:Aside (res=_):=a0.out.trans (Q6 on l);have bs:∀(fn:Fn) (first cap:Array Value) (w:World),(Instr.makeFunc fn first cap).run prog w=.ok (.func fn first cap) w:=λ _ _ _ _=>rfl
 have bh:=h.there;have bp:=h.gl;have ax:=Tl w b;have h0:=h.below ax;have p0:=Ab1 w b;have o0:=Ab2 w b;have z0:=Xg w b;have ab:Fo b w.heap.size w (Xf w b):=AW ax;have c0:=cell_of_one p0;go_enter func72,ntmps72
 go_upto_region 1 with fail
 generalize aq:(w.alloc (Cy b)).alloc Vk=w0;replace aq:Xf w b=w0:=aq;rw[aq] at ax h0 p0 o0 z0 ab c0;clear aq;have br:w.heap.size<w0.heap.size:=by omega
 go_wp2_with fail
 refine (F9 h0).mono ?_;rcases hq:Px.name l with⟨t,l1⟩ | ⟨a,er⟩
 rotate_left
 .rintro r w1 ⟨rfl,aa⟩;refine⟨rfl,?_⟩;rw[a0.out,hq];exact⟨rfl,ab.call aa ab.size⟩
 rintro r w1 ⟨v,rfl,rfl,h1,aa⟩;replace a0:Aside (res=Px.bind (Px.bind (Px.need [40] l1) λ _ l2=>Px.items Px.slot (l2.length+1) 0 [] l2) λ ps l3=>Px.bind (Px.need [58] l3) λ _ l4=>Px.bind (Px.typ 4 l4) λ y l5=>Px.bind (Px.block 24 l5) λ b l6=>.inl (⟨t.text,on,ps,y,b,t.place⟩,l6)):=by
  show _=_;rw[a0.out,hq];rfl
 have p1:=(aa.block _ (by omega) (by omega)).trans p0;have o1:=(aa.block _ (by omega) (by omega)).trans o0;have b3:=ab.call aa ab.size;have bc:=aa.size;have ai:Below w1.heap.size w1 ((w1.alloc (tokB t)).alloc (Gq t.text on sZ [] sZ t.place)):=((AF _ _).alloc (AD _) _).alloc (by simp) _;have h3:=h1.below ai;have p3:=(ai.block _ (by omega)).trans p1;have o3:=(ai.block _ (by omega)).trans o1;have av:=b3.below ai (by omega);have x3:((w1.alloc (tokB t)).alloc (Gq t.text on sZ [] sZ t.place)).heap[w1.heap.size+1]?=some (Gq t.text on sZ [] sZ t.place):=by
  have:=heap_new (w1.alloc (tokB t)) (Gq t.text on sZ [] sZ t.place);simpa using this
 have z3:((w1.alloc (tokB t)).alloc (Gq t.text on sZ [] sZ t.place)).heap.size=w1.heap.size+2:=by simp
 clear hq p0 o0 c0 ab h0 aa p1 o1 b3 h1
 go_upto_region 3 with fail
 generalize (w1.alloc (tokB t)).alloc (Gq t.text on sZ [] sZ t.place)=w3 at *;obtain⟨gf,b5⟩:∃gf,gf=w1.heap.size+1:=⟨_,rfl⟩;rw[<-b5] at x3 ⊢;have bk:gf<w3.heap.size:=by omega
 have bg:w.heap.size+2<gf:=by omega
 have c3:=cell_of_one p3;have bi:w.heap.size+3<w3.heap.size:=by omega
 clear ai b5 z3 bc;have hA:FnBox b w.heap.size gf t.text on t.place [] w3:=⟨p3,_,x3,⟨rfl,AI ⟨rfl,rfl⟩⟩⟩;have hL:=I7 (n:=gf) (K:=110) (caps:=#[pt gf 0,pt w.heap.size 0]) (Inv:=λ acc w'=>FnBox b w.heap.size gf t.text on t.place acc w') h3 (by omega) Px.slot_ok Ap8
  (λ acc la wa ha hia hna hla=>Tc (by omega) (by omega) (by omega) (AD _) acc la wa ha hia hna hla)
  (λ acc wa wb hia hf=>hia.fo hf (by omega) (by omega)) hA
 clear hA x3;go_wp2_with fail;refine hL.mono ?_;rcases hq:(Px.bind (Px.need [40] l1) λ _ l2=>Px.items Px.slot (l2.length+1) 0 [] l2) with⟨ps,l2⟩ | ⟨a,er⟩
 rotate_left
 .rintro r w4 ⟨rfl,ad⟩;refine⟨rfl,?_⟩;rw[a0.out,hq];exact⟨rfl,av.trans (ad.mono (by omega))⟩
 rintro r w4 ⟨rfl,ba,h4,ad⟩;replace a0:Aside (res=Px.bind (Px.need [58] l2) λ _ l4=>Px.bind (Px.typ 4 l4) λ y l5=>Px.bind (Px.block 24 l5) λ b l6=>.inl (⟨t.text,on,ps,y,b,t.place⟩,l6)):=by
  show _=_;rw[a0.out,hq];rfl
 have o4:=(ad.block _ (by omega) (by omega)).trans o3;have ah:Fo b w.heap.size w w4:=av.trans (ad.mono (by omega));obtain⟨p4,sl,x4,a8⟩:=ba;obtain⟨ao,ac,rfl⟩:=A3 a8;have c4:=cell_of_one p4;have bt:=ad.size;clear hq hL ad o3 av p3 c3 h3;go_wp2_with fail;refine (pneed_any h4 4 [58] (by decide) (by decide)).mono ?_;rcases hq:Px.need [58] l2 with⟨u,l3⟩ | ⟨a,er⟩
 rotate_left
 .rw[show Px.needK 4 [58] l2=_ from hq];rintro r w5 ⟨rfl,a3⟩;refine⟨rfl,?_⟩;rw[a0.out,hq];exact⟨rfl,ah.call a3 ah.size⟩
 rw[show Px.needK 4 [58] l2=_ from hq];rintro r w5 ⟨v,rfl,rfl,h5,a3⟩;replace a0:Aside (res=Px.bind (Px.typ 4 l3) λ y l5=>Px.bind (Px.block 24 l5) λ b l6=>.inl (⟨t.text,on,ps,y,b,t.place⟩,l6)):=by
  show _=_;rw[a0.out,hq];rfl
 have o5:=(a3.block _ (by omega) (by omega)).trans o4;have p5:=(a3.block _ (by omega) (by omega)).trans p4;have x5:=(a3.block _ (by omega) (by omega)).trans x4;have al:=Bn a8 a3 (by omega);have ae:=ah.call a3 ah.size;have c5:=cell_of_one p5;have bo:=a3.size;clear hq a3 o4 p4 x4 a8 ah c4 h4;go_wp2_with fail;refine (show AA 108 #[pt b 0,iv 1] w5 _ from Ih 4 1 b ga l3 w5 (by decide) h5).mono ?_;rcases hq:Px.typ 4 l3 with⟨y,l4⟩ | ⟨a,er⟩
 rotate_left
 .rintro r w6 ⟨rfl,a4⟩;refine⟨rfl,?_⟩;rw[a0.out,hq];exact⟨rfl,ae.call a4 ae.size⟩
 rintro r w6 ⟨v,rfl,rfl,h6,a4⟩;replace a0:Aside (res=Px.bind (Px.block 24 l4) λ b l6=>.inl (⟨t.text,on,ps,y,b,t.place⟩,l6)):=by
  show _=_;rw[a0.out,hq];rfl
 have o6:=(a4.block _ (by omega) (by omega)).trans o5;have p6:=(a4.block _ (by omega) (by omega)).trans p5;have x6:=(a4.block _ (by omega) (by omega)).trans x5;have am:=Bn al a4 (by omega);have b0:=ae.call a4 ae.size;have bn:=a4.size;clear hq a4 o5 p5 x5 al ae c5 h5;have x7:(w6.setCell ⟨gf,3,none⟩ (.string ⟨y.toArray⟩)).heap[gf]?=some (Gq t.text on (.slice ao ps.length ac) y sZ t.place):=by simp[World.setCell,Array.getElem?_modify,x6]
 have a7:∀j,j≠gf->(w6.setCell ⟨gf,3,none⟩ (.string ⟨y.toArray⟩)).heap[j]?=w6.heap[j]?:=λ j hj=>AG _ _ _ _ hj
 have h7:=h6.other (g:=gf) 3 (.string ⟨y.toArray⟩) (by omega) (by omega);have o7:=(a7 (w.heap.size+1) (by omega)).trans o6;have p7:=(a7 w.heap.size (by omega)).trans p6;have af:=ownsRow_setCell_below am (a:=⟨gf,3,none⟩) (by show gf<gf+1;omega) (.string ⟨y.toArray⟩);have ag:=b0.fresh (g:=gf) (by omega) 3 (.string ⟨y.toArray⟩);have z7:(w6.setCell ⟨gf,3,none⟩ (.string ⟨y.toArray⟩)).heap.size=w6.heap.size:=by simp[World.setCell]
 have b8:=(A9 x6).2.2.2.1;have bb:=(A9 x6).2.2.2.2.2.2.2.2.2.2.1;have bq:gf<w6.heap.size:=by omega
 have c7:=cell_of_one p7
 go_upto_region 6 with fail
 generalize w6.setCell ⟨gf,3,none⟩ (.string ⟨y.toArray⟩)=w7s at *;clear a7 o6 p6 x6 am b0 h6 b8 bb;go_wp2_with fail;refine (show AA 111 #[pt b 0,iv 1] w7s _ from ar b ga l4 w7s h7).mono ?_;rcases hq:Px.block (23+1) l4 with⟨body,l5⟩ | ⟨a,er⟩
 rotate_left
 .rintro r w8s ⟨rfl,a5⟩;refine⟨rfl,?_⟩;rw[a0.out,show Px.block 24 l4=_ from hq];exact⟨rfl,ag.call a5 ag.size⟩
 rintro r w8s ⟨v,rfl,aw,h8,a5⟩;obtain⟨a2,n2,c2,rfl⟩:=aw.slc;replace a0:Aside (res=.inl (⟨t.text,on,ps,y,body,t.place⟩,l5)):=by
  show _=_;rw[a0.out,show Px.block 24 l4=_ from hq];rfl
 have o8:=(a5.block _ (by omega) (by omega)).trans o7;have x8:=(a5.block _ (by omega) (by omega)).trans x7;have ak:=Bn af a5 (by omega);have az:=ag.call a5 ag.size;have bj:=a5.size;have aj:=aw.base' (B':=From (gf+1)) (B8 (by omega));clear hq a5 o7 p7 x7 af ag h7 c7 aw;have x9:(w8s.setCell ⟨gf,5,none⟩ (.slice a2 n2 c2)).heap[gf]?=some (Gq t.text on (.slice ao ps.length ac) y (.slice a2 n2 c2) t.place):=by simp[World.setCell,Array.getElem?_modify,x8]
 have a9:∀j,j≠gf->(w8s.setCell ⟨gf,5,none⟩ (.slice a2 n2 c2)).heap[j]?=w8s.heap[j]?:=λ j hj=>AG _ _ _ _ hj
 have h9:=h8.other (g:=gf) 5 (.slice a2 n2 c2) (by omega) (by omega);have o9:=(a9 (w.heap.size+1) (by omega)).trans o8;have a6:=ownsRow_setCell_below ak (a:=⟨gf,5,none⟩) (by show gf<gf+1;omega) (.slice a2 n2 c2);have b4:=az.fresh (g:=gf) (by omega) 5 (.slice a2 n2 c2);have ay:=aj.since' (w':=w8s.setCell ⟨gf,5,none⟩ (.slice a2 n2 c2)) ⟨by simp[World.setCell],λ j hj _=>a9 j (by have:gf+1<=j:=hj;omega)⟩;have z9:(w8s.setCell ⟨gf,5,none⟩ (.slice a2 n2 c2)).heap.size=w8s.heap.size:=by simp[World.setCell]
 have b7:=(A9 x8).2.2.2.2.2.1;have b6:=(A9 x8).2.2.2.2.2.2.2.2.2.2.2.2.1;have bv:gf<w8s.heap.size:=by omega
 go_upto_region 7 with fail
 generalize w8s.setCell ⟨gf,5,none⟩ (.slice a2 n2 c2)=w9s at *;clear a9 o8 x8 ak az h8 b7 b6 aj;have bu:gf<w9s.heap.size:=by omega
 have bl:w.heap.size+1<w9s.heap.size:=by omega
 have bf:gf≠w.heap.size+1:=by omega
 have be:w.heap.size+1≠gf:=by omega
 have b9:Eh (From (gf+1)) w9s ⟨t.text,on,ps,y,body,t.place⟩ (fL t.text on (.slice ao ps.length ac) y (.slice a2 n2 c2) t.place):=⟨_,_,rfl,Dg a6 (λ k hk _=>hk),ay⟩;obtain⟨y0,y1,y2,y3,y4,y5,y6,_⟩:=A9 x9;obtain⟨e0,e1,e2,e3,e4,e5,e6,m0,m1,m2,m3,m4,m5,m6⟩:=A9 o9;have au:Cn b ga w (.inl (⟨t.text,on,ps,y,body,t.place⟩,l5)) (λ x v w'=>FnV (From w.heap.size) w' x v) (.returned (fV t.text on (.slice ao ps.length ac) y (.slice a2 n2 c2) t.place)) (fS w9s (w.heap.size+1) t.text on (.slice ao ps.length ac) y (.slice a2 n2 c2) t.place):=by
  refine⟨_,rfl,⟨t.text,on,ao,ps.length,ac,y,a2,n2,c2,t.place,rfl,?_⟩,h9.set7 (by omega) (by omega) _ _ _ _ _ _ _,b4.set7 (by omega) _ _ _ _ _ _ _⟩;have hs:Since (From (gf+1)) w9s (fS w9s (w.heap.size+1) t.text on (.slice ao ps.length ac) y (.slice a2 n2 c2) t.place):=Since.set7' (λ hh=>by have:gf+1<=w.heap.size+1:=hh;omega) _ _ _ _ _ _ _;exact⟨_,_,rfl,(SlRow.since (Dg a6 (λ k hk _=>hk)) hs).base (B8 (by omega)),(ay.since' hs).base' (B8 (by omega))⟩
 clear a6 b4 ay b9 h9;generalize w.heap.size+1=gr at *;go_wp2;rw[a0.out];exact bodyPost_ret (by simp[results,results72,go_sem,e0,e1,e2,e3,e4,e5,e6]) rfl au
theorem Ap9:(prog.info? 36).map (λ i=>(i.zero,i.size,i.bytes))=some (some (fV [] false sZ [] sZ 0),7,120):=by kernel_rfl
theorem Br.plow{B B':AS}{w:World}(hb:∀k,B k->k<w.heap.size->B' k):∀{l:List Px.Fn} {cs:AR},Br B w l cs->Br B' w l cs
 | [],cs,h=>h
 | e :: r,cs,h=>by
  obtain⟨c1,c2,hc,⟨ps,bs,h1,h2,row,h3,h4⟩,h5⟩:=h;exact⟨c1,c2,hc,⟨ps,bs,h1,Go.Proofs.YtpckmjfabiallaaGreatDoor.plow hb h2,row,Go.Proofs.YtpckmjfabiallaaGreatDoor.plow hb h3,h4.plow hb⟩,Br.plow hb h5⟩
theorem Eh.plow{B:AS}(hb:∀k,B k->k<w.heap.size->B' k){f:Px.Fn}(h:Eh B w f cs):Eh B' w f cs:=by
 obtain⟨ps,bs,h1,h2,row,h3,h4⟩:=h;exact⟨ps,bs,h1,Go.Proofs.YtpckmjfabiallaaGreatDoor.plow hb h2,row,Go.Proofs.YtpckmjfabiallaaGreatDoor.plow hb h3,h4.plow hb⟩
theorem Eh.since{B:AS}(s:Since B w w'){f:Px.Fn}(h:Eh B w f cs):Eh B w' f cs:=by
 obtain⟨ps,bs,h1,h2,row,h3,h4⟩:=h;exact⟨ps,bs,h1,h2.since s,row,h3.since s,h4.since s⟩
theorem Eh.base{B:AS}(hb:∀k,B k->B' k){f:Px.Fn}(h:Eh B w f cs):Eh B' w f cs:=h.plow (λ k hk _=>hb k hk)
theorem Ga{n:Nat}{k:Nat}(h:w.ownsRow m T sz v n xs)(hk:v.ownBlock=some k):∃cur,w.heap[k]?=some (.cells cur T (0,0)):=by
 rcases h.2 with⟨hv,_⟩ | ⟨g,cap,cur,hv,_,hh,_⟩
 .rw[hv] at hk;simp[Value.ownBlock] at hk
 .rw[hv] at hk;simp[Value.ownBlock] at hk;subst hk;exact⟨cur,hh⟩
abbrev prO(v:Nat)(ss fs:Value):Obj:=.cells #[iv v,ss,fs] 26 (0,0)
structure PPrBox(gq:Nat)(p:Px.Pr)(w:World):Prop where
 box:∃ss fs rf,w.heap[gq]?=some (prO p.version ss fs)/\w.ownsRow (gq+1) 40 3 ss p.states.length (p.states.flatMap Bi)/\w.ownsRow (gq+1) 36 7 fs p.fns.length rf/\Br (λ k=>gq+1<=k/\fs.ownBlock≠some k/\ss.ownBlock≠some k) w p.fns rf
theorem PPrBox.fo{gq:Nat}{p:Px.Pr}(h:PPrBox gq p w)(f:Fo b w.heap.size w w')(hb:b<gq):PPrBox gq p w':=by
 obtain⟨ss,fs,rf,h1,h2,h3,h4⟩:=h.box;exact⟨ss,fs,rf,(f.block gq (AB h1).1 (by omega)).trans h1,Bn h2 f (by omega),Bn h3 f (by omega),h4.since (f.sinceB (λ hh=>by omega))⟩
theorem Q7{n:Nat}(h:w.ownsRow m T sz v n xs)(f:∀k,v.ownBlock=some k->w'.heap[k]?=w.heap[k]?):w'.ownsRow m T sz v n xs:=by
 obtain⟨h1,h2⟩:=h;refine⟨h1,?_⟩;rcases h2 with h2 | ⟨g,cap,cur,hv,hg,hh,r⟩
 .exact AI h2
 .exact AJ ⟨g,cap,cur,hv,hg,(f g (by rw[hv];rfl)).trans hh,r⟩
theorem Xh{n gq cap:Nat}{p:Px.Pr}{w4 w5:World}{rf:AR}{s:Px.Sl}{l':List Lx.Tok}(hb:b<gq)(ai:ga<gq)(hn:n<=gq)(aj:n<=w.heap.size)(h1:w.heap[gq]?=some (prO p.version ss fs))(h2:w.ownsRow (gq+1) 40 3 ss p.states.length (p.states.flatMap Bi))(h3:w.ownsRow (gq+1) 36 7 fs p.fns.length rf)(h4:Br (λ k=>gq+1<=k/\fs.ownBlock≠some k/\ss.ownBlock≠some k) w p.fns rf)
  (fo4:Fo b w.heap.size w w4) (hP4:Ps b ga l' w4) (hG:Grew w4 w5 ss g) (hown5:w5.ownsRow (gq+1) 40 3 (sL g 0 (p.states.length+1) cap) (p.states.length+1) (p.states.flatMap Bi ++ Bi s)) :
  PPrBox gq { p with states:=p.states ++ [s] } (w5.setCell ⟨gq,1,none⟩ (sL g 0 (p.states.length+1) cap))/\Ps b ga l' (w5.setCell ⟨gq,1,none⟩ (sL g 0 (p.states.length+1) cap))/\Fo b n w (w5.setCell ⟨gq,1,none⟩ (sL g 0 (p.states.length+1) cap)):=by
 have hl:gq<w.heap.size:=(AB h1).1;have aa:=(fo4.block gq hl (by omega)).trans h1;have a8:=Bn h2 fo4 (by omega);have a5:=Bn h3 fo4 (by omega);have ad:=h4.since (fo4.sinceB (λ hh=>by omega));have ag:=fo4.size;have af:=hG.size;have a4:∀k,k<=gq->w5.heap[k]?=w4.heap[k]?:=λ k hk=>hG.block k (by omega) (λ e=>by have:=(a8.lt k e.symm).1;omega)
 have ae:=(hown5.lt g rfl).1;have a0:∀k,k≠gq->(w5.setCell ⟨gq,1,none⟩ (sL g 0 (p.states.length+1) cap)).heap[k]?=w5.heap[k]?:=λ k hk=>AG _ _ _ _ hk
 have ah:(w5.setCell ⟨gq,1,none⟩ (sL g 0 (p.states.length+1) cap)).heap.size=w5.heap.size:=by simp[World.setCell]
 have a7:(w5.setCell ⟨gq,1,none⟩ (sL g 0 (p.states.length+1) cap)).heap[gq]?=some (prO p.version (sL g 0 (p.states.length+1) cap) fs):=by
  have:=(a4 gq (AD _)).trans aa;simp[World.setCell,Array.getElem?_modify,this]
 have a3:=ownsRow_setCell_below hown5 (a:=⟨gq,1,none⟩) (by show gq<gq+1;omega) (sL g 0 (p.states.length+1) cap);have hq:(w5.setCell ⟨gq,1,none⟩ (sL g 0 (p.states.length+1) cap)).os=w5.os/\(w5.setCell ⟨gq,1,none⟩ (sL g 0 (p.states.length+1) cap)).tape=w5.tape/\(w5.setCell ⟨gq,1,none⟩ (sL g 0 (p.states.length+1) cap)).output=w5.output:=⟨rfl,rfl,rfl⟩;generalize w5.setCell ⟨gq,1,none⟩ (sL g 0 (p.states.length+1) cap)=w6 at *;have ab:∀k,fs.ownBlock=some k->ss.ownBlock≠some k:=λ k hk hs=>by
  obtain⟨c1,e1⟩:=Ga a5 hk;obtain⟨c2,e2⟩:=Ga a8 hs;rw[e1] at e2;simp at e2
 have a9:∀k,gq+1<=k/\fs.ownBlock≠some k/\ss.ownBlock≠some k->k<w4.heap.size->k≠g:=by
  intro k hk hlt he;subst he;rcases hG.place with h | h
  .exact hk.2.2 h
  .omega
 refine⟨⟨_,fs,rf,a7,by simpa using a3,Q7 a5 (λ k hk=>(a0 k (by have:=(a5.lt k hk).1;omega)).trans (hG.block k (a5.lt k hk).2 (λ e=>ab k hk e.symm))),?_⟩,?_,⟨hq.1.trans (hG.os.trans fo4.os),hq.2.1.trans (hG.tape.trans fo4.tape),hq.2.2.trans (hG.output.trans fo4.output),by omega,λ k hk hkb=>(a0 k (by omega)).trans ((a4 k (by omega)).trans (fo4.block k (by omega) hkb))⟩⟩
 .have a6:∀k,(gq+1<=k/\fs.ownBlock≠some k/\ss.ownBlock≠some k)->k<w4.heap.size->(gq+1<=k/\fs.ownBlock≠some k/\(sL g 0 (p.states.length+1) cap).ownBlock≠some k)/\ss.ownBlock≠some k:=λ k h1 h2=>⟨⟨h1.1,h1.2.1,λ e=>a9 k h1 h2 (by simpa [Value.ownBlock] using e.symm)⟩,h1.2.2⟩
  exact ((ad.plow a6).since ⟨by omega,λ k hk hl=>(a0 k (by have:=hk.1.1;omega)).trans (hG.block k hl (λ e=>hk.2 e.symm))⟩).base (λ k hk=>hk.1)
 .exact hP4.keep ((a0 b (by omega)).trans (a4 b (by omega))) ((a0 ga (by omega)).trans (a4 ga (by omega))) (by omega)
theorem Ab3{n gq cap:Nat}{p:Px.Pr}{w4 w5:World}{rf:AR}{s:Px.Fn}{l':List Lx.Tok}(hb:b<gq)(ak:ga<gq)(hn:n<=gq)(al:n<=w.heap.size)(h1:w.heap[gq]?=some (prO p.version ss fs))(h2:w.ownsRow (gq+1) 40 3 ss p.states.length (p.states.flatMap Bi))(h3:w.ownsRow (gq+1) 36 7 fs p.fns.length rf)(h4:Br (λ k=>gq+1<=k/\fs.ownBlock≠some k/\ss.ownBlock≠some k) w p.fns rf)
  (fo4:Fo b w.heap.size w w4) (hP4:Ps b ga l' w4) (hx:Eh (From w.heap.size) w4 s cs) (hG:Grew w4 w5 fs g) (hown5:w5.ownsRow (gq+1) 36 7 (sL g 0 (p.fns.length+1) cap) (p.fns.length+1) (rf ++ cs)) :
  PPrBox gq { p with fns:=p.fns ++ [s] } (w5.setCell ⟨gq,2,none⟩ (sL g 0 (p.fns.length+1) cap))/\Ps b ga l' (w5.setCell ⟨gq,2,none⟩ (sL g 0 (p.fns.length+1) cap))/\Fo b n w (w5.setCell ⟨gq,2,none⟩ (sL g 0 (p.fns.length+1) cap)):=by
 have hl:gq<w.heap.size:=(AB h1).1;have ab:=(fo4.block gq hl (by omega)).trans h1;have a6:=Bn h2 fo4 (by omega);have a9:=Bn h3 fo4 (by omega);have af:=h4.since (fo4.sinceB (λ hh=>by omega));have ai:=fo4.size;have ah:=hG.size;have a5:∀k,k<=gq->w5.heap[k]?=w4.heap[k]?:=λ k hk=>hG.block k (by omega) (λ e=>by have:=(a9.lt k e.symm).1;omega)
 have ag:=(hown5.lt g rfl).1;have a3:∀k,k≠gq->(w5.setCell ⟨gq,2,none⟩ (sL g 0 (p.fns.length+1) cap)).heap[k]?=w5.heap[k]?:=λ k hk=>AG _ _ _ _ hk
 have aj:(w5.setCell ⟨gq,2,none⟩ (sL g 0 (p.fns.length+1) cap)).heap.size=w5.heap.size:=by simp[World.setCell]
 have a7:(w5.setCell ⟨gq,2,none⟩ (sL g 0 (p.fns.length+1) cap)).heap[gq]?=some (prO p.version ss (sL g 0 (p.fns.length+1) cap)):=by
  have:=(a5 gq (AD _)).trans ab;simp[World.setCell,Array.getElem?_modify,this]
 have a4:=ownsRow_setCell_below hown5 (a:=⟨gq,2,none⟩) (by show gq<gq+1;omega) (sL g 0 (p.fns.length+1) cap);have hq:(w5.setCell ⟨gq,2,none⟩ (sL g 0 (p.fns.length+1) cap)).os=w5.os/\(w5.setCell ⟨gq,2,none⟩ (sL g 0 (p.fns.length+1) cap)).tape=w5.tape/\(w5.setCell ⟨gq,2,none⟩ (sL g 0 (p.fns.length+1) cap)).output=w5.output:=⟨rfl,rfl,rfl⟩;generalize w5.setCell ⟨gq,2,none⟩ (sL g 0 (p.fns.length+1) cap)=w6 at *;have ad:∀k,ss.ownBlock=some k->fs.ownBlock≠some k:=λ k hk hs=>by
  obtain⟨c1,e1⟩:=Ga a6 hk;obtain⟨c2,e2⟩:=Ga a9 hs;rw[e1] at e2;simp at e2
 have aa:∀k,gq+1<=k/\fs.ownBlock≠some k/\ss.ownBlock≠some k->k<w4.heap.size->k≠g:=by
  intro k hk hlt he;subst he;rcases hG.place with h | h
  .exact hk.2.1 h
  .omega
 have a0:∀k,(gq+1<=k/\fs.ownBlock≠some k/\ss.ownBlock≠some k)->k<w4.heap.size->(gq+1<=k/\(sL g 0 (p.fns.length+1) cap).ownBlock≠some k/\ss.ownBlock≠some k)/\fs.ownBlock≠some k:=λ k h1 h2=>⟨⟨h1.1,λ e=>aa k h1 h2 (by simpa [Value.ownBlock] using e.symm),h1.2.2⟩,h1.2.1⟩
 have a8:Since (λ k=>(gq+1<=k/\(sL g 0 (p.fns.length+1) cap).ownBlock≠some k/\ss.ownBlock≠some k)/\fs.ownBlock≠some k) w4 w6:=⟨by omega,λ k hk hl=>(a3 k (by have:=hk.1.1;omega)).trans (hG.block k hl (λ e=>hk.2 e.symm))⟩;have ae:Eh (λ k=>gq+1<=k/\fs.ownBlock≠some k/\ss.ownBlock≠some k) w4 s cs:=hx.plow (λ k hk _=>⟨by have:w.heap.size<=k:=hk;omega,λ e=>by have:=(h3.lt k e).2;have:w.heap.size<=k:=hk;omega,λ e=>by have:=(h2.lt k e).2;have:w.heap.size<=k:=hk;omega⟩);refine⟨⟨ss,_,rf ++ cs,a7,Q7 a6 (λ k hk=>(a3 k (by have:=(a6.lt k hk).1;omega)).trans (hG.block k (a6.lt k hk).2 (λ e=>ad k hk e.symm))),by simpa using a4,?_⟩,?_,⟨hq.1.trans (hG.os.trans fo4.os),hq.2.1.trans (hG.tape.trans fo4.tape),hq.2.2.trans (hG.output.trans fo4.output),by omega,λ k hk hkb=>(a3 k (by omega)).trans ((a5 k (by omega)).trans (fo4.block k (by omega) hkb))⟩⟩
 .exact (((af.plow a0).since a8).base (λ k hk=>hk.1)).snoc (((ae.plow a0).since a8).base (λ k hk=>hk.1))
 .exact hP4.keep ((a3 b (by omega)).trans (a5 b (by omega))) ((a3 ga (by omega)).trans (a5 ga (by omega))) (by omega)
def Fa(p:Px.Pr)(l:List Lx.Tok):Px.R Px.Pr:=
 if Px.sees 1 [115,116,97,116,101] l then Px.bind (Px.slot l.tail) λ s l1=>Px.bind (Px.need [59] l1) λ _ l2=>.inl ({ p with states:=p.states ++ [s] },l2)
 else if Px.sees 1 [102,110] l then Px.bind (Px.function false l.tail) λ g l1=>.inl ({ p with fns:=p.fns ++ [g] },l1)
 else if Px.sees 1 [111,110] l then Px.bind (Px.function true l.tail) λ g l1=>.inl ({ p with fns:=p.fns ++ [g] },l1)
 else Px.fail 31 l
def Hx(b ga n gq:Nat)(w:World)(r:Px.R Px.Pr)(e:Ending)(w':World):Prop:=
 match r with
 | .inl (p,l')=>e=.returned (.tuple #[])/\PPrBox gq p w'/\Ps b ga l' w'/\Fo b n w w'
 | .inr (a,er)=>e=.panicked (Bl a er)/\Fo b n w w'
theorem Xi{n gq:Nat}{p:Px.Pr}{l:List Lx.Tok}(hb:b<gq)(am:ga<gq)(hn:n<=gq)(h:Ps b ga l w)(hi:PPrBox gq p w)(al:p.states.length+p.fns.length+l.length<=4096) :
  AA 44 #[pt b 0,pt gq 0] w λ e w'=>Hx b ga n gq w (Fa p l) e w':=by
 obtain⟨j0,b3,b8,b0,b6⟩:=info_parts Qz;obtain⟨i0,ax,az,au,aw⟩:=info_parts Ap9;obtain⟨res,a0⟩:∃res,Aside (res=Fa p l):=⟨_,rfl⟩;rw[<-a0.out];go_enter func44,ntmps44;have b4:gq<w.heap.size:=by
  obtain⟨ss,fs,rf,x1,_⟩:=hi.box;exact (AB x1).1
 rcases hs:Px.sees 1 [115,116,97,116,101] l with _ | _
 rotate_left
 .obtain⟨t,r,rfl,_,_⟩:=Px.sees_head hs;replace a0:Aside (res=Px.bind (Px.slot r) λ s l1=>Px.bind (Px.need [59] l1) λ _ l2=>.inl ({ p with states:=p.states ++ [s] },l2)):=by
   show _=_;rw[a0.out,Fa,if_pos hs];rfl
  go_wp2_with fail
  refine (Ay h [115,116,97,116,101] (by decide) hs).mono ?_;rintro e w1 ⟨rfl,h1,a8⟩;replace h1:Ps b ga r w1:=h1;have i1:=hi.fo a8 hb;have ay:=a8.size;have hF:Fo b n w w1:=a8.mono (by omega);have ah:p.states.length+p.fns.length+r.length+1<=4096:=by simp only[length_cons] at al;omega
  clear hs hi h;obtain⟨ss,fs,rf,x1,x2,x3,x4⟩:=i1.box;obtain⟨sa,sc,rfl⟩:=A3 x2;obtain⟨fa,fc,rfl⟩:=A3 x3;have a9:gq<w1.heap.size:=(AB x1).1;obtain⟨_,y1,y2,_,g1,g2⟩:=Ag x1;have hC:∀w',Ps b ga r w'->AA 71 #[pt b 0] w' λ e w''=>Cn b ga w' (Px.slot r) (λ s v w''=>SlV s v) e w'':=λ w' h'=>Mt h'
  rcases hq:Px.slot r with⟨s,l'⟩ | ⟨a,er⟩
  rotate_left
  .rw[hq] at hC;replace hC:∀w',Ps b ga r w'->AA 71 #[pt b 0] w' λ e w''=>e=.panicked (Bl a er)/\Fo b w'.heap.size w' w'':=hC
   have a5:∀w4,Fo b w1.drew.heap.size w1.drew w4->Hx b ga n gq w res (.panicked (Bl a er)) w4:=λ w4 a4=>by
    rw[a0.out,hq];exact⟨rfl,(hF.trans (AX b n w1)).trans (a4.mono (by show n<=w1.heap.size;omega))⟩
   clear hq
   go_upto_region 2 with fail
   go_region_law (go_simp;go_at_call 71;refine (hC w1.drew (h1.keep rfl rfl (AD _))).mono ?_;rintro e w4 ⟨rfl,a4⟩;refine skip_way w4 ⟨rfl,a5 w4 a4⟩ ?_)
   all_goals trivial
  rw[hq] at hC;replace hC:∀w',Ps b ga r w'->AA 71 #[pt b 0] w' λ e w''=>∃v,e=.returned v/\SlV s v/\Ps b ga l' w''/\Fo b w'.heap.size w' w'':=hC
  go_upto_region 2 with fail
  go_region_law (first
   |(refine step_append_lies _ (by rfl) _ _ 23 (by rfl) (gq+1) 40 j0 _ 3 40 underlying23 b3 b8 b0 b6 rfl (by omega) _ p.states.length (p.states.flatMap Bi) (by rfl) (a3.alloc _) ⟨w4.heap.size,0,none⟩ 1 1 [.string ⟨s.name.toArray⟩,.string ⟨s.type.toArray⟩,iv s.place] (by rfl) (by rfl) (World.news_of_block (cs:=#[.string ⟨s.name.toArray⟩,.string ⟨s.type.toArray⟩,iv s.place]) (t:=40) (fr:=(0,0)) (heap_new w4 _)) (by simp[Value.oneCell']) (by omega) (by unfold maxLen;omega) (by omega) (by simp;omega) (w4.heap.size+1) (by simp) ?_;intro g cap5 w5 hown5 hgrow hat hlt5;have a7:=(C0 hgrow a3 (Nat.lt_succ_self gq) a6).trans aa;have e2:=(Ag a7).2.1;have m2:=(Ag a7).2.2.2.2.1)
   |(go_simp;go_at_call 71;refine (hC w1.drew (h1.keep rfl rfl (AD _))).mono ?_;rintro e w4 ⟨v,rfl,rfl,h4,a4⟩;have a3:=Bn (w:=w1.drew) (w':=w4) x2.drew a4 (by omega);have a6:gq<w4.heap.size:=AL a9 a4.size;have aa:=(a4.block gq a9 (by omega)).trans x1;have ya:=(Ag aa).2.1))
  all_goals
   have hG:=M1 hgrow hat;have ae:=Xh (n:=n) (w:=w1) hb am hn (by omega) x1 x2 x3 x4 ((AX b _ w1).trans a4) h4 hG hown5;replace a0:Aside (res=Px.bind (Px.need [59] l') λ _ l2=>.inl ({ p with states:=p.states ++ [s] },l2)):=by
    show _=_;rw[a0.out,hq];rfl
   obtain⟨af,ag,ad⟩:=ae;generalize w5.setCell ⟨gq,1,none⟩ (sL g 0 (p.states.length+1) cap5)=w6 at *;have bb:=ad.size;clear hq hC x1 x2 x3 x4 hown5 hgrow hat hG a7 e2 m2;go_wp2_with fail;refine (pneed_any ag 4 [59] (by decide) (by decide)).mono ?_;rcases hq:Px.need [59] l' with⟨u,l2⟩ | ⟨a,er⟩
   .rw[show Px.needK 4 [59] l'=_ from hq];rintro e w7 ⟨v,rfl,rfl,h7,ai⟩;replace a0:Aside (res=.inl ({ p with states:=p.states ++ [s] },l2)):=by
     show _=_;rw[a0.out,hq];rfl
    have b9:=af.fo ai hb;clear hq;go_wp2
    go_end0
    rw[a0.out];exact⟨rfl,b9,h7,(hF.trans ad).trans (ai.mono (by omega))⟩
   .rw[show Px.needK 4 [59] l'=_ from hq];rintro e w7 ⟨rfl,ai⟩;refine⟨rfl,?_⟩;rw[a0.out,hq];exact⟨rfl,(hF.trans ad).trans (ai.mono (by omega))⟩
 replace a0:Aside (res=if Px.sees 1 [102,110] l then Px.bind (Px.function false l.tail) λ g l1=>.inl ({ p with fns:=p.fns ++ [g] },l1) else if Px.sees 1 [111,110] l then Px.bind (Px.function true l.tail) λ g l1=>.inl ({ p with fns:=p.fns ++ [g] },l1) else Px.fail 31 l):=by
  show _=_;rw[a0.out,Fa,if_neg (by rw[hs];simp)]
 go_wp2_with fail
 refine (A5 h [115,116,97,116,101] hs).mono ?_;rintro e wa ⟨rfl,ha,aj⟩;have ia:=hi.fo (Fo.of_below (b:=b) aj) hb;have bc:=aj.size;have av:Fo b n w wa:=AW (aj.mono (by omega));clear hs hi h aj;rcases hs:Px.sees 1 [102,110] l with _ | _
 rotate_left
 .obtain⟨t,r,rfl,_,_⟩:=Px.sees_head hs;replace a0:Aside (res=Px.bind (Px.function false r) λ g l1=>.inl ({ p with fns:=p.fns ++ [g] },l1)):=by
   show _=_;rw[a0.out,if_pos hs];rfl
  go_wp2_with fail
  refine (Ay ha [102,110] (by decide) hs).mono ?_;rintro e w1 ⟨rfl,h1,a8⟩;replace h1:Ps b ga r w1:=h1;have i1:=ia.fo a8 hb;have ay:=a8.size;have hF:Fo b n w w1:=av.trans (a8.mono (by omega));have ah:p.states.length+p.fns.length+r.length+1<=4096:=by simp only[length_cons] at al;omega
  clear hs ia ha;obtain⟨ss,fs,rf,x1,x2,x3,x4⟩:=i1.box;obtain⟨sa,sc,rfl⟩:=A3 x2;obtain⟨fa,fc,rfl⟩:=A3 x3;have a9:gq<w1.heap.size:=(AB x1).1;obtain⟨_,y1,y2,_,g1,g2⟩:=Ag x1;have hC:∀w',Ps b ga r w'->AA 72 #[pt b 0,.bool false] w' λ e w''=>Cn b ga w' (Px.function false r) (λ s v w''=>FnV (From w'.heap.size) w'' s v) e w'':=λ w' h'=>Gv false b ga r w' h'
  rcases hq:Px.function false r with⟨s,l'⟩ | ⟨a,er⟩
  rotate_left
  .rw[hq] at hC;replace hC:∀w',Ps b ga r w'->AA 72 #[pt b 0,.bool false] w' λ e w''=>e=.panicked (Bl a er)/\Fo b w'.heap.size w' w'':=hC
   have a5:∀w4,Fo b w1.drew.heap.size w1.drew w4->Hx b ga n gq w res (.panicked (Bl a er)) w4:=λ w4 a4=>by
    rw[a0.out,hq];exact⟨rfl,(hF.trans (AX b n w1)).trans (a4.mono (by show n<=w1.heap.size;omega))⟩
   clear hq
   go_upto_region 5 with fail
   go_region_law (go_simp;go_at_call 72;refine (hC w1.drew (h1.keep rfl rfl (AD _))).mono ?_;rintro e w4 ⟨rfl,a4⟩;refine skip_way w4 ⟨rfl,a5 w4 a4⟩ ?_)
   all_goals trivial
  rw[hq] at hC;replace hC:∀w',Ps b ga r w'->AA 72 #[pt b 0,.bool false] w' λ e w''=>∃v,e=.returned v/\FnV (From w'.heap.size) w'' s v/\Ps b ga l' w''/\Fo b w'.heap.size w' w'':=hC
  go_upto_region 5 with fail
  go_region_law (first
   |(refine step_append_lies _ (by rfl) _ _ 24 (by rfl) (gq+1) 36 i0 _ 7 120 underlying24 ax az au aw rfl (by omega) _ p.fns.length rf (by rfl) (a3.alloc _) ⟨w4.heap.size,0,none⟩ 1 1 (fL nm on (.slice a1 n1 c1) y (.slice a2 n2 c2) pl) (by rfl) (by rfl) (World.news_of_block (cs:=#[.string ⟨nm.toArray⟩,.bool on,.slice a1 n1 c1,.string ⟨y.toArray⟩,sZ,.slice a2 n2 c2,iv pl]) (t:=36) (fr:=(0,0)) (heap_new w4 _)) (by simp[Value.oneCell']) (by omega) (by unfold maxLen;omega) (by omega) (by simp;omega) (w4.heap.size+1) (by simp) ?_;intro g cap5 w5 hown5 hgrow hat hlt5;have a7:=(C0 hgrow a3 (Nat.lt_succ_self gq) a6).trans aa;have e2:=(Ag a7).2.2.1;have m2:=(Ag a7).2.2.2.2.2)
   |(go_simp;go_at_call 72;refine (hC w1.drew (h1.keep rfl rfl (AD _))).mono ?_;rintro e w4 ⟨v,rfl,⟨nm,on,a1,n1,c1,y,a2,n2,c2,pl,rfl,aq⟩,h4,a4⟩;have a3:=Bn (w:=w1.drew) (w':=w4) x3.drew a4 (by omega);have a6:gq<w4.heap.size:=AL a9 a4.size;have aa:=(a4.block gq a9 (by omega)).trans x1;have ya:=(Ag aa).2.2.1))
  all_goals
   have hG:=M1 hgrow hat;have ae:=Ab3 (n:=n) (w:=w1) hb am hn (by omega) x1 x2 x3 x4 ((AX b _ w1).trans a4) h4 aq hG hown5;replace a0:Aside (res=.inl ({ p with fns:=p.fns ++ [s] },l')):=by
    show _=_;rw[a0.out,hq];rfl
   obtain⟨af,ag,ad⟩:=ae;clear hq hC x1 x2 x3 x4 hown5 hgrow hat hG a7;go_wp2
   go_end0
   rw[a0.out];exact⟨rfl,af,ag,hF.trans ad⟩
 replace a0:Aside (res=if Px.sees 1 [111,110] l then Px.bind (Px.function true l.tail) λ g l1=>.inl ({ p with fns:=p.fns ++ [g] },l1) else Px.fail 31 l):=by
  show _=_;rw[a0.out,if_neg (by rw[hs];simp)]
 go_wp2_with fail
 refine (A5 ha [102,110] hs).mono ?_;rintro e wb ⟨rfl,ak,ab⟩;have ib:=ia.fo (Fo.of_below (b:=b) ab) hb;have ba:=ab.size;have ar:Fo b n w wb:=av.trans (AW (ab.mono (by omega)));clear hs ia ha ab;rcases hs:Px.sees 1 [111,110] l with _ | _
 rotate_left
 .obtain⟨t,r,rfl,_,_⟩:=Px.sees_head hs;replace a0:Aside (res=Px.bind (Px.function true r) λ g l1=>.inl ({ p with fns:=p.fns ++ [g] },l1)):=by
   show _=_;rw[a0.out,if_pos hs];rfl
  go_wp2_with fail
  refine (Ay ak [111,110] (by decide) hs).mono ?_;rintro e w1 ⟨rfl,h1,a8⟩;replace h1:Ps b ga r w1:=h1;have i1:=ib.fo a8 hb;have ay:=a8.size;have hF:Fo b n w w1:=ar.trans (a8.mono (by omega));have ah:p.states.length+p.fns.length+r.length+1<=4096:=by simp only[length_cons] at al;omega
  clear hs ib ak;obtain⟨ss,fs,rf,x1,x2,x3,x4⟩:=i1.box;obtain⟨sa,sc,rfl⟩:=A3 x2;obtain⟨fa,fc,rfl⟩:=A3 x3;have a9:gq<w1.heap.size:=(AB x1).1;obtain⟨_,y1,y2,_,g1,g2⟩:=Ag x1;have hC:∀w',Ps b ga r w'->AA 72 #[pt b 0,.bool true] w' λ e w''=>Cn b ga w' (Px.function true r) (λ s v w''=>FnV (From w'.heap.size) w'' s v) e w'':=λ w' h'=>Gv true b ga r w' h'
  rcases hq:Px.function true r with⟨s,l'⟩ | ⟨a,er⟩
  rotate_left
  .rw[hq] at hC;replace hC:∀w',Ps b ga r w'->AA 72 #[pt b 0,.bool true] w' λ e w''=>e=.panicked (Bl a er)/\Fo b w'.heap.size w' w'':=hC
   have a5:∀w4,Fo b w1.drew.heap.size w1.drew w4->Hx b ga n gq w res (.panicked (Bl a er)) w4:=λ w4 a4=>by
    rw[a0.out,hq];exact⟨rfl,(hF.trans (AX b n w1)).trans (a4.mono (by show n<=w1.heap.size;omega))⟩
   clear hq
   go_upto_region 7 with fail
   go_region_law (go_simp;go_at_call 72;refine (hC w1.drew (h1.keep rfl rfl (AD _))).mono ?_;rintro e w4 ⟨rfl,a4⟩;refine skip_way w4 ⟨rfl,a5 w4 a4⟩ ?_)
   all_goals trivial
  rw[hq] at hC;replace hC:∀w',Ps b ga r w'->AA 72 #[pt b 0,.bool true] w' λ e w''=>∃v,e=.returned v/\FnV (From w'.heap.size) w'' s v/\Ps b ga l' w''/\Fo b w'.heap.size w' w'':=hC
  go_upto_region 7 with fail
  go_region_law (first
   |(refine step_append_lies _ (by rfl) _ _ 24 (by rfl) (gq+1) 36 i0 _ 7 120 underlying24 ax az au aw rfl (by omega) _ p.fns.length rf (by rfl) (a3.alloc _) ⟨w4.heap.size,0,none⟩ 1 1 (fL nm on (.slice a1 n1 c1) y (.slice a2 n2 c2) pl) (by rfl) (by rfl) (World.news_of_block (cs:=#[.string ⟨nm.toArray⟩,.bool on,.slice a1 n1 c1,.string ⟨y.toArray⟩,sZ,.slice a2 n2 c2,iv pl]) (t:=36) (fr:=(0,0)) (heap_new w4 _)) (by simp[Value.oneCell']) (by omega) (by unfold maxLen;omega) (by omega) (by simp;omega) (w4.heap.size+1) (by simp) ?_;intro g cap5 w5 hown5 hgrow hat hlt5;have a7:=(C0 hgrow a3 (Nat.lt_succ_self gq) a6).trans aa;have e2:=(Ag a7).2.2.1;have m2:=(Ag a7).2.2.2.2.2)
   |(go_simp;go_at_call 72;refine (hC w1.drew (h1.keep rfl rfl (AD _))).mono ?_;rintro e w4 ⟨v,rfl,⟨nm,on,a1,n1,c1,y,a2,n2,c2,pl,rfl,aq⟩,h4,a4⟩;have a3:=Bn (w:=w1.drew) (w':=w4) x3.drew a4 (by omega);have a6:gq<w4.heap.size:=AL a9 a4.size;have aa:=(a4.block gq a9 (by omega)).trans x1;have ya:=(Ag aa).2.2.1))
  all_goals
   have hG:=M1 hgrow hat;have ae:=Ab3 (n:=n) (w:=w1) hb am hn (by omega) x1 x2 x3 x4 ((AX b _ w1).trans a4) h4 aq hG hown5;replace a0:Aside (res=.inl ({ p with fns:=p.fns ++ [s] },l')):=by
    show _=_;rw[a0.out,hq];rfl
   obtain⟨af,ag,ad⟩:=ae;clear hq hC x1 x2 x3 x4 hown5 hgrow hat hG a7;go_wp2
   go_end0
   rw[a0.out];exact⟨rfl,af,ag,hF.trans ad⟩
 replace a0:Aside (res=.inr (Px.place l,31)):=by
  show _=_;rw[a0.out,if_neg (by rw[hs];simp)];rfl
 go_wp2_with fail
 refine (A5 ak [111,110] hs).mono ?_;rintro e wc ⟨rfl,hc,ab⟩;have be:=ab.size;have b7:Fo b n w wc:=ar.trans (AW (ab.mono (by omega)));obtain⟨t,r,rfl,_⟩:=hc.head;go_wp2_with fail;refine (pgiveUp_any hc 31).mono ?_;rintro e wd ⟨rfl,b5⟩;refine⟨rfl,?_⟩;rw[a0.out];exact⟨rfl,b7.trans (AW (b5.mono (by omega)))⟩
theorem Ku(f:Nat)(p:Px.Pr)(t:Lx.Tok)(r:List Lx.Tok):Px.parts (f+1) p (t :: r)=if t.kind=5 then .inl (p,t :: r) else Px.bind (Fa p (t :: r)) λ p' l'=>Px.parts f p' l':=by
 simp only[Px.parts,Fa];split
 .rfl
 rcases h1:Px.sees 1 [115,116,97,116,101] (t :: r) with _ | _
 .rcases h2:Px.sees 1 [102,110] (t :: r) with _ | _
  .rcases h3:Px.sees 1 [111,110] (t :: r) with _ | _
   .rfl
   .simp only[Bool.false_eq_true,if_false,if_true,Ci,Dh,tail_cons]
  .simp only[Bool.false_eq_true,if_false,if_true,Ci,Dh,tail_cons]
 .simp only[if_true,Ci,Dh,tail_cons]
theorem Kv{p:Px.Pr}{l:List Lx.Tok}(hg:Px.Good l):Px.Res 1 l (Fa p l):=by
 unfold Fa;split
 .rename_i h;have a:=Px.sees1 h hg;exact Px.Res.after a ((Px.slot_ok _ a.good).weak.bind0 λ s l1 _ a1=>(Px.need_res a1.good).weak.bind0 λ _ l2 _ a2=>Px.Res.here a2.good)
 split
 .rename_i h;have a:=Px.sees1 h hg;exact Px.Res.after a ((Px.function_ok _ _ a.good).weak.bind0 λ s l1 _ a1=>Px.Res.here a1.good)
 split
 .rename_i h;have a:=Px.sees1 h hg;exact Px.Res.after a ((Px.function_ok _ _ a.good).weak.bind0 λ s l1 _ a1=>Px.Res.here a1.good)
 .exact Px.Res.fail hg (AI rfl)
theorem Jp{α β:Type}{r:Px.R α}{f:α->List Lx.Tok->Px.R β}{y:β}{l':List Lx.Tok}(h:Px.bind r f=.inl (y,l')):∃x l,r=.inl (x,l)/\f x l=.inl (y,l'):=by
 match r,h with
 | .inl (x,l),h=>exact⟨x,l,rfl,h⟩
 | .inr e,h=>simp[Px.bind] at h
theorem Tm{p p':Px.Pr}{l l':List Lx.Tok}(h:Fa p l=.inl (p',l')):p'.states.length+p'.fns.length=p.states.length+p.fns.length+1:=by
 unfold Fa at h;split at h
 .obtain⟨s,l1,_,h2⟩:=Jp h;obtain⟨u,l2,_,h3⟩:=Jp h2;simp at h3;rw[<-h3.1];simp;omega
 split at h
 .obtain⟨s,l1,_,h2⟩:=Jp h;simp at h2;rw[<-h2.1];simp;omega
 split at h
 .obtain⟨s,l1,_,h2⟩:=Jp h;simp at h2;rw[<-h2.1];simp;omega
 .simp[Px.fail] at h
theorem Kw:∀(f g:Nat) (p:Px.Pr) (l:List Lx.Tok),Px.Good l->l.length<f->l.length<g->Px.parts f p l=Px.parts g p l
 | 0,_,_,_,_,h,_=>by omega
 | _,0,_,_,_,_,h=>by omega
 | f+1,g+1,p,[],hg,_,_=>by exact absurd hg (by simp[Px.Good])
 | f+1,g+1,p,t :: r,hg,h1,h2=>by
  rw[Ku,Ku];split
  .rfl
  .refine Px.bind_congr λ p' l' e1=>?_
   have a1:=(Kv hg).ok p' l' e1;have:=a1.less;exact Kw f g p' l' a1.good (by omega) (by omega)
abbrev Cf:Obj:=prO 0 sZ sZ
abbrev pV(v:Nat)(ss fs:Value):Value:=.agg #[iv v,ss,fs]
theorem PPrBox.pr{gq:Nat}{p:Px.Pr}{rf:AR}{B:AS}(h2:w.ownsRow (gq+1) 40 3 ss p.states.length (p.states.flatMap Bi))(h3:w.ownsRow (gq+1) 36 7 fs p.fns.length rf)(h4:Br (λ k=>gq+1<=k/\fs.ownBlock≠some k/\ss.ownBlock≠some k) w p.fns rf)(hB:∀k,gq+1<=k->B k):Ec B w p (pV p.version ss fs):=
 ⟨ss,fs,rfl,Dg h2 (λ k hk _=>hB k hk),rf,Dg h3 (λ k hk _=>hB k hk),h4.base (λ k hk=>hB k hk.1)⟩
theorem Oz{l:List Lx.Tok}(h:Ps b ga l w) :
  AA 21 #[pt b 0] w λ e w'=>Cn b ga w (Px.program l) (λ p v w'=>Ec (From w.heap.size) w' p v) e w':=by
 obtain⟨res,a0⟩:∃res,Aside (res=Px.program l):=⟨_,rfl⟩;rw[<-a0.out];have ad:w.heap.size≠b:=by have:=h.there;omega
 have am:w.heap.size≠ga:=by have:=h.gl;omega
 have bg:=h.there;have bl:=h.gl;have h0:=h.alloc Cf;have ay:=heap_new w Cf;have ab:Fo b w.heap.size w (w.alloc Cf):=(AV _ _ _).alloc (AD _) _;have al:w.heap.size<(w.alloc Cf).heap.size:=by simp
 have bo:=Zl;go_enter func21,ntmps21;go_wp2_with fail;generalize w.alloc Cf=w0 at *;refine (pneed_any h0 1 [118,101,114,115,105,111,110] (by decide) (by decide)).mono ?_;rcases hq:Px.needK 1 [118,101,114,115,105,111,110] l with⟨u,l1⟩ | ⟨a,er⟩
 rotate_left
 .rintro e w1 ⟨rfl,aa⟩;refine⟨rfl,?_⟩;rw[a0.out,Px.program,hq];exact⟨rfl,ab.call aa ab.size⟩
 rintro e w1 ⟨v,rfl,rfl,h1,aa⟩;replace a0:Aside (res=Px.bind (Px.number l1) λ v l2=>Px.bind (Px.need [59] l2) λ _ l3=>Px.parts (l3.length+1) ⟨v,[],[]⟩ l3):=by
  show _=_;rw[a0.out,Px.program,hq];rfl
 have b0:=(aa.block _ al ad).trans ay;have af:=ab.call aa ab.size;have ax:w.heap.size<w1.heap.size:=AL al aa.size;clear hq ay ab al h0 aa;go_wp2_with fail;refine (Qo h1).mono ?_;rcases hq:Px.number l1 with⟨a4,l2⟩ | ⟨a,er⟩
 rotate_left
 .rintro e w2 ⟨rfl,a7⟩;refine⟨rfl,?_⟩;rw[a0.out,hq];exact⟨rfl,af.call a7 af.size⟩
 rintro e w2 ⟨v,rfl,rfl,h2,a7⟩;replace a0:Aside (res=Px.bind (Px.need [59] l2) λ _ l3=>Px.parts (l3.length+1) ⟨a4,[],[]⟩ l3):=by
  show _=_;rw[a0.out,hq];rfl
 have aw:=(a7.block _ ax ad).trans b0;have ar:=af.call a7 af.size;have b8:w.heap.size<w2.heap.size:=AL ax a7.size;have ai:Below w2.heap.size w2 (w2.alloc (prO a4 sZ sZ)):=(AF _ _).alloc (AD _) _;have h3:=h2.below ai;have au:=(ai.block _ b8).trans aw;have ae:=ar.below ai ar.size;have i3:PPrBox w2.heap.size ⟨a4,[],[]⟩ (w2.alloc (prO a4 sZ sZ)):=⟨_,_,[],heap_new w2 _,⟨rfl,AI ⟨rfl,rfl⟩⟩,⟨rfl,AI ⟨rfl,rfl⟩⟩,rfl⟩;have ak:b<w2.heap.size:=h2.there;have bb:ga<w2.heap.size:=h2.gl;have bi:w2.heap.size<(w2.alloc (prO a4 sZ sZ)).heap.size:=by simp
 clear hq b0 aw af ar h1 h2 a7 ai
 go_upto_region 3 with fail
 generalize w2.alloc (prO a4 sZ sZ)=w3s at *;generalize w2.heap.size=gq at *;go_wp2_with fail;refine (pneed_any h3 4 [59] (by decide) (by decide)).mono ?_;rcases hq:Px.need [59] l2 with⟨u,l3⟩ | ⟨a,er⟩
 rotate_left
 .rw[show Px.needK 4 [59] l2=_ from hq];rintro e w4 ⟨rfl,a6⟩;refine⟨rfl,?_⟩;rw[a0.out,hq];exact⟨rfl,ae.call a6 ae.size⟩
 rw[show Px.needK 4 [59] l2=_ from hq];rintro e w4 ⟨v,rfl,rfl,h4,a6⟩;replace a0:Aside (res=Px.parts (l3.length+1) ⟨a4,[],[]⟩ l3):=by
  show _=_;rw[a0.out,hq];rfl
 have az:=(a6.block _ (by omega) ad).trans au;have av:=ae.call a6 ae.size;have i4:=i3.fo a6 ak;have bq:=a6.size;have ag:=h4.few;clear hq au ae h3 a6 i3;go_wp2_with fail
 go_loopg [] (l3.length+1) (λ m wr=>∃(p:Px.Pr) (l4:List Lx.Tok),m=l4.length+1/\Ps b ga l4 wr/\PPrBox gq p wr/\wr.heap[w.heap.size]?=some Cf/\Fo b w.heap.size w wr/\gq<wr.heap.size/\p.states.length+p.fns.length+l4.length<=4096/\Aside (res=Px.parts (l4.length+1) p l4))
 case atStart=>exact⟨⟨a4,[],[]⟩,l3,rfl,h4,i4,az,av,by omega,by simpa using ag,a0⟩
 case round=>
  clear a0 h4 i4 az av ag;obtain⟨p,l4,rfl,h5,i5,aj,a5,bn,b6,a0⟩:=hrel;obtain⟨t,r,rfl,_⟩:=h5.head;replace a0:Aside (res=_):=a0.out.trans (Ku _ p t r);have hN:=B9 h5;have bh:=a5.size;by_cases hk:t.kind=5
  .replace a0:Aside (res=.inl (p,t :: r)):=by
    show _=_;rw[a0.out,if_pos hk]
   have b9:((t.kind:Int) != 5)=false:=by simp;omega
   clear hk;go_wp2_with fail;refine hN.mono ?_;rintro e w6 ⟨rfl,a3⟩;have h6:=h5.below a3;have i6:=i5.fo (Fo.of_below (b:=b) a3) ak;have ah:=(a3.block _ (by omega)).trans aj;have a8:=a5.below a3 a5.size;have b7:=a3.size;obtain⟨ss,fs,rf,x1,x2,x3,x4⟩:=i6.box;obtain⟨sa,sc,rfl⟩:=A3 x2;obtain⟨fa,fc,rfl⟩:=A3 x3;have aq:Cn b ga w (.inl (p,t :: r)) (λ p v w'=>Ec (From w.heap.size) w' p v) (.returned (pV p.version (.slice sa p.states.length sc) (.slice fa p.fns.length fc))) (w3 w6 w.heap.size (iv p.version) (.slice sa p.states.length sc) (.slice fa p.fns.length fc)):=
    ⟨_,rfl,((PPrBox.pr (B:=From (gq+1)) x2 x3 x4 (λ k hk=>hk)).since (Since.set3' (λ hh=>by have:gq+1<=w.heap.size:=hh;omega) _ _ _)).base (B8 (by omega)),h6.set3 ad am _ _ _,a8.set3 (AD _) _ _ _⟩
   obtain⟨y0,y1,y2,_⟩:=Ag x1;obtain⟨e0,e1,e2,m0,m1,m2⟩:=Ag ah;have b3:gq<w6.heap.size:=by omega
   have ba:w.heap.size<w6.heap.size:=by omega
   have bf:gq≠w.heap.size:=by omega
   have be:w.heap.size≠gq:=by omega
   clear hN h5 i5 aj a5 a3 h6 i6 a8 x2 x3 x4;go_wp2;rw[a0.out];exact bodyPost_ret (by simp[results,results21,go_sem,e0,e1,e2]) rfl aq
  .replace a0:Aside (res=Px.bind (Fa p (t :: r)) λ p' l'=>Px.parts (t :: r).length p' l'):=by
    show _=_;rw[a0.out,if_neg hk]
   have b9:((t.kind:Int) != 5)=true:=by simp;omega
   clear hk;go_wp2_with fail;refine hN.mono ?_;rintro e w6 ⟨rfl,a3⟩;have h6:=h5.below a3;have i6:=i5.fo (Fo.of_below (b:=b) a3) ak;have ah:=(a3.block _ (by omega)).trans aj;have a8:=a5.below a3 a5.size;have b7:=a3.size;clear hN h5 i5 aj a5 a3;go_wp2_with fail;refine (Xi (n:=gq) ak bb (AD _) h6 i6 b6).mono ?_;rcases hq:Fa p (t :: r) with⟨p',l'⟩ | ⟨a,er⟩
   .rintro e w7 ⟨rfl,i7,h7,a9⟩;have bj:=((Kv h6.good).ok p' l' hq).less;have b4:=((Kv h6.good).ok p' l' hq).good;have bp:=Tm hq;replace a0:Aside (res=Px.parts (l'.length+1) p' l'):=by
     show _=_;rw[a0.out,hq];exact Kw _ _ _ _ b4 (by omega) (by omega)
    have bc:=(a9.block _ (by omega) ad).trans ah;have b5:=a8.trans (a9.mono (by omega));have bk:=a9.size;clear hq a9 ah a8 h6 i6;go_wp2_with fail;go_roundg (l'.length+1)
    case measure=>omega
    case rel=>exact⟨p',l',rfl,h7,i7,bc,b5,by omega,by omega,a0⟩
   .rintro e w7 ⟨rfl,a9⟩;refine⟨rfl,?_⟩;rw[a0.out,hq];exact⟨rfl,a8.trans (a9.mono (by omega))⟩
theorem pfaultOf_any(a er:Nat)(w:World):AA 20 #[.iface 88 (.agg #[iv a,iv er])] w λ e w'=>e=.returned (.tuple #[iv a,iv er])/\Below w.heap.size w w':=by
 have a0:∀w1:World,(Instr.typeAssert (.iface 88 (.agg #[iv a,iv er])) 20 88 false).run prog w1=.ok (.agg #[iv a,iv er]) w1:=λ _=>by kernel_rfl
 go_enter func20,ntmps20;go_wp2
 go_quiet (fail)
 go_wp2
 go_ret2
 exact⟨rfl,below_drewN ((AF _ _).alloc (AD _) _) _⟩
theorem Ra(p q r:Addr)(w:World) :
  CallsD prog 19 #[.pointer (some p),.pointer (some q),.pointer (some r)] .returning w λ e u' w'=>e=.returned (.tuple #[])/\u'=.returning/\w'=w:=by
 refine callsD_of_wpS func19 rfl λ c₀ cs hu=>?_
 apply wpS_seq;apply wpS_region;simp[wpOpsS,go_sem,recoverD,hu,ntmps19,Exit.thenS];refine wpS_of_wp ?_;go_wp2;cases c₀
 simp_all [bodyPostS,results,results19]
abbrev Ed(v:Nat):Obj:=.cells #[iv v] 3 (0,0)
abbrev Cj(v:Nat):Obj:=.cells #[iv v] 27 (0,0)
theorem L5(p g1 g2 a er v1 v2:Nat)(a7:p<g1)(a8:g1<g2)(older:List PanicEntry)(w:World)(hp:w.heap[p]?=some Cf)(hq:w.heap[g1]?=some (Ed v1))(hr:w.heap[g2]?=some (Cj v2)) :
  CallsD prog 19 #[pt p 0,pt g1 0,pt g2 0] (.panicking ({ v:=.iface 88 (.agg #[iv a,iv er]),recovered:=false } :: older)) w λ e u' w'=>
   e=.returned (.tuple #[])/\u'=.panicking ({ v:=.iface 88 (.agg #[iv a,iv er]),recovered:=true } :: older) /\
   w'.heap[p]?=some Cf/\w'.heap[g1]?=some (Ed a)/\w'.heap[g2]?=some (Cj er)/\Below p w w':=by
 refine callsD_of_wpS func19 rfl λ c₀ cs hu=>?_
 apply wpS_seq;apply wpS_region;simp[wpOpsS,go_sem,recoverD,hu,ntmps19,Exit.thenS];refine wpS_of_wp ?_;have lp:p<w.heap.size:=(AB hp).1;have lq:g1<w.heap.size:=(AB hq).1;have lr:g2<w.heap.size:=(AB hr).1;obtain⟨x0,x1,x2,f0,f1,f2⟩:=Ag hp;have hW:=J9 hp (iv (0:Nat)) sZ sZ;have a0:∀k,k≠p->(w3 w p (iv (0:Nat)) sZ sZ).heap[k]?=w.heap[k]?:=λ k hk=>C7 hk _ _ _
 have a5:=F7 w p (iv (0:Nat)) sZ sZ;have a3:Below p w (w3 w p (iv (0:Nat)) sZ sZ):=Dw (AF _ _) (AD _) _ _ _;have e1:∀w1,Below (w3 w p (iv (0:Nat)) sZ sZ).heap.size (w3 w p (iv (0:Nat)) sZ sZ) w1 ->
   w1.cell? ⟨g1,0,none⟩=some (iv v1)/\w1.frozen? ⟨g1,0,none⟩=false/\w1.cell? ⟨g2,0,none⟩=some (iv v2)/\w1.frozen? ⟨g2,0,none⟩=false/\g1<w1.heap.size/\g2<w1.heap.size /\
   ((w1.setCell ⟨g1,0,none⟩ (iv a)).setCell ⟨g2,0,none⟩ (iv er)).heap[p]?=some Cf/\((w1.setCell ⟨g1,0,none⟩ (iv a)).setCell ⟨g2,0,none⟩ (iv er)).heap[g1]?=some (Ed a)/\((w1.setCell ⟨g1,0,none⟩ (iv a)).setCell ⟨g2,0,none⟩ (iv er)).heap[g2]?=some (Cj er)/\Below p w ((w1.setCell ⟨g1,0,none⟩ (iv a)).setCell ⟨g2,0,none⟩ (iv er)):=by
  intro w1 hb;have hz:=hb.size;have b1:w1.heap[g1]?=some (Ed v1):=(hb.block g1 (by omega)).trans ((a0 g1 (by omega)).trans hq);have b2:w1.heap[g2]?=some (Cj v2):=(hb.block g2 (by omega)).trans ((a0 g2 (by omega)).trans hr);have b0:w1.heap[p]?=some Cf:=(hb.block p (by omega)).trans hW;refine⟨cell_of_one b1,free_of_one b1,cell_of_one b2,free_of_one b2,by omega,by omega,?_,?_,?_,?_⟩
  .rw[Below.heap_setCell _ _ _ _ (by show p≠g2;omega),Below.heap_setCell _ _ _ _ (by show p≠g1;omega)];exact b0
  .rw[Below.heap_setCell _ _ _ _ (by show g1≠g2;omega)];simp[World.setCell,Array.getElem?_modify,b1]
  .have:(w1.setCell ⟨g1,0,none⟩ (iv a)).heap[g2]?=some (Cj v2):=(AG _ _ _ _ (by show g2≠g1;omega)).trans b2;simp[World.setCell,Array.getElem?_modify] at this ⊢;simp[this]
  .exact ((a3.trans (hb.mono (by omega))).setCell (p:=⟨g1,0,none⟩) (by show p<=g1;omega) _).setCell (p:=⟨g2,0,none⟩) (by show p<=g2;omega) _
 clear hW a0 a5 a3;go_wp2_with (go_at_call 20;refine (pfaultOf_any a er _).mono ?_;rintro e w1 ⟨rfl,a4⟩;obtain⟨k1,k2,k3,k4,k5,k6,r1,r2,r3,r4⟩:=e1 w1 a4);have a6:=And.intro r1 (And.intro r2 (And.intro r3 r4));clear e1 a4 k1 k2 k3 k4 k5 k6 r1 r2 r3 r4 hp hq hr x0 x1 x2 f0 f1 f2;generalize ((w1.setCell ⟨g1,0,none⟩ (iv a)).setCell ⟨g2,0,none⟩ (iv er))=w2 at *;cases c₀
 simp_all [bodyPostS,results,results19]
abbrev Cd(w:World):World:=((w.alloc Cf).alloc (Ed 0)).alloc (Cj 0)
theorem Dt(w:World):Below w.heap.size w (Cd w):=(((AF _ _).alloc (AD _) _).alloc (by simp) _).alloc (by simp;omega) _
theorem M9{v0 v1 v2:Nat}{s0 f0:Value}(b1:w1.heap[p]?=some (prO v0 s0 f0))(b2:w1.heap[p+1]?=some (Ed v1))(b3:w1.heap[p+1+1]?=some (Cj v2))(hB:Below p w w1)(a er v ss fs:Value) :
  ∃wF,wF=(((w3 w1 p v ss fs).setCell ⟨p+1,0,none⟩ a).setCell ⟨p+1+1,0,none⟩ er)/\wF.heap[p]?=some (.cells #[v,ss,fs] 26 (0,0))/\wF.heap[p+1]?=some (.cells #[a] 3 (0,0))/\wF.heap[p+1+1]?=some (.cells #[er] 27 (0,0))/\Below p w wF/\wF.heap.size=w1.heap.size/\∀k,p+2<k->wF.heap[k]?=w1.heap[k]?:=by
 refine⟨_,rfl,?_,?_,?_,?_,?_,?_⟩
 .rw[Below.heap_setCell _ _ _ _ (by show p≠p+1+1;omega),Below.heap_setCell _ _ _ _ (by show p≠p+1;omega)];exact J9 b1 _ _ _
 .rw[Below.heap_setCell _ _ _ _ (by show p+1≠p+1+1;omega)];have:(w3 w1 p v ss fs).heap[p+1]?=some (Ed v1):=(C7 (by omega) _ _ _).trans b2;generalize w3 w1 p v ss fs=wX at *;simp[World.setCell,Array.getElem?_modify,this]
 .have:((w3 w1 p v ss fs).setCell ⟨p+1,0,none⟩ a).heap[p+1+1]?=some (Cj v2):=(AG _ _ _ _ (by show p+1+1≠p+1;omega)).trans ((C7 (by omega) _ _ _).trans b3);generalize (w3 w1 p v ss fs).setCell ⟨p+1,0,none⟩ a=wX at *;simp[World.setCell,Array.getElem?_modify,this]
 .exact ((Dw hB (AD _) _ _ _).setCell (p:=⟨p+1,0,none⟩) (by show p<=p+1;omega) _).setCell (p:=⟨p+1+1,0,none⟩) (by show p<=p+1+1;omega) _
 .simp[World.setCell]
 .intro k hk;rw[Below.heap_setCell _ _ _ _ (by show k≠p+1+1;omega),Below.heap_setCell _ _ _ _ (by show k≠p+1;omega)];exact C7 (by omega) _ _ _
theorem Fs(w:World):(Cd w).heap.size=w.heap.size+3:=by simp
theorem Gw(w:World):(Cd w).heap[w.heap.size]?=some Cf/\(Cd w).heap[w.heap.size+1]?=some (Ed 0)/\(Cd w).heap[w.heap.size+1+1]?=some (Cj 0):=by
 refine⟨?_,?_,?_⟩
 .rw[Al (by simp;omega),Al (by simp)];exact heap_new w _
 .rw[Al (by simp)];have:=heap_new (w.alloc Cf) (Ed 0);simpa using this
 .have:=heap_new ((w.alloc Cf).alloc (Ed 0)) (Cj 0);simpa using this
theorem Tp(s:ByteArray)(w:World)(a3:Env w)(hm:s.size<=maxLen)(a er:Nat)(hl:Lx.lex true s.data.toList=.inr (a,er))(h0:er≠0) :
  AA 9 #[.string s] w λ e w'=>e=.returned (.tuple #[Ky,iv a,iv er])/\Below w.heap.size w w':=by
 have hL:=Uu s (Cd w) (a3.below (Dt w) a3.lt) hm;rw[show dotC=true from rfl,hl] at hL;replace hL:AA 18 #[.string s] (Cd w) λ e w'=>e=.returned (.tuple #[sZ,iv a,iv er])/\Below (Cd w).heap.size (Cd w) w':=hL
 have a9:((er:Int) != 0)=true:=by simp;omega
 have a0:∀w1,Below (Cd w).heap.size (Cd w) w1->w1.heap[w.heap.size]?=some Cf/\w1.heap[w.heap.size+1]?=some (Ed 0)/\w1.heap[w.heap.size+1+1]?=some (Cj 0)/\w.heap.size+3<=w1.heap.size/\Below w.heap.size w w1:=by
  intro w1 hb;have hz:=Fs w;have hs:=hb.size;obtain⟨b1,b2,b3⟩:=Gw w;exact⟨(hb.block _ (by omega)).trans b1,(hb.block _ (by omega)).trans b2,(hb.block _ (by omega)).trans b3,by omega,(Dt w).trans (hb.mono (by omega))⟩
 go_enter_defers func9,ntmps9
 go_wp2_with fail
 refine hL.mono ?_;rintro e w1 ⟨rfl,a6⟩;obtain⟨b1,b2,b3,hz,hB⟩:=a0 w1 a6;have c1:=cell_of_one b2;have f1:=free_of_one b2;have c2:=cell_of_one b3;have f2:=free_of_one b3;obtain⟨x0,x1,x2,k0,k1,k2⟩:=Ag b1;have l1:w.heap.size<w1.heap.size:=by omega
 have l2:w.heap.size+1<w1.heap.size:=by omega
 have l3:w.heap.size+1+1<w1.heap.size:=by omega
 have hY:∃w2,w2=(w1.setCell ⟨w.heap.size+1,0,none⟩ (iv a)).setCell ⟨w.heap.size+1+1,0,none⟩ (iv er)/\w2.heap[w.heap.size]?=some Cf/\w2.heap[w.heap.size+1]?=some (Ed a)/\w2.heap[w.heap.size+1+1]?=some (Cj er)/\Below w.heap.size w w2/\w2.heap.size=w1.heap.size:=by
  refine⟨_,rfl,?_,?_,?_,?_,?_⟩
  .rw[Below.heap_setCell _ _ _ _ (by show w.heap.size≠w.heap.size+1+1;omega),Below.heap_setCell _ _ _ _ (by show w.heap.size≠w.heap.size+1;omega)];exact b1
  .rw[Below.heap_setCell _ _ _ _ (by show w.heap.size+1≠w.heap.size+1+1;omega)];simp[World.setCell,Array.getElem?_modify,b2]
  .have:(w1.setCell ⟨w.heap.size+1,0,none⟩ (iv a)).heap[w.heap.size+1+1]?=some (Cj 0):=(AG _ _ _ _ (by show w.heap.size+1+1≠w.heap.size+1;omega)).trans b3;generalize w1.setCell ⟨w.heap.size+1,0,none⟩ (iv a)=wX at *;simp[World.setCell,Array.getElem?_modify,this]
  .exact (hB.setCell (p:=⟨w.heap.size+1,0,none⟩) (by show w.heap.size<=w.heap.size+1;omega) _).setCell (p:=⟨w.heap.size+1+1,0,none⟩) (by show w.heap.size<=w.heap.size+1+1;omega) _
  .simp[World.setCell]
 clear hL a0 a6 b1 b2 b3 hB;go_wp2;obtain⟨w2,a5,d1,d2,d3,a8,a7⟩:=hY;rw[<-a5];clear a5 c1 f1 c2 f2 x0 x1 x2 k0 k1 k2;have c1:=cell_of_one d2;have f1:=free_of_one d2;have c2:=cell_of_one d3;have f2:=free_of_one d3;obtain⟨x0,x1,x2,k0,k1,k2⟩:=Ag d1;rw[<-a7] at l1 l2 l3;have hX:=M9 (w1:=w2) (p:=w.heap.size) d1 d2 d3 a8 (iv a) (iv er) (iv 0) sZ sZ
 go_region
 all_goals
  go_wp2;obtain⟨wF,a4,r1,r2,r3,aa,_,_⟩:=hX;have u1:=cell_of_one r2;have u2:=cell_of_one r3;obtain⟨v0,v1,v2,_⟩:=Ag r1;rw[<-a4];clear a4;simp[bodyPostD,Leaves,settle,results,results9,go_sem,u1,u2,v0,v1,v2];exact aa.trans ⟨rfl,rfl,rfl,AD _,λ _ _=>rfl⟩
theorem Ab6{cap:Nat}{ts:List Lx.Tok}(hb:w.heap[b]?=some (.cells #[sL ga 0 ts.length cap] 55 (0,0)))(a3:Yp w ga ts)(hg:ga<w.heap.size)(a4:ga≠b)(hc:ts.length<=cap)(hm:cap<=maxLen)(a0:Px.Good ts)(ht:∀t∈ts,Wm t)(hf:ts.length<=4096):Ps b ga ts w:=
 ⟨a0,ht,⟨0,cap,hb,hc,hm,λ k t hk=>by simpa using a3 k t hk⟩,hg,a4,hf⟩
theorem Jc{n:Nat}(h:Fo b n w w')(hb:n<=b):Below n w w':=⟨h.os,h.tape,h.output,h.size,λ k hk=>h.block k hk (by omega)⟩
theorem Aq2{base:Nat}{e:TypeId}{n cap:Nat}(h:w.ownsRow base e sz (sL g 0 n cap) n xs):cap<=maxLen:=by
 rcases h.2 with⟨hv,_⟩ | ⟨g',a0,cur,hv,_,_,_,hc,_⟩
 .simp at hv
 .simp at hv;omega
theorem Rc(s:ByteArray)(w:World)(a7:Env w)(hm:s.size<=maxLen)(ts:List Lx.Tok)(hl:Lx.lex true s.data.toList=.inl ts) :
  AA 9 #[.string s] w λ e w'=>M8 (match Px.program ts with | .inl (p,_)=>.inl p | .inr x=>.inr x) w e w':=by
 obtain⟨res,a0⟩:∃res:Px.Pr ⊕ (Nat × Nat),Aside (res=match Px.program ts with | .inl (p,_)=>.inl p | .inr x=>.inr x):=⟨_,rfl⟩;rw[<-a0.out];have bb:∀(fn:Fn) (first cap:Array Value) (w:World),(Instr.makeFunc fn first cap).run prog w=.ok (.func fn first cap) w:=λ _ _ _ _=>rfl
 have hL:=Uu s (Cd w) (a7.below (Dt w) a7.lt) hm;rw[show dotC=true from rfl,hl] at hL;replace hL:AA 18 #[.string s] (Cd w) λ e w'=>(∃v,e=.returned (.tuple #[v,iv 0,iv 0])/\w'.ownsRow (Cd w).heap.size 93 4 v ts.length (Dm ts))/\Below (Cd w).heap.size (Cd w) w':=hL
 have a6:=P0 hl;have aa:=Yr hl;have aj:=Ux hl;have af:=(C6 hl).1;have a5:∀w1,Below (Cd w).heap.size (Cd w) w1->w1.heap[w.heap.size]?=some Cf/\w1.heap[w.heap.size+1]?=some (Ed 0)/\w1.heap[w.heap.size+1+1]?=some (Cj 0)/\w.heap.size+3<=w1.heap.size/\Below w.heap.size w w1:=by
  intro w1 hb;have hz:=Fs w;have hs:=hb.size;obtain⟨b1,b2,b3⟩:=Gw w;exact⟨(hb.block _ (by omega)).trans b1,(hb.block _ (by omega)).trans b2,(hb.block _ (by omega)).trans b3,by omega,(Dt w).trans (hb.mono (by omega))⟩
 have az:=Fs w
 go_enter_defers func9,ntmps9
 go_wp2_with fail
 refine hL.mono ?_;rintro e w1 ⟨⟨v,rfl,a4⟩,au⟩;obtain⟨b1,b2,b3,hz,hB⟩:=a5 w1 au;obtain⟨ga,cap,rfl,b8,b7,ad,a9⟩:=Wl a4 af;have ay:=Aq2 a4;have c1:=cell_of_one b2;have f1:=free_of_one b2;have c2:=cell_of_one b3;have f2:=free_of_one b3;have l1:w.heap.size<w1.heap.size:=by omega
 have l2:w.heap.size+1<w1.heap.size:=by omega
 have l3:w.heap.size+1+1<w1.heap.size:=by omega
 have hY:∃w2,w2=((w1.setCell ⟨w.heap.size+1,0,none⟩ (iv 0)).setCell ⟨w.heap.size+1+1,0,none⟩ (iv 0)).alloc (.cells #[sL ga 0 ts.length cap] 55)/\w2.heap[w.heap.size]?=some Cf/\w2.heap[w.heap.size+1]?=some (Ed 0)/\w2.heap[w.heap.size+1+1]?=some (Cj 0)/\Below w.heap.size w w2/\w2.heap.size=w1.heap.size+1/\Ps w1.heap.size ga ts w2:=by
  have a8:∀k,k≠w.heap.size+1->k≠w.heap.size+1+1->((w1.setCell ⟨w.heap.size+1,0,none⟩ (iv 0)).setCell ⟨w.heap.size+1+1,0,none⟩ (iv 0)).heap[k]?=w1.heap[k]?:=λ k h1 h2=>(AG _ _ _ _ h2).trans (AG _ _ _ _ h1)
  have e2:((w1.setCell ⟨w.heap.size+1,0,none⟩ (iv 0)).setCell ⟨w.heap.size+1+1,0,none⟩ (iv 0)).heap[w.heap.size+1]?=some (Ed 0):=by
   rw[Below.heap_setCell _ _ _ _ (by show w.heap.size+1≠w.heap.size+1+1;omega)];simp[World.setCell,Array.getElem?_modify,b2]
  have e3:((w1.setCell ⟨w.heap.size+1,0,none⟩ (iv 0)).setCell ⟨w.heap.size+1+1,0,none⟩ (iv 0)).heap[w.heap.size+1+1]?=some (Cj 0):=by
   have:(w1.setCell ⟨w.heap.size+1,0,none⟩ (iv 0)).heap[w.heap.size+1+1]?=some (Cj 0):=(AG _ _ _ _ (by show w.heap.size+1+1≠w.heap.size+1;omega)).trans b3;generalize w1.setCell ⟨w.heap.size+1,0,none⟩ (iv 0)=wX at *;simp[World.setCell,Array.getElem?_modify,this]
  have ae:((w1.setCell ⟨w.heap.size+1,0,none⟩ (iv 0)).setCell ⟨w.heap.size+1+1,0,none⟩ (iv 0)).heap.size=w1.heap.size:=by simp[World.setCell]
  have ax:Below w.heap.size w ((w1.setCell ⟨w.heap.size+1,0,none⟩ (iv 0)).setCell ⟨w.heap.size+1+1,0,none⟩ (iv 0)):=(hB.setCell (p:=⟨w.heap.size+1,0,none⟩) (by show w.heap.size<=w.heap.size+1;omega) _).setCell (p:=⟨w.heap.size+1+1,0,none⟩) (by show w.heap.size<=w.heap.size+1+1;omega) _;generalize (w1.setCell ⟨w.heap.size+1,0,none⟩ (iv 0)).setCell ⟨w.heap.size+1+1,0,none⟩ (iv 0)=wX at *;have ab:=heap_new wX (.cells #[sL ga 0 ts.length cap] 55);rw[ae] at ab;refine⟨_,rfl,(Al (by omega)).trans ((a8 _ (by omega) (by omega)).trans b1),(Al (by omega)).trans e2,(Al (by omega)).trans e3,ax.alloc (by omega) _,by simp[ae],Ab6 ab ?_ (by simp[ae];omega) (by omega) ad ay a6 aa aj⟩;intro k t hk;have hc:∀j,(wX.alloc (.cells #[sL ga 0 ts.length cap] 55)).cell? ⟨ga,j,none⟩=w1.cell? ⟨ga,j,none⟩:=λ j=>World.cell?_of_block (w:=w1) ((Al (by show ga<_;omega)).trans (a8 ga (by omega) (by omega)))
  rw[hc,hc,hc,hc];exact a9 k t hk
 clear hL a5 au b1 b2 b3 hB a9 a4 az
 go_upto_region 6 with fail
 obtain⟨w2,ak,d1,d2,d3,al,b9,b0⟩:=hY;rw[<-ak];clear ak c1 f1 c2 f2;have b6:w.heap.size+2<w1.heap.size:=by omega
 generalize w1.heap.size=b at *;have hC:=Oz b0;rcases hq:Px.program ts with⟨p,l'⟩ | ⟨a,er⟩
 .rw[hq] at hC;go_wp2_with fail;refine hC.mono ?_;rintro e w4 ⟨v,rfl,ai,aw,a3⟩;obtain⟨sa,sn,sc,fa,fn,fc,rfl⟩:=ai.cells;have g1:=(a3.block _ (by omega) (by omega)).trans d1;have g2:=(a3.block _ (by omega) (by omega)).trans d2;have g3:=(a3.block _ (by omega) (by omega)).trans d3;have ag:Below w.heap.size w w4:=al.trans (Jc (a3.mono (by omega)) (by omega));have bc:=a3.size;have ba:w.heap.size<w4.heap.size:=by omega
  have bf:w.heap.size+1<w4.heap.size:=by omega
  have be:w.heap.size+1+1<w4.heap.size:=by omega
  have c1:=cell_of_one g2;have f1:=free_of_one g2;have c2:=cell_of_one g3;have f2:=free_of_one g3;obtain⟨x0,x1,x2,k0,k1,k2⟩:=Ag g1;have hX:=M9 (p:=w.heap.size) g1 g2 g3 ag (iv 0) (iv 0) (iv p.version) (.slice sa sn sc) (.slice fa fn fc);clear hC a3 aw;replace a0:Aside (res=.inl p):=by
   show _=_;rw[a0.out,hq]
  clear hq;go_wp2;refine leaves_cons (f:=19) (args:=#[pt w.heap.size 0,pt (w.heap.size+1) 0,pt (w.heap.size+1+1) 0]) (by simp) (by simp[go_sem]) ?_;refine (Ra _ _ _ _).mono ?_;rintro e u' w'' ⟨rfl,rfl,rfl⟩;obtain⟨wF,am,r1,r2,r3,av,b5,ar⟩:=hX;have u1:=cell_of_one r2;have u2:=cell_of_one r3;obtain⟨v0,v1,v2,_⟩:=Ag r1;have b4:Ec (From w.heap.size) wF p (.agg #[iv p.version,.slice sa sn sc,.slice fa fn fc]):=(ai.since ⟨by omega,λ k hk _=>ar k (by have:w2.heap.size<=k:=hk;omega)⟩).base (B8 (by omega));rw[<-am];clear am ar ai;simp[Leaves,settle,results,results9,go_sem,u1,u2,v0,v1,v2];rw[a0.out];exact⟨⟨_,rfl,b4⟩,av⟩
 .rw[hq] at hC;replace a0:Aside (res=.inr (a,er)):=by
   show _=_;rw[a0.out,hq]
  clear hq;go_wp2_with fail;refine hC.mono ?_;rintro e w4 ⟨rfl,a3⟩;have g1:=(a3.block _ (by omega) (by omega)).trans d1;have g2:=(a3.block _ (by omega) (by omega)).trans d2;have g3:=(a3.block _ (by omega) (by omega)).trans d3;have ag:Below w.heap.size w w4:=al.trans (Jc (a3.mono (by omega)) (by omega));clear hC a3;refine leaves_cons (f:=19) (args:=#[pt w.heap.size 0,pt (w.heap.size+1) 0,pt (w.heap.size+1+1) 0]) (by simp) (by simp[go_sem]) ?_;refine (L5 w.heap.size (w.heap.size+1) (w.heap.size+1+1) a er 0 0 (by omega) (by omega) [] _ g1 g2 g3).mono ?_;rintro e u' w'' ⟨rfl,rfl,r1,r2,r3,aq⟩;have ah:Below w.heap.size w w'':=ag.trans aq;have u1:=cell_of_one r2;have u2:=cell_of_one r3;obtain⟨v0,v1,v2,_⟩:=Ag r1;clear r1 r2 r3 aq;simp[Leaves,settle,results,results9,go_sem,u1,u2,v0,v1,v2];rw[a0.out];exact⟨rfl,ah⟩
theorem K1:Aj7:=by
 intro s w henv hm;unfold Px.parse;rcases hl:Lx.lex true s.data.toList with ts | ⟨a,er⟩
 .exact Rc s w henv hm ts hl
 .have hp:Px.parse s.data.toList=.inr (a,er):=by unfold Px.parse;rw[hl]
  have h0:er≠0:=by
   rcases parse_bad_cases hp with h | ⟨ts,h,_⟩
   .exact h.2.1
   .rw[hl] at h;simp at h
  exact Tp s w henv hm a er hl h0
end
end Go.Proofs.YtpckmjfabiallaaGreatDoor
