/- Texts of ours, joined. -/
import Derived.Test.YtpckmjfabiallaaGreatDoorH12
set_option linter.unusedVariables false
set_option linter.unusedSimpArgs false
set_option maxRecDepth 100000
set_option maxHeartbeats 16000000
namespace Go.Proofs.YtpckmjfabiallaaGreatDoor
variable{T:TypeId}{b g mb n0 p:Nat}{fs s1 ss v v0 y0 y1 y2 y3 y4 y5:Value}{w w':World}{x:List UInt8}
open List
open Tryz
section
open Go.RowKit
open Ck (CE CS CF CP Mng)
attribute [local go_sem ↓] Go.wp_at_zero Go.wp_at_succ
theorem G6{cb nb num:Nat}{lv nv:Value}{pre nt:Ck.Env}(a3:w.heap[b]?=some (.cells #[v0,ss,fs,.map (some mb),iv num,lv] 62 (0,0)))(he:A7 w mb (pre ++ nt))(hs:Sc n0 b cb nb nv (nt.map (·.1)) w)(am:mb<n0)(aj:b≠mb)(hd:∀y∈pre,∀x∈nt,y.1≠x.1) :
  AA 113 #[pt nb 0,pt cb 0] w λ e w'=>e=.returned (.tuple #[])/\A7 w' mb pre/\Fm (λ j=>j=mb) w w':=by
 have ag:b<w.heap.size:=(AB a3).1;obtain⟨m0,m1,m2⟩:=K9 hs.nbk;have a0:∀w',Fm (λ j=>j=mb) w w'->w'.cell? ⟨cb,0,none⟩=some (pt b 0)/\cb<w'.heap.size/\w'.cell? ⟨b,3,none⟩=some (.map (some mb))/\b<w'.heap.size:=λ w' hF=>by
  have ak:=(AB hs.cbk).1;have h1:=(hF.block cb ak (by have:=hs.cn;omega)).trans hs.cbk;have h2:=(hF.block b ag aj).trans a3;obtain⟨-,-,-,c3,-⟩:=Bc h2;exact⟨(K9 h1).1,(K9 h1).2.2,c3,by have:=hF.size;omega⟩
 have a4:∀(q:Nat) (x:List UInt8 × Mng) w',Fm (λ j=>j=mb) w w'->nt[q]?=some x->∃g cap,nv=sL g 0 nt.length cap/\g<w'.heap.size/\w'.cell? ⟨g,q,none⟩=some (strV x.1):=λ q x w' hF hx=>by
  have h1:Strs n0 w' nv (nt.map (·.1)):=hs.own.since (λ j hj=>hF.block j (hs.own.lt hj).2 (by have:=(hs.own.lt hj).1;omega))
  obtain⟨g,cap,e1,e2,e3⟩:=h1.get (i:=q) (x:=x.1) (by rw[List.getElem?_map,hx];rfl);exact⟨g,cap,by simpa using e1,e2,e3⟩
 obtain⟨na,nc,ab,ai,ar⟩:=hs.own.slice;simp only[length_map] at ab ai;have aq:nt.length<=9223372036854775807:=by omega
 have ah:Hid (∀y∈pre,∀x∈nt,y.1≠x.1):=hd;subst ab;clear hs a3 hd;go_enter func113,ntmps113;go_wp2_with fail
 go_loopg [6] nt.length (λ gh i wr=>∃q:Nat,q<=nt.length/\gh=nt.length - q/\i=iv q/\Hid (A7 wr mb (pre ++ nt.drop q)/\Fm (λ j=>j=mb) w wr))
 case atStart=>exact⟨0,AO _,rfl,rfl,by simpa using he,Fm.refl _ _⟩
 case round=>
  obtain⟨q,hq,rfl,rfl,HI⟩:=hrel;obtain⟨hE,hF⟩:=HI.out;clear HI he;by_cases hlt:q<nt.length
  .have a8:(q:Int)<(nt.length:Int):=by omega
   have al:(0:Int)<=(q:Int):=by omega
   obtain⟨x,hx⟩:∃x,nt[q]?=some x:=⟨_,AN hlt⟩;obtain⟨g,cap,e1,e2,e3⟩:=a4 q x wr hF hx;simp only[Value.slice.injEq,true_and] at e1;obtain⟨rfl,rfl⟩:=e1;obtain⟨c0,c1,c2,c3⟩:=a0 wr hF;have ae:nt.drop q=x :: nt.drop (q+1):=by
    obtain⟨hi,rfl⟩:=AK hx;exact drop_eq_getElem_cons hi
   rw[ae] at hE;obtain⟨x1,x2⟩:=x;obtain⟨ob,ad,aa⟩:=Ts hE (λ y hy=>ah.out y hy (x1,x2) (mem_of_getElem? hx)) 0;have a6:∀ty,(Builtin.delete_ #[60,9] ty #[.map (some mb),strV x1]).run prog wr=.ok (.tuple #[]) (setB wr mb ob):=λ ty=>ad
   obtain⟨w2,a5⟩:∃w2,setB wr mb ob=w2:=⟨_,rfl⟩;have af:Fm (λ j=>j=mb) w w2:=by rw[<-a5];exact hF.trans (Fm.setB (X:=λ j=>j=mb) (g:=mb) rfl ob) (λ _ _ h=>h) (λ _ _ h=>h)
   rw[a5] at a6 aa;have a7:Hid (A7 w2 mb (pre ++ nt.drop (q+1))/\Fm (λ j=>j=mb) w w2):=⟨aa,af⟩;clear hE aa ad ae hx af a4 a0 hF a5;go_wp2_with fail;go_roundg (nt.length - (q+1))
   case measure=>omega
   case rel=>exact⟨q+1,by omega,rfl,by go_num,a7⟩
  .have a8:¬(q:Int)<(nt.length:Int):=by omega
   have a9:A7 wr mb pre:=by
    rw[drop_of_length_le (by omega),append_nil] at hE;exact hE
   clear hE a4 a0;go_wp2_with fail;exact bodyPost_end (results_none rfl _ _ _) rfl ⟨rfl,a9,hF⟩
theorem Gg(hn:n0<=w.heap.size) :
  AA 73 #[pt b 0] w λ e w'=>∃cb nb,e=.returned (.tuple #[.func (.func 112) #[] #[pt cb 0,pt nb 0],.func (.func 113) #[] #[pt nb 0,pt cb 0]])/\Sc n0 b cb nb sZ [] w'/\w.heap.size<=cb/\w.heap.size<=nb/\Below w.heap.size w w':=by
 have aa:∀(fn:Fn) (first cap:Array Value) (w:World),(Instr.makeFunc fn first cap).run prog w=.ok (.func fn first cap) w:=λ _ _ _ _=>rfl
 obtain⟨w0,a0⟩:∃w0,w.alloc (.cells #[pt b 0] 97)=w0:=⟨_,rfl⟩;have a8:Below w.heap.size w w0:=by rw[<-a0];exact (AF _ _).alloc (AD _) _
 have l0:w.heap.size<w0.heap.size:=by rw[<-a0];simp
 have a5:w0.heap[w.heap.size]?=some (.cells #[pt b 0] 97 (0,0)):=by rw[<-a0];exact heap_new _ _
 obtain⟨w1,a3⟩:∃w1,w0.alloc (.cells #[sZ] 33)=w1:=⟨_,rfl⟩;have a6:Below w0.heap.size w0 w1:=by rw[<-a3];exact (AF _ _).alloc (AD _) _
 have l1:w0.heap.size<w1.heap.size:=by rw[<-a3];simp
 have a7:w1.heap[w0.heap.size]?=some (.cells #[sZ] 33 (0,0)):=by rw[<-a3];exact heap_new _ _
 have a9:Below w.heap.size w w1:=a8.trans (a6.mono (by omega));have a4:Sc n0 b w.heap.size w0.heap.size sZ [] w1:=⟨(a6.block _ l0).trans a5,a7,Strs.nil _ _,hn,by omega,by omega,by simp[Value.ownBlock],by simp[Value.ownBlock]⟩;clear a5 a7;go_enter func73,ntmps73;go_wp2
 go_ret2
 exact⟨w.heap.size,w0.heap.size,rfl,a4,AD _,by omega,a9⟩
def PaB(B:AS)(w:World)(tys:List (List UInt8))(v:Value):Prop:=∃row,SlRow B w 3 v tys.length row/\∀(i:Nat) t,tys[i]?=some t->row[i*3+1]?=some (strV t)
def O8(B:AS)(w:World)(hs:List Ck.Hd)(v:Value):Prop:=∃row,SlRow B w 7 v hs.length row/\∀(i:Nat) h,hs[i]?=some h->∃(nm:ByteArray) (ps:Value) (la:Option Addr) (ln lc:Nat) (ba:Option Addr) (bn bc:Nat) (pl:Int),row[i*7]?=some (.string nm)/\row[i*7+1]?=some (.bool h.on)/\row[i*7+2]?=some ps/\row[i*7+3]?=some (strV h.result)/\row[i*7+4]?=some (.slice la ln lc)/\row[i*7+5]?=some (.slice ba bn bc)/\row[i*7+6]?=some (iv pl)/\PaB B w h.params ps
theorem PaB.since{B:AS}{a0:List (List UInt8)}(h:PaB B w a0 v)(s:Since B w w'):PaB B w' a0 v:=by
 obtain⟨row,h1,h2⟩:=h;exact⟨row,h1.since s,h2⟩
theorem O8.since{B:AS}{hs:List Ck.Hd}(h:O8 B w hs v)(s:Since B w w'):O8 B w' hs v:=by
 obtain⟨row,h1,h2⟩:=h;refine⟨row,h1.since s,λ i h hi=>?_⟩;obtain⟨nm,ps,la,ln,lc,ba,bn,bc,pl,a1,a2,a3,a4,a5,a6,a7,a8⟩:=h2 i h hi;exact⟨nm,ps,la,ln,lc,ba,bn,bc,pl,a1,a2,a3,a4,a5,a6,a7,a8.since s⟩
theorem O8.any{B:AS}{hs:List Ck.Hd}(h:O8 B w hs v):Xm w hs v:=by
 obtain⟨row,h1,h2⟩:=h;refine⟨row,h1.base (λ _ _=>trivial),λ i h hi=>?_⟩;obtain⟨nm,ps,la,ln,lc,ba,bn,bc,pl,a1,a2,a3,a4,a5,a6,a7,a0,p1,p2⟩:=h2 i h hi;exact⟨nm,ps,la,ln,lc,ba,bn,bc,pl,a1,a2,a3,a4,a5,a6,a7,a0,p1.base (λ _ _=>trivial),p2⟩
abbrev Old(n0 b mb:Nat):Nat->Prop:=λ j=>j<n0/\j≠b/\j≠mb
structure CkS(n0 b mb:Nat)(v0 ss fs:Value)(k:Ck.Kx)(env:Ck.Env)(ls:List (List UInt8))(lv:Value)(w:World):Prop where
 blk:w.heap[b]?=some (.cells #[v0,ss,fs,.map (some mb),iv k.number,lv] 62 (0,0))
 hds:O8 (Old n0 b mb) w k.heads fs
 env:A7 w mb env
 loc:Strs n0 w lv ls
 hb:b<n0
 hm:mb<n0
 bm:b≠mb
 sz:n0<=w.heap.size
structure KOk(k:Ck.Kx)(env:Ck.Env):Prop where
 eok:Do env
 elen:∀x∈env,x.2.type.length<=1000
 res:∀h∈k.heads,h.result.length<=1000
 pars:∀h∈k.heads,∀t∈h.params,t.length<=1000
 num:k.number<=k.heads.length
 cur:∃h,k.heads[k.number]?=some h/\h.result=k.result
theorem KOk.cx{k:Ck.Kx}{env:Ck.Env}(h:KOk k env):CxOk (k.at env):=⟨h.elen,h.res,h.pars,h.num⟩
theorem CkS.at{k:Ck.Kx}{env:Ck.Env}{ls:List (List UInt8)}{lv:Value}(h:CkS n0 b mb v0 ss fs k env ls lv w):CkAt w b mb (k.at env):=⟨⟨v0,ss,fs,lv,h.blk,h.hds.any⟩,h.env⟩
theorem CkS.keep{k:Ck.Kx}{env:Ck.Env}{ls:List (List UInt8)}{lv:Value}(h:CkS n0 b mb v0 ss fs k env ls lv w)(hb:Below w.heap.size w w'):CkS n0 b mb v0 ss fs k env ls lv w':=
 ⟨(hb.block _ (by have:=h.hb;have:=h.sz;omega)).trans h.blk,h.hds.since (Since.of_below hb),h.env.since (hb.block _ h.env.lt),h.loc.since (λ j hj=>hb.block _ (h.loc.lt hj).2),h.hb,h.hm,h.bm,AP h.sz hb.size⟩
structure Apart(lv nv:Value)(cb nb:Nat):Prop where
 c:lv.ownBlock≠some cb
 n:lv.ownBlock≠some nb
 v:∀j,lv.ownBlock=some j->nv.ownBlock≠some j
abbrev H0(b mb nb:Nat)(lv nv:Value):Nat->Prop:=λ j=>j=b\/j=mb\/j=nb\/lv.ownBlock=some j\/nv.ownBlock=some j
def H3(n0 b mb cb nb:Nat)(v0 ss fs:Value)(k:Ck.Kx)(ls:List (List UInt8))(lv nv:Value)(names:List (List UInt8))(x:AQ)(w:World)(r:Ck.R (Ck.Env × List (List UInt8)))(e:Ending)(w':World):Prop:=
 match r with
 | .inl (env',ls')=>∃lv' nv',e=.returned (iv ls.length)/\CkS n0 b mb v0 ss fs k env' ls' lv' w'/\Sc n0 b cb nb nv' (names ++ [x]) w'/\Apart lv' nv' cb nb/\Fm (H0 b mb nb lv nv) w w'/\(∀j,lv'.ownBlock=some j->lv.ownBlock=some j\/w.heap.size<=j)/\(∀j,nv'.ownBlock=some j->nv.ownBlock=some j\/w.heap.size<=j)
 | .inr (a,er)=>e=.panicked (Af a er)/\Fm (H0 b mb nb lv nv) w w'
theorem Ir{cb nb:Nat}{lv nv:Value}{k:Ck.Kx}{env:Ck.Env}{ls names:List (List UInt8)}(h:CkS n0 b mb v0 ss fs k env ls lv w)(bj:Do env)(hs:Sc n0 b cb nb nv names w)(ha:Apart lv nv cb nb)(hl:ls.length<=32)(bs:names.length<=100000)(x:AQ)(p kind:Nat)(slot:Int)(ty:AQ) :
  AA 76 #[pt b 0,.func (.func 112) #[] #[pt cb 0,pt nb 0],strV x,iv p,.agg #[iv kind,iv slot,strV ty]] w λ e w'=>H3 n0 b mb cb nb v0 ss fs k ls lv nv names x w (Ck.loc env ls x p kind ty) e w':=by
 obtain⟨w0,av⟩:∃w0,w.alloc (.cells #[iv kind,iv slot,strV ty] 125)=w0:=⟨_,rfl⟩;have be:Below w.heap.size w w0:=by rw[<-av];exact (AF _ _).alloc (AD _) _
 have l0:w.heap.size<w0.heap.size:=by rw[<-av];simp
 have ay:w0.heap[w.heap.size]?=some (.cells #[iv kind,iv slot,strV ty] 125 (0,0)):=by rw[<-av];exact heap_new _ _
 obtain⟨w1,b4⟩:∃w1,w0.setCell ⟨w.heap.size,1,none⟩ (iv ls.length)=w1:=⟨_,rfl⟩;have ar:Below w.heap.size w w1:=by rw[<-b4];exact be.setCell (p:=⟨w.heap.size,1,none⟩) (AD _) _
 have aw:w1.heap[w.heap.size]?=some (.cells #[iv kind,iv ls.length,strV ty] 125 (0,0)):=by rw[<-b4];simp[World.setCell,Array.getElem?_modify,ay]
 have l1:w.heap.size<w1.heap.size:=(AB aw).1;have h1:=h.keep ar;have bt:cb<w.heap.size:=(AB hs.cbk).1;have ba:nb<w.heap.size:=(AB hs.nbk).1;have b7:Sc n0 b cb nb nv names w1:=hs.keep (λ j hj=>ar.block j (by rcases hj with rfl | rfl | h;exact bt;exact ba;exact (hs.own.lt h).2));have hN:=Lb h1.blk h1.env bj b7 h1.sz h1.hm bs x p ⟨kind,ls.length,ty⟩;obtain⟨-,-,-,-,-,c5,-⟩:=Bc ((be.block _ (by have:=h.hb;have:=h.sz;omega)).trans h.blk);obtain⟨d0,d1,d2,f0,f1,f2⟩:=Ar ay;obtain⟨e0,e1,e2,-⟩:=Ar aw;obtain⟨la,lc,rfl,-,-⟩:=h.loc.slice;have c1:b<w0.heap.size:=by have:=h.hb;have:=h.sz;omega
 have c2:(ls.length:Int)<=32:=by omega
 obtain⟨R,HR⟩:∃R,Hid (Ck.loc env ls x p kind ty=R):=⟨_,rfl⟩;rw[HR.out];have ai:Hid (R=Ck.bind (Ck.note env x p ⟨kind,ls.length,ty⟩) λ e=>Ck.bind (Ck.need (decide (ls.length<32)) p 36) λ _=>.inl (e,ls ++ [ty])):=HR.out.symm;generalize Ck.note env x p ⟨kind,ls.length,ty⟩=C at *;clear HR;go_enter func76,ntmps76;go_wp2_with fail;refine hN.mono ?_;rintro e w2 hP;clear hN;rcases C with env' | ⟨a,er⟩
 rotate_left
 .obtain⟨hm,bn⟩:=hP;obtain rfl:=hm;have a3:H3 n0 b mb cb nb v0 ss fs k ls (.slice la ls.length lc) nv names x w R (.panicked (Af a er)) w2:=by rw[ai.out];exact⟨rfl,BE (ar.trans (bn.mono (by omega)))⟩
  exact⟨rfl,a3⟩
 obtain⟨rfl,b0,⟨az,ag,aj⟩,ab⟩:=hP;have bv:=h.sz;have c4:=h.hb;have c0:=h.hm;have ad:∀j,nv.ownBlock=some j->n0<=j/\j<w.heap.size:=λ j hj=>hs.own.lt hj
 have aq:w2.heap[w.heap.size]?=some (.cells #[iv kind,iv ls.length,strV ty] 125 (0,0)):=(ab.block _ l1 (by rintro (e | e | e);omega;omega;have:=ad _ e;omega)).trans aw;have a5:=(ab.block b (by omega) (by rintro (e | e | e);exact h.bm e;have:=hs.nn;omega;have:=ad _ e;omega)).trans h1.blk;have ae:Strs n0 w2 (.slice la ls.length lc) ls:=h1.loc.since (λ j hj=>ab.block j (h1.loc.lt hj).2 (by rintro (e | e | e);have:=(h1.loc.lt hj).1;omega;exact ha.n (by rw[<-e];exact hj);exact ha.v j hj e));have af:O8 (Old n0 b mb) w2 k.heads fs:=h1.hds.since (ab.since (λ j hj=>by rintro (e | e | e);exact hj.2.2 e;have:=hs.nn;have:=hj.1;omega;have:=ad _ e;have:=hj.1;omega));have br:=ab.size;have h2:CkS n0 b mb v0 ss fs k env' ls (.slice la ls.length lc) w2:=⟨a5,af,b0,ae,h.hb,h.hm,h.bm,by omega⟩;have am:Fm (H0 b mb nb (.slice la ls.length lc) nv) w w2:=(Fm.of_below (X:=λ _=>False) ar).trans ab (λ _ _ h=>h.elim) (λ j _ h=>by rcases h with h | h | h;exact AJ (AI h);exact AJ (AJ (AI h));exact AJ (AJ (AJ (AJ h))));obtain⟨c3,c7,bi,-⟩:=Ar aq;have l2:w.heap.size<w2.heap.size:=(AB aq).1;clear c5 d0 d1 d2 f0 f1 f2 e0 e1 e2 av b4;by_cases hl32:ls.length<32
 rotate_left
 .have b3:¬(ls.length:Int)<32:=by omega
  have bq:decide ((ls.length:Int)<32)=false:=decide_eq_false b3;have a3:H3 n0 b mb cb nb v0 ss fs k ls (.slice la ls.length lc) nv names x w R (.panicked (Af p 36)) w2:=by rw[ai.out];show H3 _ _ _ _ _ _ _ _ _ _ _ _ _ _ _ (Ck.bind (Ck.need (decide (ls.length<32)) p 36) _) _ _;rw[decide_eq_false hl32];exact⟨rfl,am⟩
  have hN:=Ao p 36 w2;clear h1 h hs b7 ag ab b0 h2 a5 af ae ai;go_wp2_with fail;refine hN.mono ?_;rintro e w3 ⟨rfl,rfl⟩;exact⟨rfl,a3⟩
 have b3:(ls.length:Int)<32:=by omega
 have bq:decide ((ls.length:Int)<32)=true:=decide_eq_true b3;have bg:Hid (R=.inl (env',ls ++ [ty])):=by show _=_;rw[ai.out];show Ck.bind (Ck.need (decide (ls.length<32)) p 36) _=_;rw[decide_eq_true hl32];rfl
 have hN:=Av p 36 w2;go_wp2_with fail;refine hN.mono ?_;rintro e w3 ⟨rfl,bf⟩;obtain rfl:=bf.symm;clear hN bf ai;obtain⟨-,-,-,-,-,c5,-,-,-,-,-,bx⟩:=Bc a5;have b9:b<w2.heap.size:=by omega
 go_wp2_with fail
 have hS:∀w',Below w2.heap.size w2 w'->(w'.cell? ⟨b,5,none⟩=some (.slice la ls.length lc)/\w'.cell? ⟨w.heap.size,2,none⟩=some (strV ty)):=λ w' hb=>⟨((bcell hb).1 _ _ b9).trans c5,((bcell hb).1 _ _ l2).trans bi⟩
 refine Vv.wpE_begin (S:=λ w'=>w'.cell? ⟨b,5,none⟩=some (.slice la ls.length lc)/\w'.cell? ⟨w.heap.size,2,none⟩=some (strV ty)) (N:=λ j=>decide (j<11)) (by kernel_rfl) ?_;have aa:=hS w2.drew (AF _ _).drew;refine Aa 27 [11] 0 (pt b 0) aa ?_
 try simp only[aP]
 refine Aa 28 [11] 1 (pt b 0) aa ?_
 try simp only[aP]
 refine Aa 29 [11] 2 (pt b 0) aa ?_
 try simp only[aP]
 refine Aa 30 [11] 3 (pt b 5) aa ?_
 try simp only[aP]
 refine Aa 31 [11] 4 (.slice la ls.length lc) aa ?_
 try simp only[aP]
 refine Aa 32 [11] 5 (pt w.heap.size 2) aa ?_
 try simp only[aP]
 refine Aa 33 [11] 6 (strV ty) aa ?_
 try simp only[aP]
 obtain⟨w5,b5⟩:∃w5,w2.drew.alloc (.cells #[strV ty] 9)=w5:=⟨_,rfl⟩;have al:Below w2.heap.size w2 w5:=by
  rw[<-b5];have h9:Below w2.drew.heap.size w2.drew (w2.drew.alloc (.cells #[strV ty] 9)):=(AF _ _).alloc (AD _) _;exact⟨h9.os,h9.tape,h9.output,h9.size,h9.block⟩
 have a8:w5.heap[w2.heap.size]?=some (.cells #[strV ty] 9 (0,0)):=by rw[<-b5];exact heap_new w2.drew _
 have l5:w2.heap.size<w5.heap.size:=(AB a8).1;refine Ah 7 λ K hK=>?_
 go_simp;refine hK _ _ (λ _=>hS w5 al) ?_;clear hK K
 try simp only[aP]
 have h5:=h2.keep al;obtain⟨g6,c6,w6,bc,bb,ah,a6⟩:=h5.loc.push a8 h5.sz (by omega) 1 33;have a0:∀j,(Value.slice la ls.length lc).ownBlock=some j->n0<=j/\j<w.heap.size:=λ j hj=>h.loc.lt hj
 have au:w6.heap[b]?=some (.cells #[v0,ss,fs,.map (some mb),iv k.number,.slice la ls.length lc] 62 (0,0)):=(Dj ah (by omega) (λ e=>by have:=a0 _ e;omega)).trans h5.blk;have b6:w6.heap[w.heap.size]?=some (.cells #[iv kind,iv ls.length,strV ty] 125 (0,0)):=(Dj ah (by omega) (λ e=>by have:=a0 _ e;omega)).trans ((al.block _ l2).trans aq);obtain⟨-,-,-,-,-,ax,-,-,-,-,-,bw⟩:=Bc au;obtain⟨y0,y1,y2,-⟩:=Ar b6;refine Ah 8 λ K hK=>?_
 refine Cc _ _ 33 rfl _ _ rfl rfl _ _ bc ?_;refine hK _ _ (λ _=>⟨ax,y2⟩) ?_;clear hK K
 try simp only[aP]
 have bp:b<w6.heap.size:=(AB au).1;refine Ah 9 λ K hK=>?_
 go_simp;refine hK _ _ (λ _=>⟨ax,y2⟩) ?_;clear hK K
 try simp only[aP]
 refine Ah 10 λ K hK=>?_
 go_simp;refine hK _ _ (λ _=>⟨ax,y2⟩) ?_;clear hK K
 try simp only[aP]
 refine Ah 11 λ K hK=>?_
 go_simp;refine hK _ _ (λ h=>by cases h) ?_;clear hK K
 try simp only[aP]
 refine Vv.wpE_done (by kernel_rfl) ?_;obtain⟨w7,a9⟩:∃w7,w6.setCell ⟨b,5,none⟩ (sL g6 0 (ls.length+1) c6)=w7:=⟨_,rfl⟩;have b8:w7.heap[w.heap.size]?=some (.cells #[iv kind,iv ls.length,strV ty] 125 (0,0)):=by rw[<-a9,Below.heap_setCell _ _ _ _ (by show w.heap.size≠b;omega)];exact b6
 obtain⟨u0,u1,u2,-⟩:=Ar b8;have l7:w.heap.size<w7.heap.size:=(AB b8).1;have a3:H3 n0 b mb cb nb v0 ss fs k ls (.slice la ls.length lc) nv names x w R (.returned (iv ls.length)) w7:=by
  rw[bg.out];have bh:=ah.size;have a7:∀j,j<w5.heap.size->j≠b->(Value.slice la ls.length lc).ownBlock≠some j->w7.heap[j]?=w5.heap[j]?:=λ j h1 h2 h3=>by rw[<-a9,Below.heap_setCell _ _ _ _ (by show j≠b;exact h2)];exact Dj ah h1 h3
  have bl:n0<=g6:=by
   rcases a6 with e | e
   .exact (a0 _ e).1
   .omega
  have a4:∀j,az.ownBlock=some j->n0<=j/\j<w2.heap.size:=λ j hj=>ag.own.lt hj
  have ak:∀j,(Value.slice la ls.length lc).ownBlock=some j->az.ownBlock≠some j:=λ j hj e=>by
   rcases aj j e with e2 | e2
   .exact ha.v j hj e2
   .have:=a0 j hj;omega
  refine⟨sL g6 0 (ls.length+1) c6,az,rfl,⟨?_,?_,?_,?_,h.hb,h.hm,h.bm,?_⟩,?_,⟨?_,?_,?_⟩,?_,?_,?_⟩
  .rw[<-a9];simp[World.setCell,Array.getElem?_modify,au]
  .exact h5.hds.since ⟨by rw[<-a9];simpa [World.setCell] using bh,λ j hj hl=>a7 j hl hj.2.1 (λ e=>by have:=a0 _ e;have:=hj.1;omega)⟩
  .exact h5.env.since (a7 mb (by omega) (λ e=>h.bm e.symm) (λ e=>by have:=a0 _ e;omega))
  .refine bb.since (λ j hj=>?_);have:g6=j:=by simpa [Value.ownBlock] using hj
   rw[<-a9,Below.heap_setCell _ _ _ _ (by show j≠b;omega)]
  .have:w7.heap.size=w6.heap.size:=by rw[<-a9];simp[World.setCell]
   omega
  .refine ag.keep (λ j hj=>?_);have bu:j<w2.heap.size:=by
    rcases hj with rfl | rfl | e
    .omega
    .omega
    .exact (a4 j e).2
   have bo:j≠b:=by
    rcases hj with rfl | rfl | e
    .have:=ag.cn;omega
    .have:=ag.nn;omega
    .have:=(a4 j e).1;omega
   have bk:(Value.slice la ls.length lc).ownBlock≠some j:=by
    rcases hj with rfl | rfl | e
    .exact ha.c
    .exact ha.n
    .exact λ e2=>ak j e2 e
   exact (a7 j (by omega) bo bk).trans (al.block j bu)
  .intro e2;have e3:g6=cb:=by simpa [Value.ownBlock] using e2
   rcases a6 with e | e
   .exact ha.c (by rw[<-e3];exact e)
   .omega
  .intro e2;have e3:g6=nb:=by simpa [Value.ownBlock] using e2
   rcases a6 with e | e
   .exact ha.n (by rw[<-e3];exact e)
   .omega
  .intro j hj e2;have h8:g6=j:=by simpa [Value.ownBlock] using hj
   rcases a6 with e | e
   .exact ak j (by rw[<-h8];exact e) e2
   .have:=(a4 j e2).2;omega
  .have h8:Fm (H0 b mb nb (.slice la ls.length lc) nv) w w5:=am.trans (Fm.of_below (X:=λ _=>False) al) (λ _ _ h=>h) (λ _ _ h=>h.elim);have h9:Fm (H0 b mb nb (.slice la ls.length lc) nv) w w6:=h8.trans (Fm.grown (X:=λ j=>(Value.slice la ls.length lc).ownBlock=some j) ah (λ j h=>h)) (λ _ _ h=>h) (λ _ _ h=>AJ (AJ (AJ (AI h))));rw[<-a9];exact h9.trans (Fm.set (X:=λ j=>j=b) rfl 5 _) (λ _ _ h=>h) (λ _ _ h=>AI h)
  .intro j hj;have h8:g6=j:=by simpa [Value.ownBlock] using hj
   rcases a6 with e | e
   .exact AI (by rw[<-h8];exact e)
   .exact AJ (by omega)
  .intro j hj;rcases aj j hj with e | e
   .exact AI e
   .exact AJ (by omega)
 rw[a9];clear bb ah a6 bc h5 h2 h1 h hs b7 ag ab b0 a5 af ae bg au b6 b8 b5 a9 hS aa a8 aq aw ay ha;simp only[Exit.inBlock,Exit.then];refine ‹∀(a:Act) (w:World),_->_› _ _ ?_;go_wp2;go_ret;exact a3
theorem Ai{y6 y7 y8:Value}(h:w.heap[g]?=some (.cells #[y0,y1,y2,y3,y4,y5,y6,y7,y8] T (0,0))):w.cell? ⟨g,0,none⟩=some y0/\w.cell? ⟨g,1,none⟩=some y1/\w.cell? ⟨g,2,none⟩=some y2/\w.cell? ⟨g,3,none⟩=some y3/\w.cell? ⟨g,4,none⟩=some y4/\w.cell? ⟨g,5,none⟩=some y5/\w.cell? ⟨g,6,none⟩=some y6/\w.cell? ⟨g,7,none⟩=some y7/\w.cell? ⟨g,8,none⟩=some y8/\w.frozen? ⟨g,0,none⟩=false/\w.frozen? ⟨g,1,none⟩=false/\w.frozen? ⟨g,2,none⟩=false/\w.frozen? ⟨g,3,none⟩=false/\w.frozen? ⟨g,4,none⟩=false/\w.frozen? ⟨g,5,none⟩=false/\w.frozen? ⟨g,6,none⟩=false/\w.frozen? ⟨g,7,none⟩=false/\w.frozen? ⟨g,8,none⟩=false:=by
 refine⟨?_,?_,?_,?_,?_,?_,?_,?_,?_,?_,?_,?_,?_,?_,?_,?_,?_,?_⟩
 all_goals first | simp[World.cell?,h] | simp[World.frozen?,h]
abbrev A4(w:World)(g:Nat)(x0 x1 x2 x3 x4 x5 x6 x7 x8:Value):World:=(((((((((w.setCell ⟨g,0,none⟩ x0).setCell ⟨g,1,none⟩ x1).setCell ⟨g,2,none⟩ x2).setCell ⟨g,3,none⟩ x3).setCell ⟨g,4,none⟩ x4).setCell ⟨g,5,none⟩ x5).setCell ⟨g,6,none⟩ x6).setCell ⟨g,7,none⟩ x7).setCell ⟨g,8,none⟩ x8)
theorem Bb(w:World)(g:Nat)(x0 x1 x2 x3 x4 x5 x6 x7 x8:Value):(A4 w g x0 x1 x2 x3 x4 x5 x6 x7 x8).heap.size=w.heap.size:=by simp[A4,World.setCell]
theorem Aq{k:Nat}(hk:k≠g)(x0 x1 x2 x3 x4 x5 x6 x7 x8:Value):(A4 w g x0 x1 x2 x3 x4 x5 x6 x7 x8).heap[k]?=w.heap[k]?:=by
 unfold A4
 iterate 9 rw[Below.heap_setCell _ _ _ _ (by show k≠g;exact hk)]
theorem Bu{n:Nat}(h:Below n w w')(hg:n<=g)(x0 x1 x2 x3 x4 x5 x6 x7 x8:Value):Below n w (A4 w' g x0 x1 x2 x3 x4 x5 x6 x7 x8):=(((((((((h.setCell (p:=⟨g,0,none⟩) hg x0).setCell (p:=⟨g,1,none⟩) hg x1).setCell (p:=⟨g,2,none⟩) hg x2).setCell (p:=⟨g,3,none⟩) hg x3).setCell (p:=⟨g,4,none⟩) hg x4).setCell (p:=⟨g,5,none⟩) hg x5).setCell (p:=⟨g,6,none⟩) hg x6).setCell (p:=⟨g,7,none⟩) hg x7).setCell (p:=⟨g,8,none⟩) hg x8)
theorem Xt{y6 y7 y8:Value}(h:w.heap[g]?=some (.cells #[y0,y1,y2,y3,y4,y5,y6,y7,y8] T (0,0)))(x0 x1 x2 x3 x4 x5 x6 x7 x8:Value):(A4 w g x0 x1 x2 x3 x4 x5 x6 x7 x8).heap[g]?=some (.cells #[x0,x1,x2,x3,x4,x5,x6,x7,x8] T (0,0)):=by
 simp[A4,World.setCell,Array.getElem?_modify,h]
theorem G7(w:World)(x0 x1 x2 x3 x4 x5 x6 x7 x8:Value):∃wz w4,w.alloc (.cells #[iv 0,sE,iv 0,.bool false,iv 0,sZ,sZ,sZ,iv 0] 46)=wz/\A4 wz w.heap.size x0 x1 x2 x3 x4 x5 x6 x7 x8=w4/\Below w.heap.size w w4/\w4.heap.size=w.heap.size+1/\wz.heap.size=w.heap.size+1/\Below w.heap.size w wz/\w4.heap[w.heap.size]?=some (.cells #[x0,x1,x2,x3,x4,x5,x6,x7,x8] 46 (0,0))/\wz.heap[w.heap.size]?=some (.cells #[iv 0,sE,iv 0,.bool false,iv 0,sZ,sZ,sZ,iv 0] 46 (0,0)):=by
 have hb:Below w.heap.size w (w.alloc (.cells #[iv 0,sE,iv 0,.bool false,iv 0,sZ,sZ,sZ,iv 0] 46)):=(AF _ _).alloc (AD _) _;refine⟨_,_,rfl,rfl,Bu hb (AD _) _ _ _ _ _ _ _ _ _ ,by rw[Bb];simp,by simp,hb,Xt (heap_new _ _) _ _ _ _ _ _ _ _ _ ,heap_new _ _⟩
theorem Ak{o:Nat}(h:w'.heap[g]?=w.heap[g]?):w'.cell? ⟨g,o,none⟩=w.cell? ⟨g,o,none⟩:=by simp[World.cell?,h]
abbrev stA(k:Nat)(n:AQ)(s1 s2 s3:Value)(p:Nat):Array Value:=#[iv k,strV n,iv 0,.bool false,iv 0,s1,s2,s3,iv p]
theorem Dq(w:World)(k:Nat)(n:AQ)(s1 s2 s3:Value)(p:Nat):∃w0 w1,w.alloc (.cells (stA k n s1 s2 s3 p) 46)=w0/\w0.alloc (.cells #[iv 0,sE,iv 0,.bool false,iv 0,sZ,sZ,sZ,iv 0] 46)=w1/\w.heap.size<w0.heap.size/\w0.heap.size<w1.heap.size/\Below w.heap.size w w0/\Below w.heap.size w w1/\Below w0.heap.size w0 w1/\w1.heap[w.heap.size]?=some (.cells (stA k n s1 s2 s3 p) 46 (0,0))/\w1.heap[w0.heap.size]?=some (.cells #[iv 0,sE,iv 0,.bool false,iv 0,sZ,sZ,sZ,iv 0] 46 (0,0)):=by
 have a0:Below w.heap.size w (w.alloc (.cells (stA k n s1 s2 s3 p) 46)):=(AF _ _).alloc (AD _) _;have a6:(w.alloc (.cells (stA k n s1 s2 s3 p) 46)).heap.size=w.heap.size+1:=by simp
 have a4:(w.alloc (.cells (stA k n s1 s2 s3 p) 46)).heap[w.heap.size]?=some (.cells (stA k n s1 s2 s3 p) 46 (0,0)):=heap_new _ _;obtain⟨w0,a5⟩:∃w0,w.alloc (.cells (stA k n s1 s2 s3 p) 46)=w0:=⟨_,rfl⟩;rw[a5] at a0 a6 a4;obtain⟨w1,-,a7,-,-,-,a9,a3,-,a8⟩:=G7 w0 (iv 0) (iv 0) (iv 0) (iv 0) (iv 0) (iv 0) (iv 0) (iv 0) (iv 0);exact⟨w0,w1,a5,a7,by omega,by omega,a0,a0.trans (a3.mono (by omega)),a3,(a3.block _ (by omega)).trans a4,a8⟩
def Ax(w:World)(r:Ck.R CS)(e:Ending)(w':World):Prop:=
 match r with
 | .inl x=>(∃cs,e=.returned (.agg cs.toArray)/\Co (From w.heap.size) w' x cs)/\Below w.heap.size w w'
 | .inr (a,er)=>e=.panicked (Af a er)/\Below w.heap.size w w'
def Lc(w:World)(k:Nat)(r:Ck.R Mng)(e:Ending)(w':World):Prop:=
 match r with
 | .inl m=>e=.returned (.tuple #[.agg #[iv k,sE,iv m.slot,.bool (m.kind == 1),iv 0,sZ,sZ,sZ,iv 0],strV m.type])/\Below w.heap.size w w'
 | .inr (a,er)=>e=.panicked (Af a er)/\Below w.heap.size w w'
theorem G8{c:Ck.Cx}(h:CkAt w b mb c)(k:Nat)(t:AQ)(s1 s2 s3:Value)(p:Nat) :
  AA 169 #[pt b 0,.agg (stA k t s1 s2 s3 p)] w λ e w'=>Lc w k (Ck.targ c.env t p) e w':=by
 obtain⟨w0,w1,b5,b4,l0,l1,b0,au,bb,b8,b7⟩:=Dq w k t s1 s2 s3 p;have hc:=h.keep au;have hb:=h.lt;obtain⟨v0,ss,fs,ls,ab,-⟩:=hc.blk;have a6:=hc.env;obtain⟨c0,c1,c2,c3,c4,c5,-⟩:=Bc ab;obtain⟨d0,d1,d2,d3,d4,d5,d6,d7,d8,-⟩:=Ai b8;have aw:=λ w' (he:A7 w' mb c.env)=>E6 he t
 have ax:Ck.targ c.env t p=Ck.bind (Ck.need ((Ck.look c.env t).kind != 0) p 33) λ _=>Ck.bind (Ck.need ((Ck.look c.env t).kind == 3 || (Ck.look c.env t).kind == 1) p 37) λ _=>.inl (Ck.look c.env t):=rfl
 rw[ax];generalize Ck.look c.env t=m at *;obtain⟨mk,ms,mt⟩:=m;simp only at *;obtain⟨R,HR⟩:∃R,Hid ((Ck.bind (Ck.need (mk != 0) p 33) λ _=>Ck.bind (Ck.need (mk == 3 || mk == 1) p 37) λ _=>.inl (Mng.mk mk ms mt))=R):=⟨_,rfl⟩;rw[HR.out];clear ax hc ab h;go_enter func169,ntmps169;go_wp2_with fail;refine Vv.wpE_begin (S:=λ w'=>w'.cell? ⟨b,3,none⟩=some (.map (some mb))/\w'.cell? ⟨w.heap.size,1,none⟩=some (strV t)/\A7 w' mb c.env) (N:=λ _=>true) (by kernel_rfl) ?_;have a0:w1.drew.cell? ⟨b,3,none⟩=some (.map (some mb))/\w1.drew.cell? ⟨w.heap.size,1,none⟩=some (strV t)/\A7 w1.drew mb c.env:=⟨c3,d1,a6⟩;refine Aa 7 [] 0 (pt b 0) a0 ?_
 try simp only[aP]
 refine Aa 8 [] 1 (pt b 0) a0 ?_
 try simp only[aP]
 refine Aa 9 [] 2 (pt b 3) a0 ?_
 try simp only[aP]
 refine Aa 10 [] 3 (.map (some mb)) a0 ?_
 try simp only[aP]
 refine Aa 11 [] 4 (pt w.heap.size 1) a0 ?_
 try simp only[aP]
 refine Aa 12 [] 5 (strV t) a0 ?_
 try simp only[aP]
 refine Aa 13 [] 6 (G3 ⟨mk,ms,mt⟩) a0 ?_ (hy:=(λ w' hS=>by obtain⟨g0,g1,g2⟩:=hS;have hr:=aw w' g2;go_simp))
 try simp only[aP]
 obtain⟨wz,w3,b3,aq,a7,ar,av,ai,a4,a5⟩:=Tv w1.drew (iv mk) (iv ms) (strV mt);refine Ah 7 λ K hK=>?_
 go_simp;refine hK _ _ (λ _=>⟨((bcell ai).1 _ _ (show b<w1.heap.size by omega)).trans c3,((bcell ai).1 _ _ (show w.heap.size<w1.heap.size by omega)).trans d1,a6.since (ai.block _ a6.lt)⟩) ?_;clear hK K
 try simp only[aP]
 replace a5:wz.heap[w1.heap.size]?=some (.cells #[iv 0,iv 0,sE] 125 (0,0)):=a5;replace a4:w3.heap[w1.heap.size]?=some (.cells #[iv mk,iv ms,strV mt] 125 (0,0)):=a4;replace aq:((wz.setCell ⟨w1.heap.size,0,none⟩ (iv mk)).setCell ⟨w1.heap.size,1,none⟩ (iv ms)).setCell ⟨w1.heap.size,2,none⟩ (.string ⟨mt.toArray⟩)=w3:=aq;have ba:w1.heap.size<w3.heap.size:=by have e:w3.heap.size=w1.heap.size+1:=ar;omega
 have az:w1.heap.size<wz.heap.size:=by have e:wz.heap.size=w1.heap.size+1:=av;omega
 clear ar av;replace a7:Below w1.heap.size w1 w3:=⟨a7.os,a7.tape,a7.output,a7.size,a7.block⟩;obtain⟨z0,z1,z2,f0,f1,f2⟩:=Ar a5;have k3:=((bcell a7).1 b 3 (by omega)).trans c3;have kd:=((bcell a7).1 w.heap.size 1 (by omega)).trans d1;refine Ah 8 λ K hK=>?_
 go_simp;refine hK _ _ (λ _=>⟨k3,kd,a6.since (a7.block _ a6.lt)⟩) ?_;clear hK K
 try simp only[aP]
 refine Vv.wpE_done (by kernel_rfl) ?_;have k0:=((bcell a7).1 w.heap.size 0 (by omega)).trans d0;have k8:=((bcell a7).1 w.heap.size 8 (by omega)).trans d8;obtain⟨n0,n1,n2,-⟩:=Ar a4;have a8:Below w.heap.size w w3:=au.trans (a7.mono (by omega));have aj:=(a7.block _ (by omega)).trans b7;clear z0 z1 z2 f0 f1 f2 az b3 aq a0 aw c0 c1 c2 c3 c4 c5 d0 d1 d2 d3 d4 d5 d6 d7 d8 a6 b5 b4 a5 ai k3 kd;simp only[Exit.inBlock,Exit.then];refine ‹∀(a:Act) (w:World),_->_› _ _ ?_;by_cases h0:mk=0
 .have b0:((mk:Int) != 0)=false:=by simp[h0]
  have a3:Hid (Lc w k R (.panicked (Af p 33)) w3):=by rw[<-HR.out,h0];exact⟨rfl,a8⟩
  have hN:=Ao p 33 w3;clear h0;go_wp2_with fail;refine hN.mono ?_;rintro e w4 ⟨rfl,rfl⟩;exact⟨rfl,a3.out⟩
 have b6:((mk:Int) != 0)=true:=by simp;omega
 have a9:Hid (R=Ck.bind (Ck.need (mk == 3 || mk == 1) p 37) λ _=>.inl (Mng.mk mk ms mt)):=by show _=_;rw[<-HR.out];have:(mk != 0)=true:=(by simpa using h0);rw[this];rfl
 have hN:=Av p 33 w3;clear HR h0;go_wp2_with fail;refine hN.mono ?_;rintro e w4 ⟨rfl,aa⟩;obtain rfl:=aa.symm;clear hN b6;have ah:w0.heap.size<w3.heap.size:=by omega
 by_cases h3:mk=3
 .have b9:((mk:Int) == 3)=true:=by simp[h3]
  have ay:((mk:Int) == 1)=false:=by simp[h3]
  have ad:Hid (R=.inl (Mng.mk mk ms mt)):=by show _=_;rw[a9.out,h3];rfl
  have af:Hid ((mk == 1)=false):=by show _=_;rw[h3];rfl
  have hN:=Av p 37 w3;clear a9 h3;go_wp2_with fail;refine hN.mono ?_;rintro e w4 ⟨rfl,aa⟩;obtain rfl:=aa.symm;clear hN;go_wp2_with fail;refine Vv.wpE_begin (S:=λ w'=>w'.cell? ⟨w.heap.size,0,none⟩=some (iv k)/\w'.cell? ⟨w1.heap.size,0,none⟩=some (iv mk)/\w'.cell? ⟨w1.heap.size,1,none⟩=some (iv ms)/\w'.cell? ⟨w1.heap.size,2,none⟩=some (strV mt)) (N:=λ j=>decide (j<11)) (by kernel_rfl) ?_;have a0:w3.drew.cell? ⟨w.heap.size,0,none⟩=some (iv k)/\w3.drew.cell? ⟨w1.heap.size,0,none⟩=some (iv mk)/\w3.drew.cell? ⟨w1.heap.size,1,none⟩=some (iv ms)/\w3.drew.cell? ⟨w1.heap.size,2,none⟩=some (strV mt):=⟨k0,n0,n1,n2⟩;have ae:w3.drew.heap[w0.heap.size]?=some (.cells #[iv 0,sE,iv 0,.bool false,iv 0,sZ,sZ,sZ,iv 0] 46 (0,0)):=aj;have al:Below w.heap.size w w3.drew:=a8.drew;have ak:w0.heap.size<w3.drew.heap.size:=ah;generalize w3.drew=wd at *;clear k0 n0 n1 n2 aj a8 ah k8;have am:=a0;obtain⟨k0,n0,n1,n2⟩:=am;refine Aa 31 [11] 0 (pt w.heap.size 0) a0 ?_
  try simp only[aP]
  refine Aa 32 [11] 1 (iv k) a0 ?_
  try simp only[aP]
  refine Aa 33 [11] 2 (pt w1.heap.size 1) a0 ?_
  try simp only[aP]
  refine Aa 34 [11] 3 (iv ms) a0 ?_
  try simp only[aP]
  refine Aa 35 [11] 4 (pt w1.heap.size 0) a0 ?_
  try simp only[aP]
  refine Aa 36 [11] 5 (iv mk) a0 ?_
  try simp only[aP]
  refine Aa 37 [11] 6 (.bool false) a0 ?_
  try simp only[aP]
  refine Aa 38 [11] 7 (.agg #[iv k,sE,iv ms,.bool false,iv 0,sZ,sZ,sZ,iv 0]) a0 ?_
  try simp only[aP]
  refine Aa 39 [11] 8 (pt w1.heap.size 2) a0 ?_
  try simp only[aP]
  refine Aa 40 [11] 9 (strV mt) a0 ?_
  try simp only[aP]
  obtain⟨r0,r1,r2,r3,r4,r5,r6,r7,r8,t0,t1,t2,t3,t4,t5,t6,t7,t8⟩:=Ai ae;have ag:(A4 wd w0.heap.size (iv k) sE (iv ms) (.bool false) (iv 0) sZ sZ sZ (iv 0)).cell? ⟨w.heap.size,0,none⟩=some (iv k)/\(A4 wd w0.heap.size (iv k) sE (iv ms) (.bool false) (iv 0) sZ sZ sZ (iv 0)).cell? ⟨w1.heap.size,0,none⟩=some (iv mk)/\(A4 wd w0.heap.size (iv k) sE (iv ms) (.bool false) (iv 0) sZ sZ sZ (iv 0)).cell? ⟨w1.heap.size,1,none⟩=some (iv ms)/\(A4 wd w0.heap.size (iv k) sE (iv ms) (.bool false) (iv 0) sZ sZ sZ (iv 0)).cell? ⟨w1.heap.size,2,none⟩=some (strV mt):=by
   refine⟨?_,?_,?_,?_⟩
   .exact (Ak (w:=wd) (Aq (by omega) _ _ _ _ _ _ _ _ _ )).trans k0
   .exact (Ak (w:=wd) (Aq (by omega) _ _ _ _ _ _ _ _ _ )).trans n0
   .exact (Ak (w:=wd) (Aq (by omega) _ _ _ _ _ _ _ _ _ )).trans n1
   .exact (Ak (w:=wd) (Aq (by omega) _ _ _ _ _ _ _ _ _ )).trans n2
  refine Ah 10 λ K hK=>?_
  go_simp;refine hK _ _ (λ _=>ag) ?_;clear hK K
  try simp only[aP]
  refine Ah 11 λ K hK=>?_
  go_simp;refine hK _ _ (λ h=>by cases h) ?_;clear hK K
  try simp only[aP]
  refine Vv.wpE_done (by kernel_rfl) ?_;have a3:Lc w k R (.returned (.tuple #[.agg #[iv k,sE,iv ms,.bool false,iv 0,sZ,sZ,sZ,iv 0],strV mt])) (A4 wd w0.heap.size (iv k) sE (iv ms) (.bool false) (iv 0) sZ sZ sZ (iv 0)):=by
   rw[ad.out];show _=Ending.returned (.tuple #[.agg #[iv k,sE,iv ms,.bool (mk == 1),iv 0,sZ,sZ,sZ,iv 0],strV mt])/\_;rw[af.out];exact⟨rfl,Bu al (by omega) _ _ _ _ _ _ _ _ _ ⟩
  clear ad af a0 ag ae a4;simp only[Exit.inBlock,Exit.then];refine ‹∀(a:Act) (w:World),_->_› _ _ ?_;go_wp2_with fail;exact bodyPost_ret (by simp[results,results169,go_sem,ak,r0,r1,r2,r3,r4,r5,r6,r7,r8]) rfl a3
 have b9:((mk:Int) == 3)=false:=by simp;omega
 by_cases h1:mk=1
 .have ay:((mk:Int) == 1)=true:=by simp[h1]
  have ad:Hid (R=.inl (Mng.mk mk ms mt)):=by show _=_;rw[a9.out,h1];rfl
  have af:Hid ((mk == 1)=true):=by show _=_;rw[h1];rfl
  have hN:=Av p 37 w3;clear a9 h3 h1;go_wp2_with fail;refine hN.mono ?_;rintro e w4 ⟨rfl,aa⟩;obtain rfl:=aa.symm;clear hN;go_wp2_with fail;refine Vv.wpE_begin (S:=λ w'=>w'.cell? ⟨w.heap.size,0,none⟩=some (iv k)/\w'.cell? ⟨w1.heap.size,0,none⟩=some (iv mk)/\w'.cell? ⟨w1.heap.size,1,none⟩=some (iv ms)/\w'.cell? ⟨w1.heap.size,2,none⟩=some (strV mt)) (N:=λ j=>decide (j<11)) (by kernel_rfl) ?_;have a0:w3.drew.cell? ⟨w.heap.size,0,none⟩=some (iv k)/\w3.drew.cell? ⟨w1.heap.size,0,none⟩=some (iv mk)/\w3.drew.cell? ⟨w1.heap.size,1,none⟩=some (iv ms)/\w3.drew.cell? ⟨w1.heap.size,2,none⟩=some (strV mt):=⟨k0,n0,n1,n2⟩;have ae:w3.drew.heap[w0.heap.size]?=some (.cells #[iv 0,sE,iv 0,.bool false,iv 0,sZ,sZ,sZ,iv 0] 46 (0,0)):=aj;have al:Below w.heap.size w w3.drew:=a8.drew;have ak:w0.heap.size<w3.drew.heap.size:=ah;generalize w3.drew=wd at *;clear k0 n0 n1 n2 aj a8 ah k8;have am:=a0;obtain⟨k0,n0,n1,n2⟩:=am;refine Aa 31 [11] 0 (pt w.heap.size 0) a0 ?_
  try simp only[aP]
  refine Aa 32 [11] 1 (iv k) a0 ?_
  try simp only[aP]
  refine Aa 33 [11] 2 (pt w1.heap.size 1) a0 ?_
  try simp only[aP]
  refine Aa 34 [11] 3 (iv ms) a0 ?_
  try simp only[aP]
  refine Aa 35 [11] 4 (pt w1.heap.size 0) a0 ?_
  try simp only[aP]
  refine Aa 36 [11] 5 (iv mk) a0 ?_
  try simp only[aP]
  refine Aa 37 [11] 6 (.bool true) a0 ?_
  try simp only[aP]
  refine Aa 38 [11] 7 (.agg #[iv k,sE,iv ms,.bool true,iv 0,sZ,sZ,sZ,iv 0]) a0 ?_
  try simp only[aP]
  refine Aa 39 [11] 8 (pt w1.heap.size 2) a0 ?_
  try simp only[aP]
  refine Aa 40 [11] 9 (strV mt) a0 ?_
  try simp only[aP]
  obtain⟨r0,r1,r2,r3,r4,r5,r6,r7,r8,t0,t1,t2,t3,t4,t5,t6,t7,t8⟩:=Ai ae;have ag:(A4 wd w0.heap.size (iv k) sE (iv ms) (.bool true) (iv 0) sZ sZ sZ (iv 0)).cell? ⟨w.heap.size,0,none⟩=some (iv k)/\(A4 wd w0.heap.size (iv k) sE (iv ms) (.bool true) (iv 0) sZ sZ sZ (iv 0)).cell? ⟨w1.heap.size,0,none⟩=some (iv mk)/\(A4 wd w0.heap.size (iv k) sE (iv ms) (.bool true) (iv 0) sZ sZ sZ (iv 0)).cell? ⟨w1.heap.size,1,none⟩=some (iv ms)/\(A4 wd w0.heap.size (iv k) sE (iv ms) (.bool true) (iv 0) sZ sZ sZ (iv 0)).cell? ⟨w1.heap.size,2,none⟩=some (strV mt):=by
   refine⟨?_,?_,?_,?_⟩
   .exact (Ak (w:=wd) (Aq (by omega) _ _ _ _ _ _ _ _ _ )).trans k0
   .exact (Ak (w:=wd) (Aq (by omega) _ _ _ _ _ _ _ _ _ )).trans n0
   .exact (Ak (w:=wd) (Aq (by omega) _ _ _ _ _ _ _ _ _ )).trans n1
   .exact (Ak (w:=wd) (Aq (by omega) _ _ _ _ _ _ _ _ _ )).trans n2
  refine Ah 10 λ K hK=>?_
  go_simp;refine hK _ _ (λ _=>ag) ?_;clear hK K
  try simp only[aP]
  refine Ah 11 λ K hK=>?_
  go_simp;refine hK _ _ (λ h=>by cases h) ?_;clear hK K
  try simp only[aP]
  refine Vv.wpE_done (by kernel_rfl) ?_;have a3:Lc w k R (.returned (.tuple #[.agg #[iv k,sE,iv ms,.bool true,iv 0,sZ,sZ,sZ,iv 0],strV mt])) (A4 wd w0.heap.size (iv k) sE (iv ms) (.bool true) (iv 0) sZ sZ sZ (iv 0)):=by
   rw[ad.out];show _=Ending.returned (.tuple #[.agg #[iv k,sE,iv ms,.bool (mk == 1),iv 0,sZ,sZ,sZ,iv 0],strV mt])/\_;rw[af.out];exact⟨rfl,Bu al (by omega) _ _ _ _ _ _ _ _ _ ⟩
  clear ad af a0 ag ae a4;simp only[Exit.inBlock,Exit.then];refine ‹∀(a:Act) (w:World),_->_› _ _ ?_;go_wp2_with fail;exact bodyPost_ret (by simp[results,results169,go_sem,ak,r0,r1,r2,r3,r4,r5,r6,r7,r8]) rfl a3
 have ay:((mk:Int) == 1)=false:=by simp;omega
 have a3:Hid (Lc w k R (.panicked (Af p 37)) w3):=by
  rw[a9.out];have:(mk == 3 || mk == 1)=false:=by simp;exact⟨h3,h1⟩
  rw[this];exact⟨rfl,a8⟩
 have hN:=Ao p 37 w3;clear h3 h1 a9;go_wp2_with fail;refine hN.mono ?_;rintro e w4 ⟨rfl,rfl⟩;exact⟨rfl,a3.out⟩
theorem SlRow.nil9{B:AS}:SlRow B w 9 sZ 0 []:=⟨rfl,AI ⟨rfl,rfl⟩⟩
abbrev BF:=@SlRow.nil9
theorem Au.nil{B:AS}:Au B w [] []:=by rw[Au]
theorem Fv{B:AS}{k s n:Nat}{f:Bool}{es:List CE}{b c:List CS}{s2 s3:Value}{r1 r2 r3:AR}(h1:SlRow B w 8 s1 es.length r1)(h2:Aw B w es r1)(h3:SlRow B w 9 s2 b.length r2)(h4:Au B w b r2)(h5:SlRow B w 9 s3 c.length r3)(h6:Au B w c r3):Co B w (.mk k s f n es b c) [iv k,sE,iv s,.bool f,iv n,s1,s2,s3,iv 0]:=by
 rw[Co];exact⟨s1,s2,s3,r1,r2,r3,rfl,h1,h2,h3,h4,h5,h6⟩
theorem Ld{env:Ck.Env}{m:Mng}(h:∀y∈env,y.2.type.length<=1000)(e:Ck.targ env x p=.inl m):m.type.length<=1000:=by
 obtain⟨_,-,e⟩:=An e;obtain⟨_,-,e⟩:=An e;cases e;exact K6 env x h
theorem Ak2{x:Px.Ex}(hE:EOk x){n:AQ}{c:Ck.Cx}{B:AS}{row:AR}(hc:CkAt w b mb c)(b9:CxOk c)(hr:SlRow B w 8 s1 1 row)(ha:Aj B w [x] row)(b2 b3:Option Addr)(m2 m3 d2 d3:Nat) :
  AA 142 #[pt b 0,.agg (stA 3 n s1 (.slice b2 m2 d2) (.slice b3 m3 d3) p)] w λ e w'=>Ax w (Ck.bind (Ck.targ c.env n p) λ m=>Ck.bind (Ck.need (Vv.mpT m.type).2.2 p 35) λ _=>Ck.bind (Ck.asked (Ck.cE c x,Ck.plc x) (Vv.mpT m.type).1) λ x=>.inl (CS.mk 3 m.slot (m.kind == 1) 0 [x] [] [])) e w':=by
 obtain⟨k,Hk⟩:∃k:Nat,Hid (3=k):=⟨_,rfl⟩;rw[Hk.out];obtain⟨w0,w1,c4,c0,l0,l1,ce,a8,cm,bh,c7⟩:=Dq w k n s1 (.slice b2 m2 d2) (.slice b3 m3 d3) p;have b8:=hr.since (Since.of_below a8);have b6:=ha.since (Since.of_below a8);have b5:=hc.keep a8;have hT:=G8 b5 k n s1 (.slice b2 m2 d2) (.slice b3 m3 d3) p;obtain⟨g,og,cap,ka,oa,na,ta,aa,pa,cf,bt,rfl,bl,hg,rfl,⟨u0,u1,u2,u3,u4,u5,u6,u7⟩,ar,bb⟩:=Bd (args:=[x]) b8 b6 rfl;have hA:=λ w' (hb:Below w1.heap.size w1 w') ty=>B4 hE rfl (b5.keep hb) b9 (ar.since (Since.of_below hb)) (bb.since (Since.of_below hb)) ty
 obtain⟨cd,bk,rfl,-,-⟩:=ar.val;obtain⟨d0,d1,c1,bs,d4,d5,d6,d7,d8,-⟩:=Ai bh;have a9:∀m,Ck.targ c.env n p=.inl m->m.type.length<=1000:=λ m=>Ld b9.env
 obtain⟨R,HR⟩:∃R:Ck.R CS,Hid ((Ck.bind (Ck.targ c.env n p) λ m=>Ck.bind (Ck.need (Vv.mpT m.type).2.2 p 35) λ _=>Ck.bind (Ck.asked (Ck.cE c (.mk ka oa na ta aa pa),pa) (Vv.mpT m.type).1) λ x=>.inl (CS.mk k m.slot (m.kind == 1) 0 [x] [] []))=R):=⟨_,rfl⟩;show Calls _ _ _ _ λ e w'=>Ax w (Ck.bind (Ck.targ c.env n p) λ m=>Ck.bind (Ck.need (Vv.mpT m.type).2.2 p 35) λ _=>Ck.bind (Ck.asked (Ck.cE c (.mk ka oa na ta aa pa),pa) (Vv.mpT m.type).1) λ x=>.inl (CS.mk k m.slot (m.kind == 1) 0 [x] [] [])) e w'
 rw[HR.out];have ax:=HR;clear HR Hk;generalize Ck.targ c.env n p=C at *;generalize Ck.cE c (.mk ka oa na ta aa pa)=C2 at *;have i0:(0:Int)<1:=by omega
 have cg:([Px.Ex.mk ka oa na ta aa pa]:List Px.Ex).length=1:=rfl;clear hc hr ha hE b8 b6 b5 ar bb bh;simp only[length_cons,length_nil,Nat.zero_add] at *;go_enter func142,ntmps142;go_wp2_with fail;refine hT.mono ?_;rintro e w2 hP;clear hT c4 c0;rcases C with⟨mk,ms,mt⟩ | ⟨a,er⟩
 rotate_left
 .obtain⟨hm,ah⟩:=hP;obtain rfl:=hm;have a0:Ax w R (.panicked (Af a er)) w2:=by rw[<-ax.out];exact⟨rfl,a8.trans (ah.mono (by omega))⟩
  exact⟨rfl,a0⟩
 obtain⟨rfl,ah⟩:=hP;have c5:mt.length<=1000:=a9 _ rfl;have b7:=ah.size;obtain⟨wz,w3,bw,c6,bx,bj,bn,cc,a6,ad⟩:=G7 w2 (iv k) sE (iv ms) (.bool (mk == 1)) (iv 0) sZ sZ sZ (iv 0);have lz:w2.heap.size<wz.heap.size:=by omega
 have l3:w2.heap.size<w3.heap.size:=by omega
 clear bj bn;obtain⟨z0,z1,z2,z3,z4,z5,z6,z7,z8,f0,f1,f2,f3,f4,f5,f6,f7,f8⟩:=Ai ad;have a7:Below w1.heap.size w1 w3:=ah.trans (bx.mono b7);have hM:=Vv.map_any mt (by omega) w3;have a5:Hid (R=Ck.bind (Ck.need (Vv.mpT mt).2.2 p 35) λ _=>Ck.bind (Ck.asked (C2,pa) (Vv.mpT mt).1) λ x=>.inl (CS.mk k ms (mk == 1) 0 [x] [] [])):=ax.out.symm;generalize Vv.mpT mt=mp at *;obtain⟨av,ci,c8⟩:=mp;simp only at a5 hM;clear ax a9 c5;go_wp2_with fail;refine hM.mono ?_;rintro e w4 ⟨rfl,al⟩;clear hM bw c6 z0 z1 z2 z3 z4 z5 z6 z7 z8 f0 f1 f2 f3 f4 f5 f6 f7 f8;have a3:Below w1.heap.size w1 w4:=a7.trans (al.mono a7.size);have bu:=a7.size;have ch:=al.size;obtain⟨bc,-⟩:=bcell a3;have bo:=(bc w.heap.size 8 (by omega)).trans d8;have aw:Below w.heap.size w w4:=a8.trans (a3.mono (by omega));cases c8
 .have a0:Hid (Ax w R (.panicked (Af p 35)) w4):=by rw[a5.out];exact⟨rfl,aw⟩
  have hN:=Ao p 35 w4;clear a5;go_wp2_with fail;refine hN.mono ?_;rintro e w7 ⟨rfl,rfl⟩;exact⟨rfl,a0.out⟩
 have hN:=Av p 35 w4;replace a5:Hid (R=Ck.bind (Ck.asked (C2,pa) av) λ x=>.inl (CS.mk k ms (mk == 1) 0 [x] [] [])):=a5.out;have c3:=(bc w.heap.size 5 (by omega)).trans d5;have q0:=(bc g og hg).trans u0;have q1:=(bc g (og+1) hg).trans u1;have q2:=(bc g (og+2) hg).trans u2;have q3:=(bc g (og+3) hg).trans u3;have q4:=(bc g (og+4) hg).trans u4;have q5:=(bc g (og+5) hg).trans u5;have q6:=(bc g (og+6) hg).trans u6;have q7:=(bc g (og+7) hg).trans u7;have cj:g<w4.heap.size:=by have:=a3.size;omega
 have bf:=hA w4 a3 av;clear d0 d1 c1 bs d4 d5 d6 d7 d8 u0 u1 u2 u3 u4 u5 u6 u7 hA bc;generalize Ck.asked (C2,pa) av=D at *;go_wp2_with fail;refine hN.mono ?_;rintro e w7 ⟨rfl,c9⟩;obtain rfl:=c9.symm;clear hN;go_wp2_with fail;refine bf.mono ?_;rintro e w5 hP;clear bf q0 q1 q2 q3 q4 q5 q6 q7 c3 bo;rcases D with⟨k2,o2,n2,t2,s2,y2,a4⟩ | ⟨a,er⟩
 rotate_left
 .obtain⟨hm,ak⟩:=hP;obtain rfl:=hm;have a0:Ax w R (.panicked (Af a er)) w5:=by rw[a5.out];exact⟨rfl,aw.trans (ak.mono aw.size)⟩
  exact⟨rfl,a0⟩
 obtain⟨sl2,row2,rfl,aq,bi,ak⟩:=hP.inl;obtain⟨a2,c2,rfl,-,-⟩:=aq.val;have bq:=ak.size;clear hP;obtain⟨w8,be⟩:∃w8,w5.alloc (.cells #[iv k2,iv o2,iv n2,strV t2,iv s2,strV y2,.slice a2 a4.length c2,iv 0] 48)=w8:=⟨_,rfl⟩;have au:Below w5.heap.size w5 w8:=by rw[<-be];exact (AF _ _).alloc (AD _) _
 have af:Below w4.heap.size w4 w8:=ak.trans (au.mono bq);have b0:Below w3.heap.size w3 w8:=al.trans (af.mono al.size);have aj:=(b0.block _ l3).trans a6;obtain⟨z0,z1,z2,z3,z4,z5,z6,z7,z8,f0,f1,f2,f3,f4,f5,f6,f7,f8⟩:=Ai aj;have l8:w2.heap.size<w8.heap.size:=(AB aj).1;obtain⟨w9,ai⟩:∃w9,w8.setCell ⟨w2.heap.size,5,none⟩ (sL w5.heap.size 0 1 1)=w9:=⟨_,rfl⟩;have az:w9.heap[w2.heap.size]?=some (.cells #[iv k,sE,iv ms,.bool (mk == 1),iv 0,sL w5.heap.size 0 1 1,sZ,sZ,iv 0] 46 (0,0)):=by rw[<-ai];simp[World.setCell,Array.getElem?_modify,aj]
 have am:Below w1.heap.size w1 w8:=a3.trans (af.mono a3.size);have ae:Below w1.heap.size w1 w9:=by rw[<-ai];exact am.setCell (p:=⟨w2.heap.size,5,none⟩) b7 _
 have b4:=(ae.block _ l1).trans c7;obtain⟨y0,y1,cl,y3,y4,y5,y6,y7,y8,-⟩:=Ai az;obtain⟨r0,r1,r2,r3,r4,r5,r6,r7,r8,t0,t1,ca,t3,t4,t5,t6,t7,t8⟩:=Ai b4;have l9:w2.heap.size<w9.heap.size:=(AB az).1;have bp:w0.heap.size<w9.heap.size:=(AB b4).1;have ag:Hid (w9.heap.size=w8.heap.size):=by show _=_;rw[<-ai];simp[World.setCell]
 have a0:Ax w R (.returned (.agg #[iv k,sE,iv ms,.bool (mk == 1),iv 0,sL w5.heap.size 0 1 1,sZ,sZ,iv 0])) (A4 w9 w0.heap.size (iv k) sE (iv ms) (.bool (mk == 1)) (iv 0) (sL w5.heap.size 0 1 1) sZ sZ (iv 0)):=by
  rw[a5.out];have bv:=ag.out;have ba:∀{n:Nat} {wx:World},w2.heap.size<n->wx.heap.size<=w8.heap.size->(∀j,n<=j->j<wx.heap.size->w8.heap[j]?=wx.heap[j]?)->Since (From n) wx (A4 w9 w0.heap.size (iv k) sE (iv ms) (.bool (mk == 1)) (iv 0) (sL w5.heap.size 0 1 1) sZ sZ (iv 0)):=λ {n wx} hn h1 h2=>⟨by rw[Bb,bv];exact h1,λ j h3 h4=>by
   have h5:n<=j:=h3;rw[Aq (by omega),<-ai,Below.heap_setCell _ _ _ _ (by show j≠w2.heap.size;omega)];exact h2 j h3 h4⟩
  have ay:∀{n:Nat} {wx:World},w.heap.size<=n->∀j,From n j->j<wx.heap.size->From w.heap.size j:=λ {n wx} hn j hj _=>AP hn hj
  have bg:=ba (n:=w4.heap.size) (wx:=w5) (by omega) au.size (λ j _ hj=>au.block j hj);have ab:SlRow (From w5.heap.size) w8 8 (sL w5.heap.size 0 1 1) 1 [iv k2,iv o2,iv n2,strV t2,iv s2,strV y2,.slice a2 a4.length c2,iv 0]:=by rw[<-be];exact D7 (AD _)
  have br:=ba (n:=w5.heap.size) (wx:=w8) (by omega) (AD _) (λ j _ hj=>rfl);exact⟨⟨_,rfl,Fv ((ab.since br).base' (ay (by omega))) (Jk (C1 ((aq.since bg).base' (ay (by omega))) ((bi.since bg).base (ay (by omega))))) BF Au.nil BF Au.nil⟩,Bu (a8.trans (ae.mono (by omega))) (by omega) _ _ _ _ _ _ _ _ _ ⟩
 clear a5 aq bi b4 az aj a6 ag;go_wp2_with fail;exact bodyPost_ret (by simp[results,results142,go_sem,bp,r0,r1,r2,r3,r4,r5,r6,r7,r8]) rfl a0
theorem Ak3{x:Px.Ex}(hE:EOk x){n:AQ}{c:Ck.Cx}{B:AS}{row:AR}(hc:CkAt w b mb c)(b4:CxOk c)(hr:SlRow B w 8 s1 1 row)(ha:Aj B w [x] row)(b2 b3:Option Addr)(m2 m3 d2 d3:Nat) :
  AA 141 #[pt b 0,.agg (stA 2 n s1 (.slice b2 m2 d2) (.slice b3 m3 d3) p)] w λ e w'=>Ax w (Ck.bind (Ck.targ c.env n p) λ m=>Ck.bind (Ck.asked (Ck.cE c x,Ck.plc x) m.type) λ x=>.inl (CS.mk 2 m.slot (m.kind == 1) 0 [x] [] [])) e w':=by
 obtain⟨k,Hk⟩:∃k:Nat,Hid (2=k):=⟨_,rfl⟩;rw[Hk.out];obtain⟨w0,w1,bx,bu,l0,l1,c7,a6,cd,bb,c3⟩:=Dq w k n s1 (.slice b2 m2 d2) (.slice b3 m3 d3) p;have b0:=hr.since (Since.of_below a6);have ay:=ha.since (Since.of_below a6);have ax:=hc.keep a6;have hT:=G8 ax k n s1 (.slice b2 m2 d2) (.slice b3 m3 d3) p;obtain⟨g,og,cap,ka,oa,na,ta,aa,pa,c8,bp,rfl,bh,hg,rfl,⟨u0,u1,u2,u3,u4,u5,u6,u7⟩,al,b7⟩:=Bd (args:=[x]) b0 ay rfl;have hA:=λ w' (hb:Below w1.heap.size w1 w') ty=>B4 hE rfl (ax.keep hb) b4 (al.since (Since.of_below hb)) (b7.since (Since.of_below hb)) ty
 obtain⟨c6,bg,rfl,-,-⟩:=al.val;obtain⟨d0,d1,bv,bo,d4,d5,d6,d7,d8,-⟩:=Ai bb;have a7:∀m,Ck.targ c.env n p=.inl m->m.type.length<=1000:=λ m=>Ld b4.env
 obtain⟨R,HR⟩:∃R:Ck.R CS,Hid ((Ck.bind (Ck.targ c.env n p) λ m=>Ck.bind (Ck.asked (Ck.cE c (.mk ka oa na ta aa pa),pa) m.type) λ x=>.inl (CS.mk k m.slot (m.kind == 1) 0 [x] [] []))=R):=⟨_,rfl⟩;show Calls _ _ _ _ λ e w'=>Ax w (Ck.bind (Ck.targ c.env n p) λ m=>Ck.bind (Ck.asked (Ck.cE c (.mk ka oa na ta aa pa),pa) m.type) λ x=>.inl (CS.mk k m.slot (m.kind == 1) 0 [x] [] [])) e w'
 rw[HR.out];have aq:=HR;clear HR Hk;generalize Ck.targ c.env n p=C at *;generalize Ck.cE c (.mk ka oa na ta aa pa)=C2 at *;have i0:(0:Int)<1:=by omega
 have i1:((1:Int) == 1)=true:=rfl;have c9:([Px.Ex.mk ka oa na ta aa pa]:List Px.Ex).length=1:=rfl;clear hc hr ha hE b0 ay ax al b7 bb;simp only[length_cons,length_nil,Nat.zero_add] at *;go_enter func141,ntmps141;go_wp2_with fail;refine hT.mono ?_;rintro e w2 hP;clear hT bx bu;rcases C with⟨mk,ms,mt⟩ | ⟨a,er⟩
 rotate_left
 .obtain⟨hm,af⟩:=hP;obtain rfl:=hm;have a0:Ax w R (.panicked (Af a er)) w2:=by rw[<-aq.out];exact⟨rfl,a6.trans (af.mono (by omega))⟩
  exact⟨rfl,a0⟩
 obtain⟨rfl,af⟩:=hP;have c0:mt.length<=1000:=a7 _ rfl;have az:=af.size;obtain⟨wz,w3,bs,c1,bt,bf,bj,c5,a5,a9⟩:=G7 w2 (iv k) sE (iv ms) (.bool (mk == 1)) (iv 0) sZ sZ sZ (iv 0);have lz:w2.heap.size<wz.heap.size:=by omega
 have l3:w2.heap.size<w3.heap.size:=by omega
 clear bf bj;obtain⟨z0,z1,z2,z3,z4,z5,z6,z7,z8,f0,f1,f2,f3,f4,f5,f6,f7,f8⟩:=Ai a9;have a3:Below w1.heap.size w1 w3:=af.trans (bt.mono az);have au:Hid (R=Ck.bind (Ck.asked (C2,pa) mt) λ x=>.inl (CS.mk k ms (mk == 1) 0 [x] [] [])):=aq.out.symm;clear aq a7 c0;have bi:Below w3.heap.size w3 w3:=AF _ _;have b5:Below w.heap.size w w3:=a6.trans (a3.mono (by omega));have bq:=a3.size;obtain⟨bc,-⟩:=bcell a3;have bw:=(bc w.heap.size 5 (by omega)).trans d5;have q0:=(bc g og hg).trans u0;have q1:=(bc g (og+1) hg).trans u1;have q2:=(bc g (og+2) hg).trans u2;have q3:=(bc g (og+3) hg).trans u3;have q4:=(bc g (og+4) hg).trans u4;have q5:=(bc g (og+5) hg).trans u5;have q6:=(bc g (og+6) hg).trans u6;have q7:=(bc g (og+7) hg).trans u7;have ca:g<w3.heap.size:=by omega
 have b9:=hA w3 a3 mt;clear d0 d1 bv bo d4 d5 d6 d7 d8 u0 u1 u2 u3 u4 u5 u6 u7 hA bc;generalize Ck.asked (C2,pa) mt=D at *;go_wp2_with fail;refine b9.mono ?_;rintro e w5 hP;clear b9 q0 q1 q2 q3 q4 q5 q6 q7 bw bs c1 z0 z1 z2 z3 z4 z5 z6 z7 z8 f0 f1 f2 f3 f4 f5 f6 f7 f8;rcases D with⟨k2,o2,n2,t2,s2,y2,a4⟩ | ⟨a,er⟩
 rotate_left
 .obtain⟨hm,ai⟩:=hP;obtain rfl:=hm;have a0:Ax w R (.panicked (Af a er)) w5:=by rw[au.out];exact⟨rfl,b5.trans (ai.mono b5.size)⟩
  exact⟨rfl,a0⟩
 obtain⟨sl2,row2,rfl,ak,be,ai⟩:=hP.inl;obtain⟨a2,c2,rfl,-,-⟩:=ak.val;have bl:=ai.size;clear hP;obtain⟨w8,b8⟩:∃w8,w5.alloc (.cells #[iv k2,iv o2,iv n2,strV t2,iv s2,strV y2,.slice a2 a4.length c2,iv 0] 48)=w8:=⟨_,rfl⟩;have am:Below w5.heap.size w5 w8:=by rw[<-b8];exact (AF _ _).alloc (AD _) _
 have ad:Below w3.heap.size w3 w8:=ai.trans (am.mono bl);have ah:=(ad.block _ l3).trans a5;obtain⟨z0,z1,z2,z3,z4,z5,z6,z7,z8,f0,f1,f2,f3,f4,f5,f6,f7,f8⟩:=Ai ah;have l8:w2.heap.size<w8.heap.size:=(AB ah).1;obtain⟨w9,ag⟩:∃w9,w8.setCell ⟨w2.heap.size,5,none⟩ (sL w5.heap.size 0 1 1)=w9:=⟨_,rfl⟩;have av:w9.heap[w2.heap.size]?=some (.cells #[iv k,sE,iv ms,.bool (mk == 1),iv 0,sL w5.heap.size 0 1 1,sZ,sZ,iv 0] 46 (0,0)):=by rw[<-ag];simp[World.setCell,Array.getElem?_modify,ah]
 have aj:Below w1.heap.size w1 w8:=a3.trans (ad.mono a3.size);have ab:Below w1.heap.size w1 w9:=by rw[<-ag];exact aj.setCell (p:=⟨w2.heap.size,5,none⟩) az _
 have aw:=(ab.block _ l1).trans c3;obtain⟨y0,y1,cc,y3,y4,y5,y6,y7,y8,-⟩:=Ai av;obtain⟨r0,r1,r2,r3,r4,r5,r6,r7,r8,t0,t1,c4,t3,t4,t5,t6,t7,t8⟩:=Ai aw;have l9:w2.heap.size<w9.heap.size:=(AB av).1;have bk:w0.heap.size<w9.heap.size:=(AB aw).1;have ae:Hid (w9.heap.size=w8.heap.size):=by show _=_;rw[<-ag];simp[World.setCell]
 have a0:Ax w R (.returned (.agg #[iv k,sE,iv ms,.bool (mk == 1),iv 0,sL w5.heap.size 0 1 1,sZ,sZ,iv 0])) (A4 w9 w0.heap.size (iv k) sE (iv ms) (.bool (mk == 1)) (iv 0) (sL w5.heap.size 0 1 1) sZ sZ (iv 0)):=by
  rw[au.out];have br:=ae.out;have b6:∀{n:Nat} {wx:World},w2.heap.size<n->wx.heap.size<=w8.heap.size->(∀j,n<=j->j<wx.heap.size->w8.heap[j]?=wx.heap[j]?)->Since (From n) wx (A4 w9 w0.heap.size (iv k) sE (iv ms) (.bool (mk == 1)) (iv 0) (sL w5.heap.size 0 1 1) sZ sZ (iv 0)):=λ {n wx} hn h1 h2=>⟨by rw[Bb,br];exact h1,λ j h3 h4=>by
   have h5:n<=j:=h3;rw[Aq (by omega),<-ag,Below.heap_setCell _ _ _ _ (by show j≠w2.heap.size;omega)];exact h2 j h3 h4⟩
  have ar:∀{n:Nat} {wx:World},w.heap.size<=n->∀j,From n j->j<wx.heap.size->From w.heap.size j:=λ {n wx} hn j hj _=>AP hn hj
  have ba:=b6 (n:=w3.heap.size) (wx:=w5) (by omega) am.size (λ j _ hj=>am.block j hj);have a8:SlRow (From w5.heap.size) w8 8 (sL w5.heap.size 0 1 1) 1 [iv k2,iv o2,iv n2,strV t2,iv s2,strV y2,.slice a2 a4.length c2,iv 0]:=by rw[<-b8];exact D7 (AD _)
  have bn:=b6 (n:=w5.heap.size) (wx:=w8) (by omega) (AD _) (λ j _ hj=>rfl);exact⟨⟨_,rfl,Fv ((a8.since bn).base' (ar (by omega))) (Jk (C1 ((ak.since ba).base' (ar (by omega))) ((be.since ba).base (ar (by omega))))) BF Au.nil BF Au.nil⟩,Bu (a6.trans (ab.mono (by omega))) (by omega) _ _ _ _ _ _ _ _ _ ⟩
 clear au ak be aw av ah a5 ae;go_wp2_with fail;exact bodyPost_ret (by simp[results,results141,go_sem,bk,r0,r1,r2,r3,r4,r5,r6,r7,r8]) rfl a0
theorem Ad4{x y:Px.Ex}(hE:EOk x)(bv:EOk y){n:AQ}{c:Ck.Cx}{B:AS}{row:AR}(hc:CkAt w b mb c)(bf:CxOk c)(hr:SlRow B w 8 s1 2 row)(ha:Aj B w [x,y] row)(b2 b3:Option Addr)(m2 m3 d2 d3:Nat) :
  AA 141 #[pt b 0,.agg (stA 2 n s1 (.slice b2 m2 d2) (.slice b3 m3 d3) p)] w λ e w'=>Ax w (Ck.bind (Ck.targ c.env n p) λ m=>Ck.bind (Ck.need (Ck.within m.type).2.2 p 35) λ _=>Ck.bind (Ck.asked (Ck.cE c x,Ck.plc x) (Ck.within m.type).1) λ x=>Ck.bind (Ck.asked (Ck.cE c y,Ck.plc y) (Ck.within m.type).2.1) λ y=>.inl (CS.mk 2 m.slot (m.kind == 1) 0 [x,y] [] [])) e w':=by
 obtain⟨k,Hk⟩:∃k:Nat,Hid (2=k):=⟨_,rfl⟩;rw[Hk.out];obtain⟨w0,w1,cv,cr,l0,l1,df,aj,dq,c7,cz⟩:=Dq w k n s1 (.slice b2 m2 d2) (.slice b3 m3 d3) p;have be:=hr.since (Since.of_below aj);have b8:=ha.since (Since.of_below aj);have b7:=hc.keep aj;have hT:=G8 b7 k n s1 (.slice b2 m2 d2) (.slice b3 m3 d3) p;obtain⟨g,og,cap,ka,oa,na,ta,aa,pa,dh,cj,rfl,bc,hg,rfl,⟨u0,u1,u2,u3,u4,u5,u6,u7⟩,bb,c0⟩:=Bd (args:=[x,y]) be b8 rfl;obtain⟨g',dd,cf,kb,ob,nb,tb,ab,pb,dl,cm,e,-,-,rfl,⟨v0,v1,v2,v3,v4,v5,v6,v7⟩,bp,c3⟩:=D6 (args:=[_,y]) be b8 rfl;simp only[Value.slice.injEq,Option.some.injEq,Addr.mk.injEq,and_true] at e;obtain⟨⟨rfl,rfl⟩,-,rfl⟩:=e;simp only[length_cons,length_nil,Nat.zero_add] at bc;have hA:=λ w' (hb:Below w1.heap.size w1 w') ty=>B4 hE rfl (b7.keep hb) bf (bb.since (Since.of_below hb)) (c0.since (Since.of_below hb)) ty
 have bs:=λ w' (hb:Below w1.heap.size w1 w') ty=>B4 bv rfl (b7.keep hb) bf (bp.since (Since.of_below hb)) (c3.since (Since.of_below hb)) ty
 obtain⟨bh,af,rfl,-,-⟩:=bb.val;obtain⟨bn,ag,rfl,-,-⟩:=bp.val;obtain⟨d0,d1,ct,ci,d4,d5,d6,d7,d8,-⟩:=Ai c7;have al:∀m,Ck.targ c.env n p=.inl m->m.type.length<=1000:=λ m=>Ld bf.env
 obtain⟨R,HR⟩:∃R:Ck.R CS,Hid ((Ck.bind (Ck.targ c.env n p) λ m=>Ck.bind (Ck.need (Ck.within m.type).2.2 p 35) λ _=>Ck.bind (Ck.asked (Ck.cE c (.mk ka oa na ta aa pa),pa) (Ck.within m.type).1) λ x=>Ck.bind (Ck.asked (Ck.cE c (.mk kb ob nb tb ab pb),pb) (Ck.within m.type).2.1) λ y=>.inl (CS.mk k m.slot (m.kind == 1) 0 [x,y] [] []))=R):=⟨_,rfl⟩;show Calls _ _ _ _ λ e w'=>Ax w (Ck.bind (Ck.targ c.env n p) λ m=>Ck.bind (Ck.need (Ck.within m.type).2.2 p 35) λ _=>Ck.bind (Ck.asked (Ck.cE c (.mk ka oa na ta aa pa),pa) (Ck.within m.type).1) λ x=>Ck.bind (Ck.asked (Ck.cE c (.mk kb ob nb tb ab pb),pb) (Ck.within m.type).2.1) λ y=>.inl (CS.mk k m.slot (m.kind == 1) 0 [x,y] [] [])) e w'
 rw[HR.out];have bi:=HR;clear HR Hk;generalize Ck.targ c.env n p=C at *;generalize Ck.cE c (.mk ka oa na ta aa pa)=C2 at *;generalize Ck.cE c (.mk kb ob nb tb ab pb)=C4 at *;have i0:(0:Int)<2:=by omega
 have i1:(1:Int)<2:=by omega
 have i2:((2:Int) == 1)=false:=rfl;have dj:([Px.Ex.mk ka oa na ta aa pa,.mk kb ob nb tb ab pb]:List Px.Ex).length=2:=rfl;clear hc hr ha hE bv be b8 b7 bb c0 bp c3 c7;simp only[length_cons,length_nil,Nat.zero_add] at *;go_enter func141,ntmps141;go_wp2_with fail;refine hT.mono ?_;rintro e w2 hP;clear hT cv cr;rcases C with⟨mk,ms,mt⟩ | ⟨a,er⟩
 rotate_left
 .obtain⟨hm,b0⟩:=hP;obtain rfl:=hm;have a0:Ax w R (.panicked (Af a er)) w2:=by rw[<-bi.out];exact⟨rfl,aj.trans (b0.mono (by omega))⟩
  exact⟨rfl,a0⟩
 obtain⟨rfl,b0⟩:=hP;have cw:mt.length<=1000:=al _ rfl;have bt:=b0.size;obtain⟨wz,w3,cp,cy,cq,c9,ca,dc,ae,ar⟩:=G7 w2 (iv k) sE (iv ms) (.bool (mk == 1)) (iv 0) sZ sZ sZ (iv 0);have lz:w2.heap.size<wz.heap.size:=by omega
 have l3:w2.heap.size<w3.heap.size:=by omega
 clear c9 ca;obtain⟨z0,z1,z2,z3,z4,z5,z6,z7,z8,f0,f1,f2,f3,f4,f5,f6,f7,f8⟩:=Ai ar;have a8:Below w1.heap.size w1 w3:=b0.trans (cq.mono bt);have hM:=G4 mt (by omega) w3;have a6:Hid (R=Ck.bind (Ck.need (Ck.within mt).2.2 p 35) λ _=>Ck.bind (Ck.asked (C2,pa) (Ck.within mt).1) λ x=>Ck.bind (Ck.asked (C4,pb) (Ck.within mt).2.1) λ y=>.inl (CS.mk k ms (mk == 1) 0 [x,y] [] [])):=bi.out.symm;have k5:=((bcell a8).1 w.heap.size 5 (by omega)).trans d5;generalize Ck.within mt=mp at *;obtain⟨az,b4,d9⟩:=mp;simp only at a6 hM;clear bi al cw;go_wp2_with fail;refine hM.mono ?_;rintro e w4 ⟨rfl,b6⟩;clear hM cp cy z0 z1 z2 z3 z4 z5 z6 z7 z8 f0 f1 f2 f3 f4 f5 f6 f7 f8 k5;have a3:Below w1.heap.size w1 w4:=a8.trans (b6.mono a8.size);have cl:=a8.size;have dk:=b6.size;have cd:=((bcell a3).1 w.heap.size 8 (by omega)).trans d8;have aq:Below w.heap.size w w4:=aj.trans (a3.mono (by omega));cases d9
 .have a0:Hid (Ax w R (.panicked (Af p 35)) w4):=by rw[a6.out];exact⟨rfl,aq⟩
  have hN:=Ao p 35 w4;clear a6;go_wp2_with fail;refine hN.mono ?_;rintro e w7 ⟨rfl,rfl⟩;exact⟨rfl,a0.out⟩
 have hN:=Av p 35 w4;replace a6:Hid (R=Ck.bind (Ck.asked (C2,pa) az) λ x=>Ck.bind (Ck.asked (C4,pb) b4) λ y=>.inl (CS.mk k ms (mk == 1) 0 [x,y] [] [])):=a6.out;go_wp2_with fail;refine hN.mono ?_;rintro e w7 ⟨rfl,da⟩;obtain rfl:=da.symm;clear hN cd;have hS:∀w',Below w4.heap.size w4 w'->(w'.cell? ⟨w.heap.size,5,none⟩=some (sL g og 2 cap)/\w'.cell? ⟨g,og,none⟩=some (iv ka)/\w'.cell? ⟨g,og+1,none⟩=some (iv oa)/\w'.cell? ⟨g,og+2,none⟩=some (iv na)/\w'.cell? ⟨g,og+3,none⟩=some (strV ta)/\w'.cell? ⟨g,og+4,none⟩=some (iv 0)/\w'.cell? ⟨g,og+5,none⟩=some sE/\w'.cell? ⟨g,og+6,none⟩=some (.slice bh aa.length af)/\w'.cell? ⟨g,og+7,none⟩=some (iv pa)/\w'.cell? ⟨g,og+8,none⟩=some (iv kb)/\w'.cell? ⟨g,og+9,none⟩=some (iv ob)/\w'.cell? ⟨g,og+10,none⟩=some (iv nb)/\w'.cell? ⟨g,og+11,none⟩=some (strV tb)/\w'.cell? ⟨g,og+12,none⟩=some (iv 0)/\w'.cell? ⟨g,og+13,none⟩=some sE/\w'.cell? ⟨g,og+14,none⟩=some (.slice bn ab.length ag)/\w'.cell? ⟨g,og+15,none⟩=some (iv pb)):=λ w' hb=>by
  obtain⟨bd,-⟩:=bcell (a3.trans (hb.mono a3.size));exact⟨(bd _ _ (by omega)).trans d5,(bd _ _ hg).trans u0,(bd _ _ hg).trans u1,(bd _ _ hg).trans u2,(bd _ _ hg).trans u3,(bd _ _ hg).trans u4,(bd _ _ hg).trans u5,(bd _ _ hg).trans u6,(bd _ _ hg).trans u7,(bd _ _ hg).trans v0,(bd _ _ hg).trans v1,(bd _ _ hg).trans v2,(bd _ _ hg).trans v3,(bd _ _ hg).trans v4,(bd _ _ hg).trans v5,(bd _ _ hg).trans v6,(bd _ _ hg).trans v7⟩
 have c1:=hA w4.drew a3.drew az;have c5:=λ w' (hb:Below w4.heap.size w4 w')=>bs w' (a3.trans (hb.mono a3.size)) b4
 generalize Ck.asked (C2,pa) az=D at *;generalize Ck.asked (C4,pb) b4=E at *;clear hA bs;go_wp2_with fail;refine Vv.wpE_begin (S:=λ w'=>w'.cell? ⟨w.heap.size,5,none⟩=some (sL g og 2 cap)/\w'.cell? ⟨g,og,none⟩=some (iv ka)/\w'.cell? ⟨g,og+1,none⟩=some (iv oa)/\w'.cell? ⟨g,og+2,none⟩=some (iv na)/\w'.cell? ⟨g,og+3,none⟩=some (strV ta)/\w'.cell? ⟨g,og+4,none⟩=some (iv 0)/\w'.cell? ⟨g,og+5,none⟩=some sE/\w'.cell? ⟨g,og+6,none⟩=some (.slice bh aa.length af)/\w'.cell? ⟨g,og+7,none⟩=some (iv pa)/\w'.cell? ⟨g,og+8,none⟩=some (iv kb)/\w'.cell? ⟨g,og+9,none⟩=some (iv ob)/\w'.cell? ⟨g,og+10,none⟩=some (iv nb)/\w'.cell? ⟨g,og+11,none⟩=some (strV tb)/\w'.cell? ⟨g,og+12,none⟩=some (iv 0)/\w'.cell? ⟨g,og+13,none⟩=some sE/\w'.cell? ⟨g,og+14,none⟩=some (.slice bn ab.length ag)/\w'.cell? ⟨g,og+15,none⟩=some (iv pb)) (N:=λ j=>decide (j<16)) (by kernel_rfl) ?_;have a5:=hS w4.drew (AF _ _).drew;refine Aa 40 [16] 0 (pt b 0) a5 ?_
 try simp only[aP]
 refine Aa 41 [16] 1 (pt w.heap.size 5) a5 ?_
 try simp only[aP]
 refine Aa 42 [16] 2 (sL g og 2 cap) a5 ?_
 try simp only[aP]
 refine Aa 43 [16] 3 (pt g og) a5 ?_
 try simp only[aP]
 refine Aa 44 [16] 4 (.agg (exA ka oa na ta (.slice bh aa.length af) pa)) a5 ?_
 try simp only[aP]
 refine Aa 45 [16] 5 (strV az) a5 ?_
 try simp only[aP]
 refine Aa 47 [16] 7 (pt b 0) a5 ?_
 try simp only[aP]
 refine Aa 48 [16] 8 (pt w.heap.size 5) a5 ?_
 try simp only[aP]
 refine Aa 49 [16] 9 (sL g og 2 cap) a5 ?_
 try simp only[aP]
 refine Aa 50 [16] 10 (pt g (og+8)) a5 ?_
 try simp only[aP]
 refine Aa 51 [16] 11 (.agg (exA kb ob nb tb (.slice bn ab.length ag) pb)) a5 ?_
 try simp only[aP]
 refine Aa 52 [16] 12 (strV b4) a5 ?_
 try simp only[aP]
 refine Ah 6 λ K hK=>?_
 go_simp;refine c1.mono ?_;rintro e w5 hP;replace hP:Ae w4 D e w5:=hP.of (AF _ _).drew;clear c1 d0 d1 ct ci d4 d5 d6 d7 d8 u0 u1 u2 u3 u4 u5 u6 u7 v0 v1 v2 v3 v4 v5 v6 v7 a5;rcases D with⟨k2,o2,n2,t2,s2,y2,a9⟩ | ⟨a,er⟩
 rotate_left
 .obtain⟨hm,ai⟩:=hP;obtain rfl:=hm;have a0:Ax w R (.panicked (Af a er)) w5:=by rw[a6.out];exact⟨rfl,aq.trans (ai.mono aq.size)⟩
  exact⟨rfl,a0⟩
 obtain⟨sl2,row2,rfl,ba,c8,ai⟩:=hP.inl;obtain⟨a2,c2,rfl,-,-⟩:=ba.val;have cg:=ai.size;refine hK _ _ (λ _=>hS w5 ai) ?_;clear hK K hP
 try simp only[aP]
 have bu:=c5 w5 ai;refine Ah 13 λ K hK=>?_
 go_simp;refine bu.mono ?_;rintro e w6 hP;clear bu c5;have bx:Below w.heap.size w w5:=aq.trans (ai.mono aq.size);rcases E with⟨k4,o4,n4,t4,s4,y4,ad⟩ | ⟨a,er⟩
 rotate_left
 .obtain⟨hm,aw⟩:=hP;obtain rfl:=hm;have a0:Ax w R (.panicked (Af a er)) w6:=by rw[a6.out];exact⟨rfl,bx.trans (aw.mono bx.size)⟩
  exact⟨rfl,a0⟩
 obtain⟨di,cu,rfl,bo,br,aw⟩:=hP.inl;obtain⟨a4,c4,rfl,-,-⟩:=bo.val;have cc:=aw.size;have ah:Below w4.heap.size w4 w6:=ai.trans (aw.mono cg);refine hK _ _ (λ _=>hS w6 ah) ?_;clear hK K hP
 try simp only[aP]
 obtain⟨w8,bj⟩:∃w8,w6.alloc (.cells #[iv k2,iv o2,iv n2,strV t2,iv s2,strV y2,.slice a2 a9.length c2,iv 0,iv k4,iv o4,iv n4,strV t4,iv s4,strV y4,.slice a4 ad.length c4,iv 0] 48)=w8:=⟨_,rfl⟩;have ay:Below w6.heap.size w6 w8:=by rw[<-bj];exact (AF _ _).alloc (AD _) _
 have a7:Below w4.heap.size w4 w8:=ah.trans (ay.mono ah.size);refine Ah 14 λ K hK=>?_
 go_simp;refine hK _ _ (λ _=>hS w8 a7) ?_;clear hK K
 try simp only[aP]
 refine Ah 15 λ K hK=>?_
 go_simp;refine hK _ _ (λ _=>hS w8 a7) ?_;clear hK K
 try simp only[aP]
 have bl:Below w3.heap.size w3 w8:=b6.trans (a7.mono b6.size);have b5:=(bl.block _ l3).trans ae;obtain⟨z0,z1,z2,z3,z4,z5,z6,z7,z8,f0,f1,f2,f3,f4,f5,f6,f7,f8⟩:=Ai b5;have l8:w2.heap.size<w8.heap.size:=(AB b5).1;obtain⟨w9,ax⟩:∃w9,w8.setCell ⟨w2.heap.size,5,none⟩ (sL w6.heap.size 0 2 2)=w9:=⟨_,rfl⟩;have bk:w9.heap[w2.heap.size]?=some (.cells #[iv k,sE,iv ms,.bool (mk == 1),iv 0,sL w6.heap.size 0 2 2,sZ,sZ,iv 0] 46 (0,0)):=by rw[<-ax];simp[World.setCell,Array.getElem?_modify,b5]
 have b9:Below w1.heap.size w1 w8:=a3.trans (a7.mono a3.size);have av:Below w1.heap.size w1 w9:=by rw[<-ax];exact b9.setCell (p:=⟨w2.heap.size,5,none⟩) bt _
 have bq:=(av.block _ l1).trans cz;refine Ah 16 λ K hK=>?_
 go_simp;refine hK _ _ (λ h=>by cases h) ?_;clear hK K
 try simp only[aP]
 refine Vv.wpE_done (by kernel_rfl) ?_;clear z0 z1 z2 z3 z4 z5 z6 z7 z8 f0 f1 f2 f3 f4 f5 f6 f7 f8;obtain⟨y0,y1,dn,y3,de,y5,y6,y7,y8,-⟩:=Ai bk;obtain⟨r0,r1,r2,r3,r4,r5,r6,r7,r8,t0,t1,db,t3,dm,t5,t6,t7,t8⟩:=Ai bq;have l9:w2.heap.size<w9.heap.size:=(AB bk).1;have ce:w0.heap.size<w9.heap.size:=(AB bq).1;have a0:Ax w R (.returned (.agg #[iv k,sE,iv ms,.bool (mk == 1),iv 0,sL w6.heap.size 0 2 2,sZ,sZ,iv 0])) (A4 w9 w0.heap.size (iv k) sE (iv ms) (.bool (mk == 1)) (iv 0) (sL w6.heap.size 0 2 2) sZ sZ (iv 0)):=by
  rw[a6.out];have co:w9.heap.size=w8.heap.size:=by rw[<-ax];simp[World.setCell]
  have bg:∀{n:Nat} {wx:World},w2.heap.size<n->wx.heap.size<=w8.heap.size->(∀j,n<=j->j<wx.heap.size->w8.heap[j]?=wx.heap[j]?)->Since (From n) wx (A4 w9 w0.heap.size (iv k) sE (iv ms) (.bool (mk == 1)) (iv 0) (sL w6.heap.size 0 2 2) sZ sZ (iv 0)):=λ {n wx} hn h1 h2=>⟨by rw[Bb,co];exact h1,λ j h3 h4=>by
   have h5:n<=j:=h3;rw[Aq (by omega),<-ax,Below.heap_setCell _ _ _ _ (by show j≠w2.heap.size;omega)];exact h2 j h3 h4⟩
  have au:∀{n:Nat} {wx:World},w.heap.size<=n->∀j,From n j->j<wx.heap.size->From w.heap.size j:=λ {n wx} hn j hj _=>AP hn hj
  have ak:Below w5.heap.size w5 w8:=aw.trans (ay.mono cc);have c6:=bg (n:=w4.heap.size) (wx:=w5) (by omega) ak.size (λ j _ hj=>ak.block j hj);have bw:=bg (n:=w5.heap.size) (wx:=w6) (by omega) ay.size (λ j _ hj=>ay.block j hj);have am:SlRow (From w6.heap.size) w8 8 (sL w6.heap.size 0 2 2) 2 [iv k2,iv o2,iv n2,strV t2,iv s2,strV y2,.slice a2 a9.length c2,iv 0,iv k4,iv o4,iv n4,strV t4,iv s4,strV y4,.slice a4 ad.length c4,iv 0]:=by rw[<-bj];exact K5 (AD _)
  have ch:=bg (n:=w6.heap.size) (wx:=w8) (by omega) (AD _) (λ j _ hj=>rfl);exact⟨⟨_,rfl,Fv ((am.since ch).base' (au (by omega))) (Aq6 (C1 ((ba.since c6).base' (au (by omega))) ((c8.since c6).base (au (by omega)))) (C1 ((bo.since bw).base' (au (by omega))) ((br.since bw).base (au (by omega))))) BF Au.nil BF Au.nil⟩,Bu (aj.trans (av.mono (by omega))) (by omega) _ _ _ _ _ _ _ _ _ ⟩
 have e9:Hid (w8.setCell ⟨w2.heap.size,5,none⟩ (sL w6.heap.size 0 2 2)=w9):=ax;clear a6 ba c8 bo br bq bk b5 ae hS bj;simp only[Exit.inBlock,Exit.then];refine ‹∀(a:Act) (w:World),_->_› _ _ ?_;go_wp2_with fail;exact bodyPost_ret (by simp[results,results141,go_sem,ce,r0,r1,r2,r3,r4,r5,r6,r7,r8]) rfl a0
theorem CkS.fm{k:Ck.Kx}{env:Ck.Env}{ls:List (List UInt8)}{lv:Value}{X:AS}(h:CkS n0 b mb v0 ss fs k env ls lv w)(f:Fm X w w')(hX:∀j,X j->n0<=j/\lv.ownBlock≠some j):CkS n0 b mb v0 ss fs k env ls lv w':=
 ⟨(f.block b (by have:=h.hb;have:=h.sz;omega) (λ e=>by have:=(hX _ e).1;have:=h.hb;omega)).trans h.blk,h.hds.since (f.since (λ j hj e=>by have:=(hX _ e).1;have:=hj.1;omega)),h.env.since (f.block mb h.env.lt (λ e=>by have:=(hX _ e).1;have:=h.hm;omega)),h.loc.since (λ j hj=>f.block j (h.loc.lt hj).2 (λ e=>(hX j e).2 hj)),h.hb,h.hm,h.bm,AP h.sz f.size⟩
theorem Fm.set9(w:World)(g:Nat)(x0 x1 x2 x3 x4 x5 x6 x7 x8:Value):Fm (λ j=>j=g) w (A4 w g x0 x1 x2 x3 x4 x5 x6 x7 x8):=by
 have h:=Bu (AF 0 w) (AO g) x0 x1 x2 x3 x4 x5 x6 x7 x8;exact⟨h.os,h.tape,h.output,h.size,λ j _ h=>Aq h _ _ _ _ _ _ _ _ _ ⟩
def Bt(n0 b mb cb nb:Nat)(v0 ss fs:Value)(k:Ck.Kx)(env:Ck.Env)(lv nv:Value)(names:List (List UInt8))(w:World)(r:Ck.R Ck.St1)(e:Ending)(w':World):Prop:=
 match r with
 | .inl (x,env',ls')=>∃lv' nv' more cs,e=.returned (.agg cs.toArray)/\Co (λ j=>w.heap.size<=j/\lv'.ownBlock≠some j/\nv'.ownBlock≠some j) w' x cs/\env'=env ++ more/\CkS n0 b mb v0 ss fs k env' ls' lv' w'/\Sc n0 b cb nb nv' (names ++ more.map Prod.fst) w'/\Apart lv' nv' cb nb/\Fm (H0 b mb nb lv nv) w w'/\(∀j,lv'.ownBlock=some j->lv.ownBlock=some j\/w.heap.size<=j)/\(∀j,nv'.ownBlock=some j->nv.ownBlock=some j\/w.heap.size<=j)
 | .inr (a,er)=>e=.panicked (Af a er)/\Fm (H0 b mb nb lv nv) w w'
theorem Ju{env:Ck.Env}{ls:List (List UInt8)}{kind:Nat}{ty:AQ}{r:Ck.Env × List (List UInt8)}(h:Ck.loc env ls x p kind ty=.inl r):r.1=env ++ [(x,⟨kind,ls.length,ty⟩)]:=by
 obtain⟨e,h1,h⟩:=An h;obtain⟨_,-,h⟩:=An h;obtain⟨_,-,h1⟩:=An h1;cases h1;cases h;rfl
theorem Ak4{x:Px.Ex}(hE:EOk x){n:AQ}{cb nb:Nat}{lv nv:Value}{k:Ck.Kx}{env:Ck.Env}{ls names:List (List UInt8)}(h:CkS n0 b mb v0 ss fs k env ls lv w)(ho:KOk k env)(hs:Sc n0 b cb nb nv names w)(bf:Apart lv nv cb nb)(hl:ls.length<=32)(c9:names.length<=100000){B:AS}{row:AR}(hr:SlRow B w 8 s1 1 row)(ha:Aj B w [x] row)(b2 b3:Option Addr)(m2 m3 d2 d3:Nat) :
  AA 140 #[pt b 0,.agg (stA 1 n s1 (.slice b2 m2 d2) (.slice b3 m3 d3) p),.func (.func 112) #[] #[pt cb 0,pt nb 0]] w λ e w'=>Bt n0 b mb cb nb v0 ss fs k env lv nv names w (Ck.bind (Ck.cE (k.at env) x) λ x=>Ck.bind (Ck.loc env ls n p 3 x.type) λ e=>.inl (CS.mk 1 ls.length false 0 [x] [] [],e.1,e.2)) e w':=by
 obtain⟨kk,Hk⟩:∃kk:Nat,Hid (1=kk):=⟨_,rfl⟩;have bi:Hid ((Ck.bind (Ck.cE (k.at env) x) λ x=>Ck.bind (Ck.loc env ls n p 3 x.type) λ e=>.inl (CS.mk 1 ls.length false 0 [x] [] [],e.1,e.2))=(Ck.bind (Ck.cE (k.at env) x) λ x=>Ck.bind (Ck.loc env ls n p 3 x.type) λ e=>.inl (CS.mk kk ls.length false 0 [x] [] [],e.1,e.2):Ck.R Ck.St1)):=by rw[<-Hk.out];rfl
 rw[bi.out];have af:Hid (stA 1 n s1 (.slice b2 m2 d2) (.slice b3 m3 d3) p=stA kk n s1 (.slice b2 m2 d2) (.slice b3 m3 d3) p):=by rw[<-Hk.out];rfl
 rw[af.out];clear bi af Hk;obtain⟨w0,w1,c4,c1,l0,l1,cg,a8,co,bk,c7⟩:=Dq w kk n s1 (.slice b2 m2 d2) (.slice b3 m3 d3) p;have bc:=hr.since (Since.of_below a8);have b9:=ha.since (Since.of_below a8);have h1:=h.keep a8;obtain⟨g,og,cap,ka,oa,na,ta,aa,pa,c0,az,rfl,bp,hg,rfl,⟨u0,u1,u2,u3,u4,u5,u6,u7⟩,av,bg⟩:=Bd (args:=[x]) bc b9 rfl;have hC:=hE ka oa na ta aa pa rfl w1 b mb (k.at env) B c0 az h1.at ho.cx av bg;obtain⟨cf,bo,rfl,-,-⟩:=av.val;obtain⟨d0,d1,c3,bv,d4,d5,d6,d7,d8,-⟩:=Ai bk;have ca:cb<w.heap.size:=(AB hs.cbk).1;have b6:nb<w.heap.size:=(AB hs.nbk).1;have cj:b<w.heap.size:=by have:=h.hb;have:=h.sz;omega
 have ce:mb<w.heap.size:=by have:=h.hm;have:=h.sz;omega
 have hT:∀j,w.heap.size<=j->¬H0 b mb nb lv nv j:=λ j hj=>by
  rintro (e | e | e | e | e)
  .omega
  .omega
  .omega
  .have:=(h.loc.lt e).2;omega
  .have:=(hs.own.lt e).2;omega
 obtain⟨R,HR⟩:∃R:Ck.R Ck.St1,Hid ((Ck.bind (Ck.cE (k.at env) (.mk ka oa na ta aa pa)) λ x=>Ck.bind (Ck.loc env ls n p 3 x.type) λ e=>.inl (CS.mk kk ls.length false 0 [x] [] [],e.1,e.2))=R):=⟨_,rfl⟩;rw[HR.out];generalize Ck.cE (k.at env) (.mk ka oa na ta aa pa)=C at *;have i0:(0:Int)<1:=by omega
 have cl:([Px.Ex.mk ka oa na ta aa pa]:List Px.Ex).length=1:=rfl;clear hr ha hE bc b9 h1 av bg;simp only[length_cons,length_nil,Nat.zero_add] at *;go_enter func140,ntmps140;go_wp2_with fail;refine hC.mono ?_;rintro e w2 hP;clear hC c4 c1;rcases C with⟨k2,o2,n2,t2,s2,y2,a3⟩ | ⟨a,er⟩
 rotate_left
 .obtain⟨hm,aq⟩:=hP;obtain rfl:=hm;have a0:Bt n0 b mb cb nb v0 ss fs k env lv nv names w R (.panicked (Af a er)) w2:=by rw[<-HR.out];exact⟨rfl,BE (a8.trans (aq.mono (by omega)))⟩
  exact⟨rfl,a0⟩
 obtain⟨sl2,row2,rfl,ar,bn,aq⟩:=hP.inl;obtain⟨a2,c2,rfl,-,-⟩:=ar.val;have bt:=aq.size;obtain⟨wz,w3,bx,c5,b4,aj,br,cd,a4,ae⟩:=Bs w2 (iv k2) (iv o2) (iv n2) (strV t2) (iv s2) (strV y2) (.slice a2 a3.length c2) (iv 0);have lz:w2.heap.size<wz.heap.size:=by omega
 have l3:w2.heap.size<w3.heap.size:=by omega
 clear aj br hP;obtain⟨z0,z1,z2,z3,z4,z5,z6,z7,f0,f1,f2,f3,f4,f5,f6,f7⟩:=Ac ae;obtain⟨q0,q1,q2,q3,q4,q5,q6,q7,-⟩:=Ac a4;have a5:Below w1.heap.size w1 w3:=aq.trans (b4.mono bt);have am:Below w.heap.size w w3:=a8.trans (a5.mono (by omega));have bs:=((bcell a5).1 w.heap.size 1 (by omega)).trans d1;have bu:=((bcell a5).1 w.heap.size 8 (by omega)).trans d8;have aj:Sc n0 b cb nb nv names w3:=hs.keep (λ j hj=>am.block j (by rcases hj with rfl | rfl | h;exact ca;exact b6;exact (hs.own.lt h).2));have hL:=Ir (h.keep am) ho.eok aj bf hl c9 n p 3 0 y2;have ay:Hid (R=Ck.bind (Ck.loc env ls n p 3 y2) λ e=>.inl (CS.mk kk ls.length false 0 [.mk k2 o2 n2 t2 s2 y2 a3] [] [],e.1,e.2)):=HR.out.symm;have be:∀r,Ck.loc env ls n p 3 y2=.inl r->r.1=env ++ [(n,⟨3,ls.length,y2⟩)]:=λ r=>Ju
 generalize Ck.loc env ls n p 3 y2=D at *;have c6:=b4.size;clear HR d0 d1 c3 bv d4 d5 d6 d7 d8 u0 u1 u2 u3 u4 u5 u6 u7;have ad:=h.loc;have ah:=hs.own;have ci:=h.sz;clear h ho hs aj;go_wp2_with fail;refine hL.mono ?_;rintro e w4 hP;clear hL bx c5 z0 z1 z2 z3 z4 z5 z6 z7 f0 f1 f2 f3 f4 f5 f6 f7 q0 q1 q2 q3 q4 q5 q6 q7 bs bu;rcases D with⟨env',ls'⟩ | ⟨a,er⟩
 rotate_left
 .obtain⟨hm,a6⟩:=hP;obtain rfl:=hm;have a0:Bt n0 b mb cb nb v0 ss fs k env lv nv names w R (.panicked (Af a er)) w4:=by rw[ay.out];exact⟨rfl,(Fm.of_below (X:=λ _=>False) am).trans a6 (λ _ _ h=>h.elim) (λ _ _ h=>h)⟩
  exact⟨rfl,a0⟩
 obtain⟨lv',al,rfl,b7,b5,bj,a6,b8,au⟩:=hP;have cm:=a6.size;have bb:=(a6.block _ (by omega) (hT _ (AD _))).trans ((a5.block _ (by omega)).trans bk);have a7:=(a6.block _ l3 (hT _ (by omega))).trans a4;have bl:=(a6.block w0.heap.size (by omega) (hT _ (by omega))).trans ((a5.block _ (by omega)).trans c7);obtain⟨q0,q1,q2,q3,q4,q5,q6,q7,-⟩:=Ac a7;obtain⟨d0,-⟩:=Ai bb;have l4:w2.heap.size<w4.heap.size:=by omega
 have ch:w.heap.size<w4.heap.size:=by omega
 obtain⟨w8,bh⟩:∃w8,w4.alloc (.cells #[iv k2,iv o2,iv n2,strV t2,iv s2,strV y2,.slice a2 a3.length c2,iv 0] 48)=w8:=⟨_,rfl⟩;have ak:Below w4.heap.size w4 w8:=by rw[<-bh];exact (AF _ _).alloc (AD _) _
 have aw:=(ak.block w0.heap.size (by omega)).trans bl;obtain⟨r0,r1,r2,r3,r4,r5,r6,r7,r8,t0,t1,cc,t3,t4,t5,t6,t7,t8⟩:=Ai aw;have bw:w0.heap.size<w8.heap.size:=(AB aw).1;have a0:Bt n0 b mb cb nb v0 ss fs k env lv nv names w R (.returned (.agg #[iv kk,sE,iv ls.length,.bool false,iv 0,sL w4.heap.size 0 1 1,sZ,sZ,iv 0])) (A4 w8 w0.heap.size (iv kk) sE (iv ls.length) (.bool false) (iv 0) (sL w4.heap.size 0 1 1) sZ sZ (iv 0)):=by
  rw[ay.out];have ax:∀j,lv'.ownBlock=some j->n0<=j/\j<w4.heap.size:=λ j hj=>b7.loc.lt hj
  have ai:∀j,al.ownBlock=some j->n0<=j/\j<w4.heap.size:=λ j hj=>b5.own.lt hj
  have ag:∀j,lv'.ownBlock=some j->j<w.heap.size\/w3.heap.size<=j:=λ j hj=>by
   rcases b8 j hj with e | e
   .exact AI (ad.lt e).2
   .exact AJ e
  have ab:∀j,al.ownBlock=some j->j<w.heap.size\/w3.heap.size<=j:=λ j hj=>by
   rcases au j hj with e | e
   .exact AI (ah.lt e).2
   .exact AJ e
  have b0:Fm (λ j=>j=w0.heap.size) w4 (A4 w8 w0.heap.size (iv kk) sE (iv ls.length) (.bool false) (iv 0) (sL w4.heap.size 0 1 1) sZ sZ (iv 0)):=(Fm.of_below (X:=λ _=>False) ak).trans (Fm.set9 w8 w0.heap.size _ _ _ _ _ _ _ _ _ ) (λ _ _ h=>h.elim) (λ _ _ h=>h);have ba:Since (λ j=>w1.heap.size<=j/\j<w2.heap.size) w2 (A4 w8 w0.heap.size (iv kk) sE (iv ls.length) (.bool false) (iv 0) (sL w4.heap.size 0 1 1) sZ sZ (iv 0)):=⟨by rw[Bb];have:=ak.size;omega,λ j hj hl=>by
   rw[Aq (by omega)];exact (ak.block j (by omega)).trans ((a6.block j (by omega) (hT j (by omega))).trans (b4.block j hl))⟩
  have a9:SlRow (From w4.heap.size) w8 8 (sL w4.heap.size 0 1 1) 1 [iv k2,iv o2,iv n2,strV t2,iv s2,strV y2,.slice a2 a3.length c2,iv 0]:=by rw[<-bh];exact D7 (AD _)
  have c8:Since (From w4.heap.size) w8 (A4 w8 w0.heap.size (iv kk) sE (iv ls.length) (.bool false) (iv 0) (sL w4.heap.size 0 1 1) sZ sZ (iv 0)):=⟨by rw[Bb];exact AD _,λ j hj hl=>Aq (by have:w4.heap.size<=j:=hj;omega) _ _ _ _ _ _ _ _ _ ⟩;have bq:env'=env ++ [(n,⟨3,ls.length,y2⟩)]:=be _ rfl;have w12:∀j,From w1.heap.size j->j<w2.heap.size->(w1.heap.size<=j/\j<w2.heap.size):=λ j h1 h2=>⟨h1,h2⟩
  have wB:∀{wx:World} j,(w1.heap.size<=j/\j<w2.heap.size)->j<wx.heap.size->(w.heap.size<=j/\lv'.ownBlock≠some j/\al.ownBlock≠some j):=λ {wx} j h1 _=>⟨by omega,λ e=>by rcases ag j e with h | h <;> omega,λ e=>by rcases ab j e with h | h <;> omega⟩
  refine⟨lv',al,[(n,⟨3,ls.length,y2⟩)],_,rfl,?_,bq,?_,?_,bj,?_,?_,?_⟩
  .exact Fv ((a9.since c8).base' (λ j hj _=>⟨by have:w4.heap.size<=j:=hj;omega,λ e=>by have:=(ax j e).2;have:w4.heap.size<=j:=hj;omega,λ e=>by have:=(ai j e).2;have:w4.heap.size<=j:=hj;omega⟩)) (Jk (C1 (((ar.base' w12).since ba).base' wB) (((bn.base w12).since ba).base wB))) BF Au.nil BF Au.nil
  .exact b7.fm b0 (λ j hj=>by subst hj;exact⟨by omega,λ e=>by rcases ag _ e with h | h <;> omega⟩)
  .refine b5.keep (λ j hj=>b0.block j ?_ ?_)
   .rcases hj with rfl | rfl | e
    .omega
    .omega
    .exact (ai j e).2
   .rintro rfl;rcases hj with e | e | e
    .omega
    .omega
    .rcases ab _ e with h | h <;> omega
  .exact ((Fm.of_below (X:=λ _=>False) am).trans a6 (λ _ _ h=>h.elim) (λ _ _ h=>h)).trans b0 (λ _ _ h=>h) (λ j hj e=>by omega)
  .intro j hj;rcases b8 j hj with e | e
   .exact AI e
   .exact AJ (by omega)
  .intro j hj;rcases au j hj with e | e
   .exact AI e
   .exact AJ (by omega)
 clear ay ar bn aw bl bb a7 a4 b7 b5 bj a6 b8 au be ad ah hT bf;go_wp2_with fail;exact bodyPost_ret (by simp[results,results140,go_sem,bw,r0,r1,r2,r3,r4,r5,r6,r7,r8]) rfl a0
end
end Go.Proofs.YtpckmjfabiallaaGreatDoor
