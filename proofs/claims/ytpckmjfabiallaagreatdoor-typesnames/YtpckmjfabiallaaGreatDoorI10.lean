/- Texts of ours, joined. -/
import Derived.Test.YtpckmjfabiallaaGreatDoorI02
import Derived.Test.YtpckmjfabiallaaGreatDoorI08
set_option linter.unusedVariables false
set_option linter.unusedSimpArgs false
set_option maxRecDepth 100000
set_option maxHeartbeats 16000000
namespace Go.Proofs.YtpckmjfabiallaaGreatDoor
variable{T:TypeId}{b i sz:Nat}{cs:List Value}{v:Value}{w w' wr:World}
open Tryz
section
open Go.RowKit
open Ck (CE CS CF CP)
theorem cdrewN{B:Nat}{a:World}(h:Below B a w)(n:Nat):Below B a (w.drewN n):=h.trans ⟨rfl,rfl,rfl,AD _,λ _ _=>rfl⟩
mutual
def L7:CE->Nat
 | .mk _ _ _ _ _ _ a=>1+Iu a
def Iu:List CE->Nat
 | []=>0
 | e :: r=>L7 e+Iu r
end
mutual
def U6:CS->Nat
 | .mk _ _ _ _ _ b c=>1+Fw b+Fw c
def Fw:List CS->Nat
 | []=>0
 | e :: r=>U6 e+Fw r
end
theorem J6:∀{l:List CE} {i:Nat} {e:CE},l[i]?=some e->L7 e<=Iu l
 | [],i,e,h=>by simp at h
 | a :: r,0,e,h=>by simp at h;subst h;simp[Iu]
 | a :: r,i+1,e,h=>by
  have:=J6 (l:=r) (i:=i) (by simpa using h);simp only[Iu];omega
theorem J7:∀{l:List CS} {i:Nat} {e:CS},l[i]?=some e->U6 e<=Fw l
 | [],i,e,h=>by simp at h
 | a :: r,0,e,h=>by simp at h;subst h;simp[Fw]
 | a :: r,i+1,e,h=>by
  have:=J7 (l:=r) (i:=i) (by simpa using h);simp only[Fw];omega
theorem Ar.get{B:AS}{w:World}:∀{l:List CE} {row:AR} {i:Nat} {e:CE},Ar B w l row->l[i]?=some e->∃cs,Ce B w e cs/\∀j,j<8->row[i*8+j]?=cs[j]?
 | [],row,i,e,h,hi=>by simp at hi
 | a :: r,row,0,e,h,hi=>by
  rw[Ar] at h;obtain⟨c1,c2,hc,h1,h2⟩:=h;simp at hi;subst hi;exact⟨c1,h1,λ j hj=>by rw[hc,List.getElem?_append_left (by have:=h1.len;omega)];simp⟩
 | a :: r,row,i+1,e,h,hi=>by
  rw[Ar] at h;obtain⟨c1,c2,hc,h1,h2⟩:=h;obtain⟨cs,k1,k2⟩:=Ar.get h2 (by simpa using hi);refine⟨cs,k1,λ j hj=>?_⟩;have:=h1.len;rw[hc,List.getElem?_append_right (by omega),<-k2 j hj];congr 1;omega
theorem Aq.get{B:AS}{w:World}:∀{l:List CS} {row:AR} {i:Nat} {e:CS},Aq B w l row->l[i]?=some e->∃cs,Ch B w e cs/\∀j,j<9->row[i*9+j]?=cs[j]?
 | [],row,i,e,h,hi=>by simp at hi
 | a :: r,row,0,e,h,hi=>by
  rw[Aq] at h;obtain⟨c1,c2,hc,h1,h2⟩:=h;simp at hi;subst hi;exact⟨c1,h1,λ j hj=>by rw[hc,List.getElem?_append_left (by have:=h1.len;omega)];simp⟩
 | a :: r,row,i+1,e,h,hi=>by
  rw[Aq] at h;obtain⟨c1,c2,hc,h1,h2⟩:=h;obtain⟨cs,k1,k2⟩:=Aq.get h2 (by simpa using hi);refine⟨cs,k1,λ j hj=>?_⟩;have:=h1.len;rw[hc,List.getElem?_append_right (by omega),<-k2 j hj];congr 1;omega
theorem E3.len{B:AS}{e:CF}(h:E3 B w e cs):cs.length=7:=by
 obtain⟨ps,ls,bs,hc,_⟩:=h;rw[hc];rfl
theorem Bm.get{B:AS}{w:World}:∀{l:List CF} {row:AR} {i:Nat} {e:CF},Bm B w l row->l[i]?=some e->∃cs,E3 B w e cs/\∀j,j<7->row[i*7+j]?=cs[j]?
 | [],row,i,e,h,hi=>by simp at hi
 | a :: r,row,0,e,h,hi=>by
  obtain⟨c1,c2,hc,h1,h2⟩:=h;simp at hi;subst hi;exact⟨c1,h1,λ j hj=>by rw[hc,List.getElem?_append_left (by have:=h1.len;omega)];simp⟩
 | a :: r,row,i+1,e,h,hi=>by
  obtain⟨c1,c2,hc,h1,h2⟩:=h;obtain⟨cs,k1,k2⟩:=Bm.get h2 (by simpa using hi);refine⟨cs,k1,λ j hj=>?_⟩;have:=h1.len;rw[hc,List.getElem?_append_right (by omega),<-k2 j hj];congr 1;omega
abbrev As4(k o n:Nat)(t:Lx.B)(s:Nat)(z:Lx.B)(sl:Value):Obj:=.cells #[iv k,iv o,iv n,.string ⟨t.toArray⟩,iv s,.string ⟨z.toArray⟩,sl,iv 0] 48
abbrev Dh(w:World)(k o n:Nat)(t:Lx.B)(s:Nat)(z:Lx.B)(ao:Option Addr)(len cap:Nat)(ao':Option Addr)(cap':Nat):World:=(w.alloc (As4 k o n t s z (.slice ao len cap))).alloc (As4 k o n t s z (.slice ao' len cap'))
theorem U7:∀(N:Nat) (e:CE) (cs cs':AR) (B:AS) (w:World),L7 e<N->Ce B w e cs->Ce B w e cs' ->
  AA 58 #[.agg cs.toArray,.agg cs'.toArray,.bool true] w λ r w'=>r=.returned (.bool true)/\Below w w w':=by
 intro N;induction N with
 | zero=>intro e cs cs' B w hN;omega
 | succ N ih=>
  intro e cs cs' B w hN h1 h2;obtain⟨k,o,n,t,s,z,a⟩:=e;rw[Ce] at h1 h2;obtain⟨sl,row,rfl,hr,ha⟩:=h1;obtain⟨aq,row',rfl,a6,ae⟩:=h2;obtain⟨ao,cap,rfl,hm⟩:=hr.slice;obtain⟨a4,a0,rfl,_⟩:=a6.slice;unfold maxLen at hm;simp only[L7] at hN;have ad:Below w w (Dh w k o n t s z ao a.length cap a4 a0):=((AF _ _).alloc (AD _) _).alloc (by simp) _;have aa:(Dh w k o n t s z ao a.length cap a4 a0).heap.size=w.heap.size+2:=by simp[Dh]
  have a3:∀(q:Nat) (wr:World),q<a.length->Below (Dh w k o n t s z ao a.length cap a4 a0).heap.size (Dh w k o n t s z ao a.length cap a4 a0) wr ->
    ∃g0 o0 g1 o1 u0 u1 u2 u3 u4 u5 u6 u7 v0 v1 v2 v3 v4 v5 v6 v7,ao=some ⟨g0,o0,none⟩/\a4=some ⟨g1,o1,none⟩/\g0<wr.heap.size/\g1<wr.heap.size/\w.heap.size+1<wr.heap.size /\
     wr.cell? ⟨w,6,none⟩=some (.slice ao a.length cap)/\wr.cell? ⟨w.heap.size+1,6,none⟩=some (.slice a4 a.length a0) /\
     (wr.cell? ⟨g0,o0+q*8,none⟩=some u0/\wr.cell? ⟨g0,o0+q*8+1,none⟩=some u1/\wr.cell? ⟨g0,o0+q*8+2,none⟩=some u2/\wr.cell? ⟨g0,o0+q*8+3,none⟩=some u3/\wr.cell? ⟨g0,o0+q*8+4,none⟩=some u4/\wr.cell? ⟨g0,o0+q*8+5,none⟩=some u5/\wr.cell? ⟨g0,o0+q*8+6,none⟩=some u6/\wr.cell? ⟨g0,o0+q*8+7,none⟩=some u7) /\
     (wr.cell? ⟨g1,o1+q*8,none⟩=some v0/\wr.cell? ⟨g1,o1+q*8+1,none⟩=some v1/\wr.cell? ⟨g1,o1+q*8+2,none⟩=some v2/\wr.cell? ⟨g1,o1+q*8+3,none⟩=some v3/\wr.cell? ⟨g1,o1+q*8+4,none⟩=some v4/\wr.cell? ⟨g1,o1+q*8+5,none⟩=some v5/\wr.cell? ⟨g1,o1+q*8+6,none⟩=some v6/\wr.cell? ⟨g1,o1+q*8+7,none⟩=some v7) /\
     ∀m,AA 58 #[.agg #[u0,u1,u2,u3,u4,u5,u6,u7],.agg #[v0,v1,v2,v3,v4,v5,v6,v7],.bool true] (wr.drewN m) λ r w'=>r=.returned (.bool true)/\Below (wr.drewN m).heap.size (wr.drewN m) w':=by
   intro q wr hq hB;obtain⟨x,hx⟩:∃x,a[q]?=some x:=⟨a[q],AN hq⟩;obtain⟨cx,kx,rx⟩:=ha.get hx;obtain⟨cy,ky,ry⟩:=ae.get hx;obtain⟨g0,o0,c0,e0,_,_,_,af,aj⟩:=hr.cells (by omega);obtain⟨g1,o1,c1,e1,_,_,_,ag,am⟩:=a6.cells (by omega);simp only[Value.slice.injEq] at e0 e1;obtain⟨rfl,_,rfl⟩:=e0;obtain⟨rfl,_,rfl⟩:=e1;have a7:Below w w wr:=ad.trans (hB.mono (by omega));have ab:Since B w wr:=⟨a7.size,λ k _ h=>a7.block k h⟩;have ai:=hB.size;have a8:=ih x cx cy B;have al:L7 x<N:=by have:=J6 hx;omega
   have lx:=kx.len;have ly:=ky.len
   match cx,lx,rx,kx with
   | [u0,u1,u2,u3,u4,u5,u6,u7],_,rx,kx=>
    match cy,ly,ry,ky with
    | [v0,v1,v2,v3,v4,v5,v6,v7],_,ry,ky=>
     have f0:∀(j:Nat) (u:Value),j<8->([u0,u1,u2,u3,u4,u5,u6,u7]:AR)[j]?=some u->wr.cell? ⟨g0,o0+q*8+j,none⟩=some u:=by
      intro j u hj hu;rw[Nat.add_assoc,a7.cell (p:=⟨g0,o0+(q*8+j),none⟩) af];exact aj _ _ (by rw[rx j hj];exact hu)
     have f1:∀(j:Nat) (u:Value),j<8->([v0,v1,v2,v3,v4,v5,v6,v7]:AR)[j]?=some u->wr.cell? ⟨g1,o1+q*8+j,none⟩=some u:=by
      intro j u hj hu;rw[Nat.add_assoc,a7.cell (p:=⟨g1,o1+(q*8+j),none⟩) ag];exact am _ _ (by rw[ry j hj];exact hu)
     refine⟨g0,o0,g1,o1,u0,u1,u2,u3,u4,u5,u6,u7,v0,v1,v2,v3,v4,v5,v6,v7,rfl,rfl,by omega,by omega,by omega,?_,?_,⟨f0 0 _ (by omega) rfl,f0 1 _ (by omega) rfl,f0 2 _ (by omega) rfl,f0 3 _ (by omega) rfl,f0 4 _ (by omega) rfl,f0 5 _ (by omega) rfl,f0 6 _ (by omega) rfl,f0 7 _ (by omega) rfl⟩,
      ⟨f1 0 _ (by omega) rfl,f1 1 _ (by omega) rfl,f1 2 _ (by omega) rfl,f1 3 _ (by omega) rfl,f1 4 _ (by omega) rfl,f1 5 _ (by omega) rfl,f1 6 _ (by omega) rfl,f1 7 _ (by omega) rfl⟩,λ m=>?_⟩
     .rw[hB.cell (p:=⟨w,6,none⟩) (by rw[aa];show w.heap.size<_;omega)];simp[Dh]
     .rw[hB.cell (p:=⟨w.heap.size+1,6,none⟩) (by rw[aa];show w.heap.size+1<_;omega)];simp[Dh]
     .exact a8 (wr.drewN m) al (kx.since (ab.trans (Since.drewN B wr m))) (ky.since (ab.trans (Since.drewN B wr m)))
  clear ih ha ae;go_enter func58,ntmps58;go_wp2_with fail
  go_loopg [70] a.length (λ g i wr=>∃q:Nat,q<=a.length/\g=a.length - q/\i=iv q/\Below (Dh w k o n t s z ao a.length cap a4 a0).heap.size (Dh w k o n t s z ao a.length cap a4 a0) wr)
  case atStart=>exact⟨0,AO _,rfl,rfl,AF _ _⟩
  case round=>
   obtain⟨q,hq,rfl,rfl,hB⟩:=hrel;by_cases hlt:q<a.length
   .obtain⟨g0,o0,g1,o1,u0,u1,u2,u3,u4,u5,u6,u7,v0,v1,v2,v3,v4,v5,v6,v7,rfl,rfl,l0,l1,l2,b0,b1,⟨x0,x1,x2,x3,x4,x5,x6,x7⟩,⟨y0,y1,y2,y3,y4,y5,y6,y7⟩,a5⟩:=a3 q wr hlt hB;clear a3 hr a6;have a9:(q:Int)<(a.length:Int):=by omega
    go_upto_region 6 with fail
    go_cut [70,85] from 70 to 86 (λ i v wc=>i=iv q/\v=.bool false/\Below (Dh w k o n t s z (some ⟨g0,o0,none⟩) a.length cap (some ⟨g1,o1,none⟩) a0).heap.size (Dh w k o n t s z (some ⟨g0,o0,none⟩) a.length cap (some ⟨g1,o1,none⟩) a0) wc)
    case first=>
     go_region_with (go_at_call 58;refine (a5 _).mono ?_;rintro e w5 ⟨rfl,ak⟩)
     all_goals (go_wp2_with fail;go_meet;exact⟨rfl,rfl,(cdrewN hB _).trans (ak.mono hB.size)⟩)
    case rest=>
     obtain⟨rfl,rfl,ah⟩:=hcut;go_wp2_with fail;go_roundg (a.length - (q+1))
     case measure=>omega
     case rel=>exact⟨q+1,by omega,rfl,by go_num,ah⟩
   .have a9:¬(q:Int)<(a.length:Int):=by omega
    clear a3 hr a6;go_wp2;go_ret;exact⟨rfl,ad.trans (hB.mono (by omega))⟩
theorem Fe:∀{l:List (List UInt8 × List UInt8)} {i:Nat} {s:List UInt8 × List UInt8},l[i]?=some s->(l.flatMap A1)[i*3]?=some (.string ⟨s.1.toArray⟩)/\(l.flatMap A1)[i*3+1]?=some (.string ⟨s.2.toArray⟩)/\(l.flatMap A1)[i*3+2]?=some (iv 0)
 | [],i,s,h=>by simp at h
 | a :: r,0,s,h=>by simp at h;subst h;simp[A1]
 | a :: r,i+1,s,h=>by
  have ih:=Fe (l:=r) (i:=i) (by simpa using h);have e:(a :: r).flatMap A1=A1 a ++ r.flatMap A1:=by simp
  have hl:(A1 a).length=3:=rfl;rw[e];refine⟨?_,?_,?_⟩
  .rw[List.getElem?_append_right (by omega),hl,show (i+1)*3 - 3=i*3 by omega];exact ih.1
  .rw[List.getElem?_append_right (by omega),hl,show (i+1)*3+1 - 3=i*3+1 by omega];exact ih.2.1
  .rw[List.getElem?_append_right (by omega),hl,show (i+1)*3+2 - 3=i*3+2 by omega];exact ih.2.2
theorem L8(l:List (List UInt8 × List UInt8))(v v':Value)(B:AS)(w:World)(h1:B7 B w l v)(h2:B7 B w l v') :
  AA 29 #[v,v',.bool true] w λ r w'=>r=.returned (.bool true)/\∃m,w'=w.drewN m:=by
 have hr:SlRow B w 3 v l.length (l.flatMap A1):=h1.1;have a5:SlRow B w 3 v' l.length (l.flatMap A1):=h2.1;obtain⟨ao,cap,rfl,hm⟩:=hr.slice;obtain⟨a9,a8,rfl,_⟩:=a5.slice;unfold maxLen at hm;have a0:∀(q:Nat),q<l.length->∃(g0 o0 g1 o1:Nat) (x:List UInt8 × List UInt8),ao=some ⟨g0,o0,none⟩/\a9=some ⟨g1,o1,none⟩ /\
   (w.cell? ⟨g0,o0+q*3,none⟩=some (.string ⟨x.1.toArray⟩)/\w.cell? ⟨g0,o0+q*3+1,none⟩=some (.string ⟨x.2.toArray⟩)/\w.cell? ⟨g0,o0+q*3+2,none⟩=some (iv 0)) /\
   (w.cell? ⟨g1,o1+q*3,none⟩=some (.string ⟨x.1.toArray⟩)/\w.cell? ⟨g1,o1+q*3+1,none⟩=some (.string ⟨x.2.toArray⟩)/\w.cell? ⟨g1,o1+q*3+2,none⟩=some (iv 0)):=by
  intro q hq;obtain⟨x,hx⟩:∃x,l[q]?=some x:=⟨l[q],AN hq⟩;obtain⟨g0,o0,c0,k0,_,_,_,_,a4⟩:=hr.cells (by omega);obtain⟨g1,o1,c1,k1,_,_,_,_,a7⟩:=a5.cells (by omega);simp only[Value.slice.injEq] at k0 k1;obtain⟨a1,a2,a3⟩:=Fe hx;refine⟨g0,o0,g1,o1,x,k0.1,k1.1,⟨a4 _ _ a1,?_,?_⟩,⟨a7 _ _ a1,?_,?_⟩⟩
  .rw[Nat.add_assoc];exact a4 _ _ a2
  .rw[Nat.add_assoc];exact a4 _ _ a3
  .rw[Nat.add_assoc];exact a7 _ _ a2
  .rw[Nat.add_assoc];exact a7 _ _ a3
 clear h1 h2 hr a5;go_enter func29,ntmps29;go_wp2_with fail
 go_loopg [15] l.length (λ g i wr=>∃q:Nat,q<=l.length/\g=l.length - q/\i=iv q/\∃m,wr=w.drewN m)
 case atStart=>exact⟨0,AO _,rfl,rfl,0,rfl⟩
 case round=>
  obtain⟨q,hq,rfl,rfl,mm,rfl⟩:=hrel;by_cases hlt:q<l.length
  .obtain⟨g0,o0,g1,o1,x,rfl,rfl,⟨x0,x1,x2⟩,⟨y0,y1,y2⟩⟩:=a0 q hlt;clear a0;have a6:(q:Int)<(l.length:Int):=by omega
   go_wp2_with fail
   go_quiet (fail)
   go_wp2;go_roundg (l.length - (q+1))
   case measure=>omega
   case rel=>exact⟨q+1,by omega,rfl,by go_num,_,rfl⟩
  .have a6:¬(q:Int)<(l.length:Int):=by omega
   clear a0;go_wp2;go_ret;exact⟨rfl,_,rfl⟩
def Gp(w:World)(b:Nat)(cs:AR):Prop:=b<w/\∀(j:Nat) (u:Value),cs[j]?=some u->w.cell? ⟨b,j,none⟩=some u
theorem Gp.below{B:Nat}(h:Gp w b cs)(m:Below B w w')(hb:b<B):Gp w' b cs:=⟨by have:=m.size;have:=h.1;omega,λ j u hj=>by rw[m.cell (p:=⟨b,j,none⟩) hb];exact h.2 j u hj⟩
theorem Gp.of_heap{cs:Array Value}{fr:Nat × Nat}(h:w.heap[b]?=some (.cells cs T fr)):Gp w b cs.toList:=
 ⟨(AB h).1,λ j u hj=>by rw[Lib.cell_of_heap h];simpa using hj⟩
theorem I0(w:World)(cs:Array Value)(T:TypeId)(o:Obj):((w.alloc (.cells cs T)).alloc o).drew.heap[w.heap.size]?=some (.cells cs T):=by
 show ((w.heap.push _).push _)[w.heap.size]?=_;rw[Array.getElem?_push,if_neg (by simp),Array.getElem?_push,if_pos rfl]
theorem I1(w:World)(cs:Array Value)(T:TypeId)(o:Obj):((w.alloc o).alloc (.cells cs T)).drew.heap[w.heap.size+1]?=some (.cells cs T):=by
 show ((w.heap.push _).push _)[w.heap.size+1]?=_;rw[Array.getElem?_push,if_pos (by simp)]
theorem Fx(h:Below w w wr)(o1 o2:Obj):Below w w ((wr.alloc o1).alloc o2).drew:=
 ((h.alloc h.size _).alloc (by have:=h.size;simp;omega) _).trans ⟨rfl,rfl,rfl,AD _,λ _ _=>rfl⟩
theorem ce_pair{B:AS}{es:List CE}{ao a4:Option Addr}{cap a0:Nat}{row row':AR}(hr:SlRow B w 8 (.slice ao es.length cap) es.length row)(ha:Ar B w es row)(a6:SlRow B w 8 (.slice a4 es.length a0) es.length row')(a9:Ar B w es row')(q:Nat)(hq:q<es.length)(wr:World)(hW:Below w w wr) :
  ∃g0 o0 g1 o1 u0 u1 u2 u3 u4 u5 u6 u7 v0 v1 v2 v3 v4 v5 v6 v7,ao=some ⟨g0,o0,none⟩/\a4=some ⟨g1,o1,none⟩/\g0<wr.heap.size/\g1<wr.heap.size /\
   (wr.cell? ⟨g0,o0+q*8,none⟩=some u0/\wr.cell? ⟨g0,o0+q*8+1,none⟩=some u1/\wr.cell? ⟨g0,o0+q*8+2,none⟩=some u2/\wr.cell? ⟨g0,o0+q*8+3,none⟩=some u3/\wr.cell? ⟨g0,o0+q*8+4,none⟩=some u4/\wr.cell? ⟨g0,o0+q*8+5,none⟩=some u5/\wr.cell? ⟨g0,o0+q*8+6,none⟩=some u6/\wr.cell? ⟨g0,o0+q*8+7,none⟩=some u7) /\
   (wr.cell? ⟨g1,o1+q*8,none⟩=some v0/\wr.cell? ⟨g1,o1+q*8+1,none⟩=some v1/\wr.cell? ⟨g1,o1+q*8+2,none⟩=some v2/\wr.cell? ⟨g1,o1+q*8+3,none⟩=some v3/\wr.cell? ⟨g1,o1+q*8+4,none⟩=some v4/\wr.cell? ⟨g1,o1+q*8+5,none⟩=some v5/\wr.cell? ⟨g1,o1+q*8+6,none⟩=some v6/\wr.cell? ⟨g1,o1+q*8+7,none⟩=some v7) /\
   ∀m,AA 58 #[.agg #[u0,u1,u2,u3,u4,u5,u6,u7],.agg #[v0,v1,v2,v3,v4,v5,v6,v7],.bool true] (wr.drewN m) λ r w'=>r=.returned (.bool true)/\Below (wr.drewN m).heap.size (wr.drewN m) w':=by
 obtain⟨x,hx⟩:∃x,es[q]?=some x:=⟨es[q],AN hq⟩;obtain⟨cx,kx,rx⟩:=ha.get hx;obtain⟨cy,ky,ry⟩:=a9.get hx;obtain⟨g0,o0,c0,e0,_,_,_,a8,a5⟩:=hr.cells (by omega);obtain⟨g1,o1,c1,e1,_,_,_,a7,aa⟩:=a6.cells (by omega);simp only[Value.slice.injEq] at e0 e1;obtain⟨rfl,_,rfl⟩:=e0;obtain⟨rfl,_,rfl⟩:=e1;have a3:Since B w wr:=⟨hW.size,λ k _ h=>hW.block k h⟩;have ab:=hW.size;have lx:=kx.len;have ly:=ky.len
 match cx,lx,rx,kx with
 | [u0,u1,u2,u3,u4,u5,u6,u7],_,rx,kx=>
  match cy,ly,ry,ky with
  | [v0,v1,v2,v3,v4,v5,v6,v7],_,ry,ky=>
   have f0:∀(j:Nat) (u:Value),j<8->([u0,u1,u2,u3,u4,u5,u6,u7]:AR)[j]?=some u->wr.cell? ⟨g0,o0+q*8+j,none⟩=some u:=by
    intro j u hj hu;rw[Nat.add_assoc,hW.cell (p:=⟨g0,o0+(q*8+j),none⟩) a8];exact a5 _ _ (by rw[rx j hj];exact hu)
   have f1:∀(j:Nat) (u:Value),j<8->([v0,v1,v2,v3,v4,v5,v6,v7]:AR)[j]?=some u->wr.cell? ⟨g1,o1+q*8+j,none⟩=some u:=by
    intro j u hj hu;rw[Nat.add_assoc,hW.cell (p:=⟨g1,o1+(q*8+j),none⟩) a7];exact aa _ _ (by rw[ry j hj];exact hu)
   exact⟨g0,o0,g1,o1,u0,u1,u2,u3,u4,u5,u6,u7,v0,v1,v2,v3,v4,v5,v6,v7,rfl,rfl,by omega,by omega,⟨f0 0 _ (by omega) rfl,f0 1 _ (by omega) rfl,f0 2 _ (by omega) rfl,f0 3 _ (by omega) rfl,f0 4 _ (by omega) rfl,f0 5 _ (by omega) rfl,f0 6 _ (by omega) rfl,f0 7 _ (by omega) rfl⟩,
    ⟨f1 0 _ (by omega) rfl,f1 1 _ (by omega) rfl,f1 2 _ (by omega) rfl,f1 3 _ (by omega) rfl,f1 4 _ (by omega) rfl,f1 5 _ (by omega) rfl,f1 6 _ (by omega) rfl,f1 7 _ (by omega) rfl⟩,
    λ m=>U7 _ x _ _ B (wr.drewN m) (Nat.lt_succ_self _) (kx.since (a3.trans (Since.drewN B wr m))) (ky.since (a3.trans (Since.drewN B wr m)))⟩
theorem Vk:∀(N:Nat) (l:List CS) (v v':Value) (B:AS) (w:World),Fw l<N->Ew B w l v->Ew B w l v' ->
  AA 30 #[v,v',.bool true] w λ r w'=>r=.returned (.bool true)/\Below w w w':=by
 intro N;induction N with
 | zero=>intro l v v' B w hN;omega
 | succ N ih=>
  intro l v v' B w hN h1 h2;obtain⟨row,hr,ha⟩:=h1;obtain⟨row',b3,bg⟩:=h2;obtain⟨ao,cap,rfl,hm⟩:=hr.slice;obtain⟨bp,bi,rfl,_⟩:=b3.slice;unfold maxLen at hm;have a0:∀(q:Nat) (wr:World),q<l.length->Below w w wr ->
    ∃(g0 o0 g1 o1 k s nn:Nat) (f:Bool) (e0 e1:Option Addr) (ln ec ak:Nat) (ae ad aj ah:Option Addr) (aw ag az af ax ab ay ai:Nat),ao=some ⟨g0,o0,none⟩/\bp=some ⟨g1,o1,none⟩/\g0<wr/\g1<wr/\ln<=2 ^ 63 - 1 /\
     (wr.cell? ⟨g0,o0+q*9,none⟩=some (iv k)/\wr.cell? ⟨g0,o0+q*9+1,none⟩=some sE/\wr.cell? ⟨g0,o0+q*9+2,none⟩=some (iv s)/\wr.cell? ⟨g0,o0+q*9+3,none⟩=some (.bool f)/\wr.cell? ⟨g0,o0+q*9+4,none⟩=some (iv nn)/\wr.cell? ⟨g0,o0+q*9+5,none⟩=some (.slice e0 ln ec)/\wr.cell? ⟨g0,o0+q*9+6,none⟩=some (.slice ae aw ag)/\wr.cell? ⟨g0,o0+q*9+7,none⟩=some (.slice aj ax ab)/\wr.cell? ⟨g0,o0+q*9+8,none⟩=some (iv 0)) /\
     (wr.cell? ⟨g1,o1+q*9,none⟩=some (iv k)/\wr.cell? ⟨g1,o1+q*9+1,none⟩=some sE/\wr.cell? ⟨g1,o1+q*9+2,none⟩=some (iv s)/\wr.cell? ⟨g1,o1+q*9+3,none⟩=some (.bool f)/\wr.cell? ⟨g1,o1+q*9+4,none⟩=some (iv nn)/\wr.cell? ⟨g1,o1+q*9+5,none⟩=some (.slice e1 ln ak)/\wr.cell? ⟨g1,o1+q*9+6,none⟩=some (.slice ad az af)/\wr.cell? ⟨g1,o1+q*9+7,none⟩=some (.slice ah ay ai)/\wr.cell? ⟨g1,o1+q*9+8,none⟩=some (iv 0)) /\
     (∀(j:Nat) (w1:World),j<ln->Below w w w1->∃g2 o2 g3 o3 u0 u1 u2 u3 u4 u5 u6 u7 v0 v1 v2 v3 v4 v5 v6 v7,e0=some ⟨g2,o2,none⟩/\e1=some ⟨g3,o3,none⟩/\g2<w1.heap.size/\g3<w1.heap.size /\
      (w1.cell? ⟨g2,o2+j*8,none⟩=some u0/\w1.cell? ⟨g2,o2+j*8+1,none⟩=some u1/\w1.cell? ⟨g2,o2+j*8+2,none⟩=some u2/\w1.cell? ⟨g2,o2+j*8+3,none⟩=some u3/\w1.cell? ⟨g2,o2+j*8+4,none⟩=some u4/\w1.cell? ⟨g2,o2+j*8+5,none⟩=some u5/\w1.cell? ⟨g2,o2+j*8+6,none⟩=some u6/\w1.cell? ⟨g2,o2+j*8+7,none⟩=some u7) /\
      (w1.cell? ⟨g3,o3+j*8,none⟩=some v0/\w1.cell? ⟨g3,o3+j*8+1,none⟩=some v1/\w1.cell? ⟨g3,o3+j*8+2,none⟩=some v2/\w1.cell? ⟨g3,o3+j*8+3,none⟩=some v3/\w1.cell? ⟨g3,o3+j*8+4,none⟩=some v4/\w1.cell? ⟨g3,o3+j*8+5,none⟩=some v5/\w1.cell? ⟨g3,o3+j*8+6,none⟩=some v6/\w1.cell? ⟨g3,o3+j*8+7,none⟩=some v7) /\
      ∀m,AA 58 #[.agg #[u0,u1,u2,u3,u4,u5,u6,u7],.agg #[v0,v1,v2,v3,v4,v5,v6,v7],.bool true] (w1.drewN m) λ r w'=>r=.returned (.bool true)/\Below (w1.drewN m).heap.size (w1.drewN m) w') /\
     (∀w1,Below w w w1->AA 30 #[.slice ae aw ag,.slice ad az af,.bool true] w1 λ r w'=>r=.returned (.bool true)/\Below w1 w1 w') /\
     (∀w1,Below w w w1->AA 30 #[.slice aj ax ab,.slice ah ay ai,.bool true] w1 λ r w'=>r=.returned (.bool true)/\Below w1 w1 w'):=by
   intro q wr hq hW;obtain⟨x,hx⟩:∃x,l[q]?=some x:=⟨l[q],AN hq⟩;obtain⟨cx,kx,rx⟩:=ha.get hx;obtain⟨cy,ky,ry⟩:=bg.get hx;have bo:=J7 hx;obtain⟨k,s,f,nn,es,b,c⟩:=x;simp only[U6] at bo;rw[Ch] at kx ky;obtain⟨s1,s2,s3,r1,r2,r3,rfl,a1,a2,a3,a4,a5,a6⟩:=kx;obtain⟨t1,t2,t3,q1,q2,q3,rfl,d1,d2,d3,d4,d5,d6⟩:=ky;obtain⟨e0,ec,rfl,b4⟩:=a1.slice;obtain⟨e1,ak,rfl,_⟩:=d1.slice;unfold maxLen at b4;obtain⟨ae,ag,rfl,_⟩:=a3.slice;obtain⟨ad,af,rfl,_⟩:=d3.slice;obtain⟨aj,ab,rfl,_⟩:=a5.slice;obtain⟨ah,ai,rfl,_⟩:=d5.slice;obtain⟨g0,o0,z0,y0,_,_,_,bh,bk⟩:=hr.cells (by omega);obtain⟨g1,o1,z1,y1,_,_,_,bj,bq⟩:=b3.cells (by omega);simp only[Value.slice.injEq] at y0 y1;obtain⟨rfl,_,rfl⟩:=y0;obtain⟨rfl,_,rfl⟩:=y1;have br:=hW.size;have f0:∀(j:Nat) (u:Value),j<9->([iv k,sE,iv s,.bool f,iv nn,.slice e0 es.length ec,.slice ae b.length ag,.slice aj c.length ab,iv 0]:AR)[j]?=some u->wr.cell? ⟨g0,o0+q*9+j,none⟩=some u:=by
    intro j u hj hu;rw[Nat.add_assoc,hW.cell (p:=⟨g0,o0+(q*9+j),none⟩) bh];exact bk _ _ (by rw[rx j hj];exact hu)
   have f1:∀(j:Nat) (u:Value),j<9->([iv k,sE,iv s,.bool f,iv nn,.slice e1 es.length ak,.slice ad b.length af,.slice ah c.length ai,iv 0]:AR)[j]?=some u->wr.cell? ⟨g1,o1+q*9+j,none⟩=some u:=by
    intro j u hj hu;rw[Nat.add_assoc,hW.cell (p:=⟨g1,o1+(q*9+j),none⟩) bj];exact bq _ _ (by rw[ry j hj];exact hu)
   refine⟨g0,o0,g1,o1,k,s,nn,f,e0,e1,es.length,ec,ak,ae,ad,aj,ah,b.length,ag,b.length,af,c.length,ab,c.length,ai,rfl,rfl,by omega,by omega,b4,⟨f0 0 _ (by omega) rfl,f0 1 _ (by omega) rfl,f0 2 _ (by omega) rfl,f0 3 _ (by omega) rfl,f0 4 _ (by omega) rfl,f0 5 _ (by omega) rfl,f0 6 _ (by omega) rfl,f0 7 _ (by omega) rfl,f0 8 _ (by omega) rfl⟩,
    ⟨f1 0 _ (by omega) rfl,f1 1 _ (by omega) rfl,f1 2 _ (by omega) rfl,f1 3 _ (by omega) rfl,f1 4 _ (by omega) rfl,f1 5 _ (by omega) rfl,f1 6 _ (by omega) rfl,f1 7 _ (by omega) rfl,f1 8 _ (by omega) rfl⟩,?_,?_,?_⟩
   .intro j w1 hj hW1;exact ce_pair a1 a2 d1 d2 j hj w1 hW1
   .intro w1 hW1;have aa:Since B w w1:=⟨hW1.size,λ k _ h=>hW1.block k h⟩;exact ih b _ _ B w1 (by omega) ⟨r2,a3.since aa,a4.since aa⟩ ⟨q2,d3.since aa,d4.since aa⟩
   .intro w1 hW1;have aa:Since B w w1:=⟨hW1.size,λ k _ h=>hW1.block k h⟩;exact ih c _ _ B w1 (by omega) ⟨r3,a5.since aa,a6.since aa⟩ ⟨q3,d5.since aa,d6.since aa⟩
  clear ih ha bg hr b3;go_enter func30,ntmps30;go_wp2_with fail
  go_loopg [18] l.length (λ g i wr=>∃q:Nat,q<=l.length/\g=l.length - q/\i=iv q/\Below w w wr)
  case atStart=>exact⟨0,AO _,rfl,rfl,AF _ _⟩
  case round=>
   obtain⟨q,hq,rfl,rfl,hW⟩:=hrel;by_cases hlt:q<l.length
   .obtain⟨g0,o0,g1,o1,k,s,nn,f,e0,e1,ln,ec,ak,ae,ad,aj,ah,aw,ag,az,af,ax,ab,ay,ai,rfl,rfl,l0,l1,b4,⟨x0,x1,x2,x3,x4,x5,x6,x7,x8⟩,⟨y0,y1,y2,y3,y4,y5,y6,y7,y8⟩,a7,b6,bc⟩:=a0 q wr hlt hW;clear a0;have b7:(q:Int)<(l.length:Int):=by omega
    go_upto_region 6 with fail
    go_cut [8,9,18] from 18 to 117 (λ s8 s9 i wc=>i=iv q/\∃b8 b9,s8=pt b8 0/\s9=pt b9 0/\Gp wc b8 [iv k,sE,iv s,.bool f,iv nn,.slice e0 ln ec,.slice ae aw ag,.slice aj ax ab,iv 0]/\Gp wc b9 [iv k,sE,iv s,.bool f,iv nn,.slice e1 ln ak,.slice ad az af,.slice ah ay ai,iv 0]/\Below w w wc)
    case first=>
     go_region
     all_goals (go_wp2_with fail;go_meet)
     all_goals first
      | exact⟨rfl,_,_,rfl,rfl,Gp.of_heap (I0 _ _ _ _),Gp.of_heap (I1 _ _ _ _),Fx hW _ _⟩
      | exact⟨rfl,_,_,rfl,rfl,Gp.of_heap (I1 _ _ _ _),Gp.of_heap (I0 _ _ _ _),Fx hW _ _⟩
    case rest=>
     obtain⟨rfl,b8,b9,rfl,rfl,a9,a8,ba⟩:=hcut;have d0:=a9.2 0 _ rfl;have d1:=a9.2 1 _ rfl;have d2:=a9.2 2 _ rfl;have d3:=a9.2 3 _ rfl;have d4:=a9.2 4 _ rfl;have d5:=a9.2 5 _ rfl;have d8:=a9.2 8 _ rfl;have f0:=a8.2 0 _ rfl;have f1:=a8.2 1 _ rfl;have f2:=a8.2 2 _ rfl;have f3:=a8.2 3 _ rfl;have f4:=a8.2 4 _ rfl;have f5:=a8.2 5 _ rfl;have f8:=a8.2 8 _ rfl;have j8:=a9.1;have j9:=a8.1;clear x0 x1 x2 x3 x4 x5 x6 x7 x8 y0 y1 y2 y3 y4 y5 y6 y7 y8;go_wp2_with fail;clear d0 d1 d2 d3 d4 d5 d8 f0 f1 f2 f3 f4 f5 f8
     go_loopg [84] ln (λ g i wz=>∃j:Nat,j<=ln/\g=ln - j/\i=iv j/\Below wc wc wz)
     case atStart=>exact⟨0,AO _,rfl,rfl,AF _ _⟩
     case round=>
      obtain⟨j,hj,rfl,rfl,ar⟩:=hrel;have b0:Below w w wr:=ba.trans (ar.mono ba.size);have al:=a9.below ar j8;have am:=a8.below ar j9;have i8:=al.1;have i9:=am.1;by_cases hlt2:j<ln
      .obtain⟨g2,o2,g3,o3,u0,u1,u2,u3,u4,u5,u6,u7,v0,v1,v2,v3,v4,v5,v6,v7,rfl,rfl,m0,m1,⟨x0,x1,x2,x3,x4,x5,x6,x7⟩,⟨y0,y1,y2,y3,y4,y5,y6,y7⟩,aq⟩:=a7 j wr hlt2 b0;have d5:=al.2 5 _ rfl;have f5:=am.2 5 _ rfl;have av:(j:Int)<(ln:Int):=by omega
       clear a7 b6 bc al am a9 a8
       go_upto_region 12 with fail
       go_cut [84,99] from 84 to 100 (λ i v wq=>i=iv j/\v=.bool false/\Below wc wc wq)
       case first=>
        go_region_with (go_at_call 58;refine (aq _).mono ?_;rintro e w5 ⟨rfl,au⟩)
        all_goals (go_wp2_with fail;go_meet;exact⟨rfl,rfl,(cdrewN ar _).trans (au.mono ar.size)⟩)
       case rest=>
        obtain⟨rfl,rfl,bn⟩:=hcut;go_wp2_with fail;go_roundg (ln - (j+1))
        case measure=>omega
        case rel=>exact⟨j+1,by omega,rfl,by go_num,bn⟩
      .have av:¬(j:Int)<(ln:Int):=by omega
       have d6:=al.2 6 _ rfl;have d7:=al.2 7 _ rfl;have f6:=am.2 6 _ rfl;have f7:=am.2 7 _ rfl;clear a7 a9 a8;go_wp2_with fail;refine (b6 wr b0).mono ?_;rintro e w5 ⟨rfl,au⟩;have bb:=al.below au i8;have bf:=am.below au i9;replace d7:=bb.2 7 _ rfl;replace f7:=bf.2 7 _ rfl;have t8:=bb.1;have t9:=bf.1;have b5:Below w w w5:=b0.trans (au.mono b0.size);clear d6 f6 b6;go_wp2_with fail;refine (bc w5 b5).mono ?_;rintro e w6 ⟨rfl,bl⟩;go_wp2_with fail;go_roundg (l.length - (q+1))
       case measure=>omega
       case rel=>exact⟨q+1,by omega,rfl,by go_num,b5.trans (bl.mono b5.size)⟩
   .have b7:¬(q:Int)<(l.length:Int):=by omega
    clear a0;go_wp2;go_ret;exact⟨rfl,hW⟩
def Bc9(B:AS)(w:World)(fa:Option Addr)(n:Nat)(f:CF):Prop:=∃(g o pc lc bc:Nat) (pa la ba:Option Addr),fa=some ⟨g,o,none⟩/\g<w /\
 (w.cell? ⟨g,o+n*7,none⟩=some (.string ⟨f.name.toArray⟩)/\w.cell? ⟨g,o+n*7+1,none⟩=some (.bool f.on)/\w.cell? ⟨g,o+n*7+2,none⟩=some (.slice pa f.params.length pc)/\w.cell? ⟨g,o+n*7+3,none⟩=some (.string ⟨f.result.toArray⟩)/\w.cell? ⟨g,o+n*7+4,none⟩=some (.slice la f.locals.length lc)/\w.cell? ⟨g,o+n*7+5,none⟩=some (.slice ba f.body.length bc)/\w.cell? ⟨g,o+n*7+6,none⟩=some (iv 0)) /\
 B7 B w f.params (.slice pa f.params.length pc)/\Hi B w f.locals (.slice la f.locals.length lc)/\Ew B w f.body (.slice ba f.body.length bc)
theorem SlRow.n_le{B:AS}{n:Nat}{row:AR}(h:SlRow B w sz v n row):n<=9223372036854775807:=by
 obtain⟨_,_,_,hm⟩:=h.slice;unfold maxLen at hm;omega
theorem Dg.at{B:AS}{w:World}{c:CP}{V:Int}{sa fa:Option Addr}{sn sc fn fc:Nat}(h:Dg B w c (.agg #[iv V,.slice sa sn sc,.slice fa fn fc])):V=c.version/\sn=c.states.length/\fn=c.fns.length/\sn<=9223372036854775807/\fn<=9223372036854775807/\B7 B w c.states (.slice sa c.states.length sc)/\∀n f,c.fns[n]?=some f->Bc9 B w fa n f:=by
 obtain⟨ss,fs,e,h1,row,h2,h3⟩:=h;simp only[Value.agg.injEq,Array.mk.injEq,List.cons.injEq,and_true,Value.int.injEq,true_and] at e;obtain⟨e1,rfl,rfl⟩:=e;have a0:SlRow B w 3 (.slice sa sn sc) c.states.length (c.states.flatMap A1):=h1.1;obtain⟨a1,b1,k1,a9⟩:=a0.slice;obtain⟨a2,b2,k2,aa⟩:=h2.slice;simp only[Value.slice.injEq] at k1 k2;obtain⟨rfl,rfl,rfl⟩:=k1;obtain⟨rfl,rfl,rfl⟩:=k2;refine⟨e1,rfl,rfl,a0.n_le,h2.1.n_le,h1,λ n f hf=>?_⟩;have hn:n<c.fns.length:=(AK hf).1;obtain⟨cx,⟨ps,lv,bs,rfl,kp,kl,kb⟩,rx⟩:=h3.get hf;have a5:SlRow B w 3 ps f.params.length (f.params.flatMap A1):=kp.1;have a7:SlRow B w 1 lv f.locals.length (f.locals.map λ t=>.string ⟨t.toArray⟩):=kl;obtain⟨rb,a3,a8⟩:=kb;obtain⟨la,lc,rfl,-⟩:=a7.slice;obtain⟨pa,pc,rfl,-⟩:=a5.slice;obtain⟨ba,bc,rfl,-⟩:=a3.slice;obtain⟨g0,o0,z0,y0,_,_,_,a6,a4⟩:=h2.cells (by omega);simp only[Value.slice.injEq] at y0;obtain⟨rfl,_,rfl⟩:=y0;have f0:∀(j:Nat) (u:Value),j<7->([.string ⟨f.name.toArray⟩,.bool f.on,.slice pa f.params.length pc,.string ⟨f.result.toArray⟩,.slice la f.locals.length lc,.slice ba f.body.length bc,iv 0]:AR)[j]?=some u->w.cell? ⟨g0,o0+n*7+j,none⟩=some u:=by
  intro j u hj hu;rw[Nat.add_assoc];exact a4 _ _ (by rw[rx j hj];exact hu)
 exact⟨g0,o0,pc,lc,bc,pa,la,ba,rfl,a6,⟨f0 0 _ (by omega) rfl,f0 1 _ (by omega) rfl,f0 2 _ (by omega) rfl,f0 3 _ (by omega) rfl,f0 4 _ (by omega) rfl,f0 5 _ (by omega) rfl,f0 6 _ (by omega) rfl⟩,kp,kl,⟨rb,a3,a8⟩⟩
theorem Ai7{B:AS}{l:List (Lx.B × Lx.B)}{la:Option Addr}{ln lc:Nat}(h:B7 B w l (.slice la ln lc)){t:Lx.B × Lx.B}(hi:l[i]?=some t):∃g o,la=some ⟨g,o,none⟩/\g<w.heap.size/\w.cell? ⟨g,o+i*3,none⟩=some (.string ⟨t.1.toArray⟩)/\w.cell? ⟨g,o+i*3+1,none⟩=some (.string ⟨t.2.toArray⟩)/\w.cell? ⟨g,o+i*3+2,none⟩=some (iv 0):=by
 have h':SlRow B w 3 (.slice la ln lc) l.length (l.flatMap A1):=h.1;have hn:i<l.length:=(AK hi).1;obtain⟨g,o,z,y,_,_,_,hg,hc⟩:=h'.cells (by omega);simp only[Value.slice.injEq] at y;obtain⟨k1,k2,k3⟩:=Fe hi;exact⟨g,o,y.1,hg,hc _ _ k1,by rw[Nat.add_assoc];exact hc _ _ k2,by rw[Nat.add_assoc];exact hc _ _ k3⟩
theorem Bm.keep{B:AS}{w w':World}(s:Since B w w'):∀{l:List CF} {cs:AR},Bm B w l cs->Bm B w' l cs
 | [],cs,h=>h
 | e :: r,cs,h=>by
  obtain⟨c1,c2,hc,⟨ps,ls,bs,h0,h1,h2,row,h3,h4⟩,h5⟩:=h;exact⟨c1,c2,hc,⟨ps,ls,bs,h0,Cq.since h1 s,SlRow.since h2 s,row,h3.since s,h4.since s⟩,Bm.keep s h5⟩
theorem Dg.keep{B:AS}(s:Since B w w'){c:CP}(h:Dg B w c v):Dg B w' c v:=by
 obtain⟨ss,fs,e,h1,row,h2,h3⟩:=h;exact⟨ss,fs,e,Cq.since h1 s,row,h2.since s,Bm.keep s h3⟩
theorem B7.slice{B:AS}{l:List (List UInt8 × List UInt8)}(h:B7 B w l v):∃ao cap,v=.slice ao l.length cap:=by
 obtain⟨ao,cap,e,_⟩:=Cq.slice h;exact⟨ao,cap,e⟩
theorem Ew.slice{B:AS}{l:List CS}(h:Ew B w l v):∃ao cap,v=.slice ao l.length cap:=by
 obtain⟨row,h,_⟩:=h;obtain⟨ao,cap,e,_⟩:=SlRow.slice h;exact⟨ao,cap,e⟩
theorem Vl(p:CP)(v v':Value)(B:AS)(w:World)(h1:Dg B w p v)(h2:Dg B w p v') :
  AA 12 #[v,v',.bool true] w λ r w'=>r=.returned (.bool true)/\Below w w w':=by
 obtain⟨ss,fs,rfl,az,row,hr,ha⟩:=h1;obtain⟨c5,bx,rfl,ae,row',av,bi⟩:=h2;obtain⟨sa,sc,rfl⟩:=az.slice;obtain⟨ah,aa,rfl⟩:=ae.slice;obtain⟨ao,cap,rfl,hm⟩:=hr.slice;obtain⟨aj,a3,rfl,_⟩:=av.slice;unfold maxLen at hm;have a5:∀w1,Since B w w1->AA 29 #[.slice sa p.states.length sc,.slice ah p.states.length aa,.bool true] w1 λ r w'=>r=.returned (.bool true)/\∃m,w'=w1.drewN m:=λ w1 hS=>L8 p.states _ _ B w1 (az.since hS) (ae.since hS)
 have a0:∀(q:Nat) (wr:World),q<p.fns.length->Below w w wr ->
   ∃(g0 o0 g1 o1:Nat) (nm rs:Lx.B) (on:Bool) (pa af la ag ba ai:Option Addr) (pn pc au ad ln lc ak bn bc ar a9:Nat),ao=some ⟨g0,o0,none⟩/\aj=some ⟨g1,o1,none⟩/\g0<wr/\g1<wr/\ln<=2 ^ 63 - 1 /\
    (wr.cell? ⟨g0,o0+q*7,none⟩=some (.string ⟨nm.toArray⟩)/\wr.cell? ⟨g0,o0+q*7+1,none⟩=some (.bool on)/\wr.cell? ⟨g0,o0+q*7+2,none⟩=some (.slice pa pn pc)/\wr.cell? ⟨g0,o0+q*7+3,none⟩=some (.string ⟨rs.toArray⟩)/\wr.cell? ⟨g0,o0+q*7+4,none⟩=some (.slice la ln lc)/\wr.cell? ⟨g0,o0+q*7+5,none⟩=some (.slice ba bn bc)/\wr.cell? ⟨g0,o0+q*7+6,none⟩=some (iv 0)) /\
    (wr.cell? ⟨g1,o1+q*7,none⟩=some (.string ⟨nm.toArray⟩)/\wr.cell? ⟨g1,o1+q*7+1,none⟩=some (.bool on)/\wr.cell? ⟨g1,o1+q*7+2,none⟩=some (.slice af au ad)/\wr.cell? ⟨g1,o1+q*7+3,none⟩=some (.string ⟨rs.toArray⟩)/\wr.cell? ⟨g1,o1+q*7+4,none⟩=some (.slice ag ln ak)/\wr.cell? ⟨g1,o1+q*7+5,none⟩=some (.slice ai ar a9)/\wr.cell? ⟨g1,o1+q*7+6,none⟩=some (iv 0)) /\
    (∀(j:Nat) (w1:World),j<ln->Below w w w1->∃g2 o2 g3 o3 t,la=some ⟨g2,o2,none⟩/\ag=some ⟨g3,o3,none⟩/\g2<w1.heap.size/\g3<w1.heap.size/\w1.cell? ⟨g2,o2+j,none⟩=some (.string t)/\w1.cell? ⟨g3,o3+j,none⟩=some (.string t)) /\
    (∀w1,Below w w w1->AA 29 #[.slice pa pn pc,.slice af au ad,.bool true] w1 λ r w'=>r=.returned (.bool true)/\∃m,w'=w1.drewN m) /\
    (∀w1,Below w w w1->AA 30 #[.slice ba bn bc,.slice ai ar a9,.bool true] w1 λ r w'=>r=.returned (.bool true)/\Below w1 w1 w'):=by
  intro q wr hq hW;obtain⟨x,hx⟩:∃x,p.fns[q]?=some x:=⟨p.fns[q],AN hq⟩;obtain⟨cx,⟨ps,lv,bs,rfl,kp,kl,kb⟩,rx⟩:=ha.get hx;obtain⟨cy,⟨c4,lv',bs',rfl,b5,bu,b7⟩,ry⟩:=bi.get hx;have bf:SlRow B w 1 lv x.locals.length (x.locals.map λ t=>.string ⟨t.toArray⟩):=kl;have b4:SlRow B w 1 lv' x.locals.length (x.locals.map λ t=>.string ⟨t.toArray⟩):=bu;obtain⟨la,lc,rfl,bh⟩:=bf.slice;obtain⟨ag,ak,rfl,_⟩:=b4.slice;unfold maxLen at bh;obtain⟨pa,pc,rfl⟩:=kp.slice;obtain⟨af,ad,rfl⟩:=b5.slice;obtain⟨ba,bc,rfl⟩:=kb.slice;obtain⟨ai,a9,rfl⟩:=b7.slice;obtain⟨g0,o0,z0,y0,_,_,_,bk,br⟩:=hr.cells (by omega);obtain⟨g1,o1,z1,y1,_,_,_,bo,bw⟩:=av.cells (by omega);simp only[Value.slice.injEq] at y0 y1;obtain⟨rfl,_,rfl⟩:=y0;obtain⟨rfl,_,rfl⟩:=y1;have c0:=hW.size;have f0:∀(j:Nat) (u:Value),j<7->([.string ⟨x.name.toArray⟩,.bool x.on,.slice pa x.params.length pc,.string ⟨x.result.toArray⟩,.slice la x.locals.length lc,.slice ba x.body.length bc,iv 0]:AR)[j]?=some u->wr.cell? ⟨g0,o0+q*7+j,none⟩=some u:=by
   intro j u hj hu;rw[Nat.add_assoc,hW.cell (p:=⟨g0,o0+(q*7+j),none⟩) bk];exact br _ _ (by rw[rx j hj];exact hu)
  have f1:∀(j:Nat) (u:Value),j<7->([.string ⟨x.name.toArray⟩,.bool x.on,.slice af x.params.length ad,.string ⟨x.result.toArray⟩,.slice ag x.locals.length ak,.slice ai x.body.length a9,iv 0]:AR)[j]?=some u->wr.cell? ⟨g1,o1+q*7+j,none⟩=some u:=by
   intro j u hj hu;rw[Nat.add_assoc,hW.cell (p:=⟨g1,o1+(q*7+j),none⟩) bo];exact bw _ _ (by rw[ry j hj];exact hu)
  refine⟨g0,o0,g1,o1,x.name,x.result,x.on,pa,af,la,ag,ba,ai,x.params.length,pc,x.params.length,ad,x.locals.length,lc,ak,x.body.length,bc,x.body.length,a9,rfl,rfl,by omega,by omega,bh,⟨f0 0 _ (by omega) rfl,f0 1 _ (by omega) rfl,f0 2 _ (by omega) rfl,f0 3 _ (by omega) rfl,f0 4 _ (by omega) rfl,f0 5 _ (by omega) rfl,f0 6 _ (by omega) rfl⟩,
   ⟨f1 0 _ (by omega) rfl,f1 1 _ (by omega) rfl,f1 2 _ (by omega) rfl,f1 3 _ (by omega) rfl,f1 4 _ (by omega) rfl,f1 5 _ (by omega) rfl,f1 6 _ (by omega) rfl⟩,?_,?_,?_⟩
  .intro j w1 hj hW1;obtain⟨g2,o2,c2,k2,_,_,_,bv,bp⟩:=bf.cells (by omega);obtain⟨g3,o3,c3,k3,_,_,_,bl,bq⟩:=b4.cells (by omega);simp only[Value.slice.injEq] at k2 k3;have am:(x.locals.map λ t=>(.string ⟨t.toArray⟩:Value))[j]?=some (.string ⟨(x.locals[j]).toArray⟩):=by rw[List.getElem?_map,List.getElem?_eq_getElem hj];rfl
   refine⟨g2,o2,g3,o3,⟨(x.locals[j]).toArray⟩,k2.1,k3.1,by have:=hW1.size;omega,by have:=hW1.size;omega,?_,?_⟩
   .rw[hW1.cell (p:=⟨g2,o2+j,none⟩) bv];exact bp _ _ am
   .rw[hW1.cell (p:=⟨g3,o3+j,none⟩) bl];exact bq _ _ am
  .intro w1 hW1;have ab:Since B w w1:=⟨hW1.size,λ k _ h=>hW1.block k h⟩;exact L8 x.params _ _ B w1 (kp.since ab) (b5.since ab)
  .intro w1 hW1;have ab:Since B w w1:=⟨hW1.size,λ k _ h=>hW1.block k h⟩;obtain⟨r1,t1,t2⟩:=kb;obtain⟨r2,t3,t4⟩:=b7;exact Vk _ x.body _ _ B w1 (Nat.lt_succ_self _) ⟨r1,t1.since ab,t2.since ab⟩ ⟨r2,t3.since ab,t4.since ab⟩
 have ay:∀o1 o2,Below w w ((w.alloc o1).alloc o2):=λ o1 o2=>((AF _ _).alloc (AD _) _).alloc (by simp) _
 have al:∀o1 o2,AA 29 #[.slice sa p.states.length sc,.slice ah p.states.length aa,.bool true] ((w.alloc o1).alloc o2) λ r w'=>r=.returned (.bool true)/\∃m,w'=((w.alloc o1).alloc o2).drewN m:=λ o1 o2=>a5 _ (Since.of_below (ay o1 o2))
 clear a5 ha bi hr av az ae;generalize p.version=ver at *;generalize p.states.length=sn at *;go_enter func12,ntmps12;go_wp2_with (go_at_call 29;refine (al _ _).mono ?_;rintro e w1 ⟨rfl,m1,rfl⟩);have q0:(((w.alloc (.cells #[iv ver,.slice sa sn sc,.slice ao p.fns.length cap] 26)).alloc (.cells #[iv ver,.slice ah sn aa,.slice aj p.fns.length a3] 26)).drewN m1).cell? ⟨w,2,none⟩=some (.slice ao p.fns.length cap):=by simp
 have q1:(((w.alloc (.cells #[iv ver,.slice sa sn sc,.slice ao p.fns.length cap] 26)).alloc (.cells #[iv ver,.slice ah sn aa,.slice aj p.fns.length a3] 26)).drewN m1).cell? ⟨w.heap.size+1,2,none⟩=some (.slice aj p.fns.length a3):=by simp
 have q2:w.heap.size+1<(((w.alloc (.cells #[iv ver,.slice sa sn sc,.slice ao p.fns.length cap] 26)).alloc (.cells #[iv ver,.slice ah sn aa,.slice aj p.fns.length a3] 26)).drewN m1).heap.size:=by simp
 have q3:Below w w (((w.alloc (.cells #[iv ver,.slice sa sn sc,.slice ao p.fns.length cap] 26)).alloc (.cells #[iv ver,.slice ah sn aa,.slice aj p.fns.length a3] 26)).drewN m1):=cdrewN (ay _ _) _;generalize (((w.alloc (.cells #[iv ver,.slice sa sn sc,.slice ao p.fns.length cap] 26)).alloc (.cells #[iv ver,.slice ah sn aa,.slice aj p.fns.length a3] 26)).drewN m1)=wb at *;clear al ay;have qA:w<wb.heap.size:=by omega
 generalize w.heap.size+1=bB at *
 go_loopg [37] p.fns.length (λ g i wr=>∃q:Nat,q<=p.fns.length/\g=p.fns.length - q/\i=iv q/\Below wb wb wr)
 case atStart=>exact⟨0,AO _,rfl,rfl,AF _ _⟩
 case round=>
  obtain⟨q,hq,rfl,rfl,hB⟩:=hrel;have hW:Below w w wr:=q3.trans (hB.mono q3.size);by_cases hlt:q<p.fns.length
  .obtain⟨g0,o0,g1,o1,nm,rs,on,pa,af,la,ag,ba,ai,pn,pc,au,ad,ln,lc,ak,bn,bc,ar,a9,rfl,rfl,l0,l1,c1,⟨x0,x1,x2,x3,x4,x5,x6⟩,⟨y0,y1,y2,y3,y4,y5,y6⟩,ax,bb,bg⟩:=a0 q wr hlt hW;clear a0;have b0:(q:Int)<(p.fns.length:Int):=by omega
   have z0:=(hB.cell (p:=⟨w,2,none⟩) qA).trans q0;have z1:=(hB.cell (p:=⟨bB,2,none⟩) q2).trans q1;have z2:bB<wr:=by have:=hB.size;omega
   have z3:w<wr.heap.size:=by have:=hB.size;omega
   go_upto_region 6 with fail
   go_cut [8,9,37] from 37 to 122 (λ s8 s9 i wc=>i=iv q/\∃b8 b9,s8=pt b8 0/\s9=pt b9 0/\Gp wc b8 [.string ⟨nm.toArray⟩,.bool on,.slice pa pn pc,.string ⟨rs.toArray⟩,.slice la ln lc,.slice ba bn bc,iv 0]/\Gp wc b9 [.string ⟨nm.toArray⟩,.bool on,.slice af au ad,.string ⟨rs.toArray⟩,.slice ag ln ak,.slice ai ar a9,iv 0]/\Below wb wb wc)
   case first=>
    go_region
    all_goals (go_wp2_with fail;go_meet)
    all_goals first
     | exact⟨rfl,_,_,rfl,rfl,Gp.of_heap (I0 _ _ _ _),Gp.of_heap (I1 _ _ _ _),Fx hB _ _⟩
     | exact⟨rfl,_,_,rfl,rfl,Gp.of_heap (I1 _ _ _ _),Gp.of_heap (I0 _ _ _ _),Fx hB _ _⟩
   case rest=>
    obtain⟨rfl,b8,b9,rfl,rfl,a8,a7,b6⟩:=hcut;have bj:Below w w wc:=q3.trans (b6.mono q3.size);have d0:=a8.2 0 _ rfl;have d1:=a8.2 1 _ rfl;have d2:=a8.2 2 _ rfl;have d3:=a8.2 3 _ rfl;have d4:=a8.2 4 _ rfl;have d6:=a8.2 6 _ rfl;have f0:=a7.2 0 _ rfl;have f1:=a7.2 1 _ rfl;have f2:=a7.2 2 _ rfl;have f3:=a7.2 3 _ rfl;have f4:=a7.2 4 _ rfl;have f6:=a7.2 6 _ rfl;have d5:=a8.2 5 _ rfl;have f5:=a7.2 5 _ rfl;have j8:=a8.1;have j9:=a7.1;clear x0 x1 x2 x3 x4 x5 x6 y0 y1 y2 y3 y4 y5 y6 z0 z1 z2 q0 q1 q2;go_wp2_with fail;refine (bb wc bj).mono ?_;rintro e w1 ⟨rfl,m5,rfl⟩;go_wp2_with fail;have a4:=a8.below (AF wc wc |> λ h=>cdrewN h m5) j8;have a6:=a7.below (AF wc wc |> λ h=>cdrewN h m5) j9;have aw:=cdrewN b6 m5;generalize wc.drewN m5=wd at *;clear a8 a7 d0 d1 d2 d3 d4 d5 d6 f0 f1 f2 f3 f4 f5 f6;have b3:Below w w wd:=q3.trans (aw.mono q3.size)
    go_loopg [100] ln (λ g i wz=>∃j:Nat,j<=ln/\g=ln - j/\i=iv j/\∃m,wz=wd.drewN m)
    case atStart=>exact⟨0,AO _,rfl,rfl,0,rfl⟩
    case round=>
     obtain⟨j,hj,rfl,rfl,mm,rfl⟩:=hrel;have d4:=a4.2 4 _ rfl;have f4:=a6.2 4 _ rfl;have i8:=a4.1;have i9:=a6.1;by_cases hlt2:j<ln
     .obtain⟨g2,o2,g3,o3,t,rfl,rfl,m0,m1,k0,k1⟩:=ax j wd hlt2 b3;have aq:(j:Int)<(ln:Int):=by omega
      clear ax bb bg a4 a6;go_wp2_with fail
      go_quiet (fail)
      go_wp2;go_roundg (ln - (j+1))
      case measure=>omega
      case rel=>exact⟨j+1,by omega,rfl,by go_num,_,rfl⟩
     .have aq:¬(j:Int)<(ln:Int):=by omega
      have d5:=a4.2 5 _ rfl;have f5:=a6.2 5 _ rfl;clear ax a4 a6;go_wp2_with fail;refine (bg (wd.drewN mm) (cdrewN b3 mm)).mono ?_;rintro e w6 ⟨rfl,bt⟩;go_wp2_with fail;go_roundg (p.fns.length - (q+1))
      case measure=>omega
      case rel=>exact⟨q+1,by omega,rfl,by go_num,(cdrewN aw mm).trans (bt.mono aw.size)⟩
  .have b0:¬(q:Int)<(p.fns.length:Int):=by omega
   clear a0;go_wp2;go_ret;exact⟨rfl,hW⟩
end
end Go.Proofs.YtpckmjfabiallaaGreatDoor
