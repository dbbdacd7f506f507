/- Texts of ours, joined. -/
import Derived.Test.YtpckmjfabiallaaGreatDoorH11
import Derived.Lib.AppendZeros
set_option linter.unusedVariables false
set_option linter.unusedSimpArgs false
set_option maxRecDepth 100000
set_option maxHeartbeats 16000000
namespace Go.Proofs.YtpckmjfabiallaaGreatDoor
variable{T:TypeId}{b g i j mb n0 p:Nat}{fs sl ss v v0:Value}{w w' w1 w2:World}{x:List UInt8}
open List
open Tryz
section
open Go.RowKit
open Ck (CE CS CF CP Mng)
attribute [local go_sem ↓] Go.wp_at_zero Go.wp_at_succ
theorem Ac8{qs:List Ck.Q}{ts:List (List UInt8)}{q:Nat}{a:Ck.Q}{t:AQ}(h1:qs[q]?=some a)(h2:ts[q]?=some t):Ck.all (qs.drop q) (ts.drop q)=Ck.bind (Ck.asked a t) λ x=>Ck.bind (Ck.all (qs.drop (q+1)) (ts.drop (q+1))) λ xs=>.inl (x :: xs):=by
 obtain⟨i1,rfl⟩:=AK h1;obtain⟨i2,rfl⟩:=AK h2;rw[drop_eq_getElem_cons i1,drop_eq_getElem_cons i2,Ck.all]
theorem Nf{α β γ:Type}(r:Ck.R α)(f:α->Ck.R β)(g:β->Ck.R γ):Ck.bind (Ck.bind r f) g=Ck.bind r λ x=>Ck.bind (f x) g:=by
 rcases r with x | e <;> rfl
theorem Ac9{o n:Nat}{t:AQ}{c:Ck.Cx}{B:AS}{args:List Px.Ex}{row:AR}(hE:∀x∈args,EOk x)(hc:CkAt w b mb c)(cq:CxOk c)(hr:SlRow B w 8 sl args.length row)(ha:Aj B w args row)(g4:args.length<=1000000) :
  AA 194 #[pt b 0,.agg (exA 7 o n t sl p)] w λ e w'=>Ae w (Ck.call c t p (Ck.cEs c args)) e w':=by
 obtain⟨k,Hk⟩:∃k:Nat,Hid (7=k):=⟨_,rfl⟩;rw[Hk.out];obtain⟨w0,w1,et,eh,l0,l1,bl,ee,ek⟩:=Az w (iv k) (iv o) (iv n) (strV t) (iv 0) sE sl (iv p);have hb:=hc.lt;have cw:=hc.keep bl;obtain⟨v0,ss,fs,ls,d8,dv⟩:=cw.blk;have ak:=cw.env;obtain⟨c0,c1,c2,c3,c4,c5,-⟩:=Bc d8;obtain⟨d0,d1,d2,d3,d4,d5,d6,d7,-⟩:=Ac ee;have aw:=λ w' (he:A7 w' mb c.env)=>E6 he t
 have HE:Hid (∀x∈args,EOk x):=hE;have ef:Hid (SlRow B w1 8 sl args.length row):=hr.since (Since.of_below bl);have en:Hid (Aj B w1 args row):=ha.since (Since.of_below bl);obtain⟨sa,dz,rfl,ej,em⟩:=hr.val;have ah:Hid (Ck.call c t p (Ck.cEs c args)=Ck.bind (Ck.need ((Ck.look c.env t).kind == 2 && decide ((Ck.look c.env t).slot<c.number)) p 33) λ _=>Ck.bind (Ck.need (!(c.heads.getD (Ck.look c.env t).slot ⟨false,[],[]⟩).on) p 33) λ _=>Ck.bind (Ck.need (args.length == (c.heads.getD (Ck.look c.env t).slot ⟨false,[],[]⟩).params.length) p 35) λ _=>Ck.bind (Ck.all (Ck.cEs c args) (c.heads.getD (Ck.look c.env t).slot ⟨false,[],[]⟩).params) λ xs=>.inl (.mk k 0 0 [] (Ck.look c.env t).slot (c.heads.getD (Ck.look c.env t).slot ⟨false,[],[]⟩).result xs)):=by
  show _=_;unfold Ck.call;rw[Ck.cEs_length,<-Hk.out]
 obtain⟨R,HR⟩:∃R,Hid (Ck.call c t p (Ck.cEs c args)=R):=⟨_,rfl⟩;rw[HR.out] at ah ⊢;generalize Ck.look c.env t=m at *;obtain⟨mk,ms,mt⟩:=m;simp only at ah;replace aw:∀w',A7 w' mb c.env->(Instr.lookup 60 (.map (some mb)) (strV t) false).run prog w'=.ok (G3 ⟨mk,ms,mt⟩) w':=aw;clear hE hr ha hc HR Hk;go_enter func194,ntmps194;go_wp2_with fail;refine Vv.wpE_begin (S:=λ w'=>w'.cell? ⟨b,3,none⟩=some (.map (some mb))/\w'.cell? ⟨w.heap.size,3,none⟩=some (strV t)/\A7 w' mb c.env) (N:=λ _=>true) (by kernel_rfl) ?_;have a0:w1.drew.cell? ⟨b,3,none⟩=some (.map (some mb))/\w1.drew.cell? ⟨w.heap.size,3,none⟩=some (strV t)/\A7 w1.drew mb c.env:=⟨c3,d3,ak⟩;refine Aa 10 [] 0 (pt b 0) a0 ?_ (hy:=(λ w' hS=>by obtain⟨g0,g1,g2⟩:=hS;have hr:=aw w' g2;go_simp))
 try simp only[aP]
 refine Aa 11 [] 1 (pt b 0) a0 ?_ (hy:=(λ w' hS=>by obtain⟨g0,g1,g2⟩:=hS;have hr:=aw w' g2;go_simp))
 try simp only[aP]
 refine Aa 12 [] 2 (pt b 3) a0 ?_ (hy:=(λ w' hS=>by obtain⟨g0,g1,g2⟩:=hS;have hr:=aw w' g2;go_simp))
 try simp only[aP]
 refine Aa 13 [] 3 (.map (some mb)) a0 ?_ (hy:=(λ w' hS=>by obtain⟨g0,g1,g2⟩:=hS;have hr:=aw w' g2;go_simp))
 try simp only[aP]
 refine Aa 14 [] 4 (pt w.heap.size 3) a0 ?_ (hy:=(λ w' hS=>by obtain⟨g0,g1,g2⟩:=hS;have hr:=aw w' g2;go_simp))
 try simp only[aP]
 refine Aa 15 [] 5 (strV t) a0 ?_ (hy:=(λ w' hS=>by obtain⟨g0,g1,g2⟩:=hS;have hr:=aw w' g2;go_simp))
 try simp only[aP]
 refine Aa 16 [] 6 (G3 ⟨mk,ms,mt⟩) a0 ?_ (hy:=(λ w' hS=>by obtain⟨g0,g1,g2⟩:=hS;have hr:=aw w' g2;go_simp))
 try simp only[aP]
 obtain⟨wz,w3,bq,d9,al,dj,b6,a9,ag,a3⟩:=Tv w1.drew (iv mk) (iv ms) (strV mt);refine Ah 7 λ K hK=>?_
 go_simp;refine hK _ _ (λ _=>⟨((bcell a9).1 _ _ (show b<w1.heap.size by omega)).trans c3,((bcell a9).1 _ _ (show w.heap.size<w1.heap.size by omega)).trans d3,ak.since (a9.block _ ak.lt)⟩) ?_;clear hK K
 try simp only[aP]
 replace a3:wz.heap[w1.heap.size]?=some (.cells #[iv 0,iv 0,sE] 125 (0,0)):=a3;replace ag:w3.heap[w1.heap.size]?=some (.cells #[iv mk,iv ms,strV mt] 125 (0,0)):=ag;replace d9:((wz.setCell ⟨w1.heap.size,0,none⟩ (iv mk)).setCell ⟨w1.heap.size,1,none⟩ (iv ms)).setCell ⟨w1.heap.size,2,none⟩ (.string ⟨mt.toArray⟩)=w3:=d9;have e9:w1.heap.size<w3.heap.size:=by have e:w3.heap.size=w1.heap.size+1:=dj;omega
 have dc:w1.heap.size<wz.heap.size:=by have e:wz.heap.size=w1.heap.size+1:=b6;omega
 clear dj b6;replace al:Below w1.heap.size w1 w3:=⟨al.os,al.tape,al.output,al.size,al.block⟩;obtain⟨z0,z1,z2,f0,f1,f2⟩:=Ar a3;obtain⟨bc,-⟩:=bcell al;refine Ah 8 λ K hK=>?_
 go_simp;refine hK _ _ (λ _=>⟨(bc b 3 (by omega)).trans c3,(bc w.heap.size 3 (by omega)).trans d3,ak.since (al.block _ ak.lt)⟩) ?_;clear hK K
 try simp only[aP]
 refine Vv.wpE_done (by kernel_rfl) ?_;obtain⟨n0,n1,n2,-⟩:=Ar ag;have e4:=(bc b 4 (by omega)).trans c4;have e7:=(bc w.heap.size 7 (by omega)).trans d7;have dl:Below w.heap.size w w3:=bl.trans (al.mono (by omega));clear z0 z1 z2 f0 f1 f2 dc bq d9 a0 aw et eh a3 a9;simp only[Exit.inBlock,Exit.then];refine ‹∀(a:Act) (w:World),_->_› _ _ ?_;go_wp2_with fail;refine Vv.wpE_begin (S:=λ w'=>w'.cell? ⟨w1.heap.size,0,none⟩=some (iv mk)/\w'.cell? ⟨w1.heap.size,1,none⟩=some (iv ms)/\w'.cell? ⟨b,4,none⟩=some (iv c.number)/\w'.cell? ⟨w.heap.size,7,none⟩=some (iv p)) (N:=λ _=>true) (by kernel_rfl) ?_;have a0:w3.drew.cell? ⟨w1.heap.size,0,none⟩=some (iv mk)/\w3.drew.cell? ⟨w1.heap.size,1,none⟩=some (iv ms)/\w3.drew.cell? ⟨b,4,none⟩=some (iv c.number)/\w3.drew.cell? ⟨w.heap.size,7,none⟩=some (iv p):=⟨n0,n1,e4,e7⟩;refine Aa 17 [] 0 (pt w1.heap.size 0) a0 ?_
 try simp only[aP]
 refine Aa 18 [] 1 (iv mk) a0 ?_
 try simp only[aP]
 by_cases hk2:mk=2
 rotate_left
 .have dx:((mk:Int) == 2)=false:=by rw[beq_eq_false_iff_ne];omega
  have ci:(mk == 2)=false:=by rw[beq_eq_false_iff_ne];omega
  have a5:Hid (Ae w R (.panicked (Af p 33)) w3.drew):=by rw[ah.out,ci];exact⟨rfl,dl.drew⟩
  refine Aa 19 [] 2 (.bool false) a0 ?_
  try simp only[aP]
  refine Aa 20 [] 3 (.bool false) a0 ?_
  try simp only[aP]
  refine Di (some 21) (i:=4) rfl rfl (by kernel_rfl) (by kernel_rfl) (by kernel_rfl) (by kernel_rfl) (λ _ _ _ h=>h) (by first | rfl | kernel_rfl) a0 ?_
  try simp only[aP]
  refine Di (some 22) (i:=5) rfl rfl (by kernel_rfl) (by kernel_rfl) (by kernel_rfl) (by kernel_rfl) (λ _ _ _ h=>h) (by first | rfl | kernel_rfl) a0 ?_
  try simp only[aP]
  refine Di (some 23) (i:=6) rfl rfl (by kernel_rfl) (by kernel_rfl) (by kernel_rfl) (by kernel_rfl) (λ _ _ _ h=>h) (by first | rfl | kernel_rfl) a0 ?_
  try simp only[aP]
  refine Di (some 24) (i:=7) rfl rfl (by kernel_rfl) (by kernel_rfl) (by kernel_rfl) (by kernel_rfl) (λ _ _ _ h=>h) (by first | rfl | kernel_rfl) a0 ?_
  try simp only[aP]
  refine Di (some 25) (i:=8) rfl rfl (by kernel_rfl) (by kernel_rfl) (by kernel_rfl) (by kernel_rfl) (λ _ _ _ h=>h) (by first | rfl | kernel_rfl) a0 ?_
  try simp only[aP]
  refine Di (some 26) (i:=9) rfl rfl (by kernel_rfl) (by kernel_rfl) (by kernel_rfl) (by kernel_rfl) (λ _ _ _ h=>h) (by first | rfl | kernel_rfl) a0 ?_
  try simp only[aP]
  refine Di (some 27) (i:=10) rfl rfl (by kernel_rfl) (by kernel_rfl) (by kernel_rfl) (by kernel_rfl) (λ _ _ _ h=>h) (by first | rfl | kernel_rfl) a0 ?_
  try simp only[aP]
  refine Aa 28 [] 11 (.bool false) a0 ?_
  try simp only[aP]
  refine Aa 29 [] 12 (pt w.heap.size 7) a0 ?_
  try simp only[aP]
  refine Aa 30 [] 13 (iv p) a0 ?_
  try simp only[aP]
  refine Ah 14 λ K hK=>?_
  go_simp;refine (Ao p 33 _).mono ?_;rintro e w4 ⟨rfl,rfl⟩;exact⟨rfl,a5.out⟩
 have dx:((mk:Int) == 2)=true:=by simp[hk2]
 have ci:(mk == 2)=true:=by simp[hk2]
 rw[ci,Bool.true_and] at ah;clear ci hk2;refine Aa 19 [] 2 (.bool true) a0 ?_
 try simp only[aP]
 refine Aa 20 [] 3 (.bool true) a0 ?_
 try simp only[aP]
 refine Aa 21 [] 4 (pt w1.heap.size 1) a0 ?_
 try simp only[aP]
 refine Aa 22 [] 5 (iv ms) a0 ?_
 try simp only[aP]
 refine Aa 23 [] 6 (pt b 0) a0 ?_
 try simp only[aP]
 refine Aa 24 [] 7 (pt b 0) a0 ?_
 try simp only[aP]
 refine Aa 25 [] 8 (pt b 4) a0 ?_
 try simp only[aP]
 refine Aa 26 [] 9 (iv c.number) a0 ?_
 try simp only[aP]
 by_cases cf:ms<c.number
 rotate_left
 .have cy:decide ((ms:Int)<(c.number:Int))=false:=by simp;omega
  have a5:Hid (Ae w R (.panicked (Af p 33)) w3.drew):=by rw[ah.out,decide_eq_false cf];exact⟨rfl,dl.drew⟩
  have ec:¬(ms:Int)<(c.number:Int):=by omega
  refine Aa 27 [] 10 (.bool false) a0 ?_
  try simp only[aP]
  refine Aa 28 [] 11 (.bool false) a0 ?_
  try simp only[aP]
  refine Aa 29 [] 12 (pt w.heap.size 7) a0 ?_
  try simp only[aP]
  refine Aa 30 [] 13 (iv p) a0 ?_
  try simp only[aP]
  refine Ah 14 λ K hK=>?_
  go_simp;refine (Ao p 33 _).mono ?_;rintro e w4 ⟨rfl,rfl⟩;exact⟨rfl,a5.out⟩
 have ec:(ms:Int)<(c.number:Int):=by omega
 rw[decide_eq_true cf] at ah;refine Aa 27 [] 10 (.bool true) a0 ?_
 try simp only[aP]
 refine Aa 28 [] 11 (.bool true) a0 ?_
 try simp only[aP]
 refine Aa 29 [] 12 (pt w.heap.size 7) a0 ?_
 try simp only[aP]
 refine Aa 30 [] 13 (iv p) a0 ?_
 try simp only[aP]
 refine Ah 14 λ K hK=>?_
 go_simp;refine (Av p 33 _).mono ?_;rintro e w4 ⟨rfl,c6⟩;obtain rfl:=c6.symm;refine hK _ _ (λ _=>a0) ?_;clear hK K c6
 try simp only[aP]
 refine Vv.wpE_done (by kernel_rfl) ?_;simp only[Exit.inBlock,Exit.then];refine ‹∀(a:Act) (w:World),_->_› _ _ ?_;have fg:ms<c.heads.length:=by have:=cq.num;omega
 obtain⟨hd,b7⟩:∃hd,c.heads[ms]?=some hd:=⟨_,AN fg⟩;have ce:c.heads.getD ms ⟨false,[],[]⟩=hd:=by rw[getD_eq_getElem?_getD,b7];rfl
 rw[ce] at ah;obtain⟨gf,of,bv,b9,fj,bb,ab,bo,bi,bk,b8,bh,rfl,g3,bs,j0,j1,j2,j3,j4,j5,j6,dn⟩:=Ac7 dv b7;obtain⟨ey,ba,-⟩:=id dn;obtain⟨bx,ar,rfl,ff,el⟩:=ba.val;have ea:(ms:Int)<(c.heads.length:Int):=by omega
 have ev:(0:Int)<=(ms:Int):=by omega
 have fk:Hid (∀t∈hd.params,t.length<=1000):=cq.pars hd (mem_of_getElem? b7);obtain⟨w4,c6⟩:∃w4,w3.drew=w4:=⟨_,rfl⟩;have b4:Below w3.heap.size w3 w4:=by rw[<-c6];exact (AF _ _).drew
 have av:Below w1.heap.size w1 w4:=al.trans (b4.mono al.size);have l4:w1.heap.size<w4.heap.size:=by have:=b4.size;omega
 have cr:w4.cell? ⟨w1.heap.size,1,none⟩=some (iv ms):=((bcell b4).1 _ _ e9).trans n1;rw[c6];have fr:Below w.heap.size w w4:=bl.trans (av.mono (by omega));clear ce dv b7 c6 a0 n0 n1 n2 e4 e7 ag dx ba bc b4;go_wp2_with fail;have cl:∀w',Below w4.heap.size w4 w'->(w'.cell? ⟨b,2,none⟩=some (sL gf of c.heads.length bv)/\w'.cell? ⟨w1.heap.size,1,none⟩=some (iv ms)/\w'.cell? ⟨gf,of+ms*7,none⟩=some (.string b9)/\w'.cell? ⟨gf,of+ms*7+1,none⟩=some (.bool hd.on)/\w'.cell? ⟨gf,of+ms*7+2,none⟩=some (.slice bx hd.params.length ar)/\w'.cell? ⟨gf,of+ms*7+3,none⟩=some (strV hd.result)/\w'.cell? ⟨gf,of+ms*7+4,none⟩=some (.slice bb ab bo)/\w'.cell? ⟨gf,of+ms*7+5,none⟩=some (.slice bi bk b8)/\w'.cell? ⟨gf,of+ms*7+6,none⟩=some (iv bh)):=λ w' hb'=>by
  obtain⟨bd,-⟩:=bcell (av.trans (hb'.mono av.size));obtain⟨be,-⟩:=bcell hb';exact⟨(bd _ _ (by omega)).trans c2,(be _ _ l4).trans cr,(bd _ _ bs).trans j0,(bd _ _ bs).trans j1,(bd _ _ bs).trans j2,(bd _ _ bs).trans j3,(bd _ _ bs).trans j4,(bd _ _ bs).trans j5,(bd _ _ bs).trans j6⟩
 refine Vv.wpE_begin (S:=λ w'=>w'.cell? ⟨b,2,none⟩=some (sL gf of c.heads.length bv)/\w'.cell? ⟨w1.heap.size,1,none⟩=some (iv ms)/\w'.cell? ⟨gf,of+ms*7,none⟩=some (.string b9)/\w'.cell? ⟨gf,of+ms*7+1,none⟩=some (.bool hd.on)/\w'.cell? ⟨gf,of+ms*7+2,none⟩=some (.slice bx hd.params.length ar)/\w'.cell? ⟨gf,of+ms*7+3,none⟩=some (strV hd.result)/\w'.cell? ⟨gf,of+ms*7+4,none⟩=some (.slice bb ab bo)/\w'.cell? ⟨gf,of+ms*7+5,none⟩=some (.slice bi bk b8)/\w'.cell? ⟨gf,of+ms*7+6,none⟩=some (iv bh)) (N:=λ _=>true) (by kernel_rfl) ?_;have a0:=cl w4.drew (AF _ _).drew;refine Aa 32 [] 0 (pt b 0) a0 ?_
 try simp only[aP]
 refine Aa 33 [] 1 (pt b 0) a0 ?_
 try simp only[aP]
 refine Aa 34 [] 2 (pt b 0) a0 ?_
 try simp only[aP]
 refine Aa 35 [] 3 (pt b 2) a0 ?_
 try simp only[aP]
 refine Aa 36 [] 4 (sL gf of c.heads.length bv) a0 ?_
 try simp only[aP]
 refine Aa 37 [] 5 (pt w1.heap.size 1) a0 ?_
 try simp only[aP]
 refine Aa 38 [] 6 (iv ms) a0 ?_
 try simp only[aP]
 refine Aa 39 [] 7 (pt gf (of+ms*7)) a0 ?_
 try simp only[aP]
 refine Aa 40 [] 8 (.agg #[.string b9,.bool hd.on,.slice bx hd.params.length ar,strV hd.result,.slice bb ab bo,.slice bi bk b8,iv bh]) a0 ?_
 try simp only[aP]
 obtain⟨wz,w5,bq,dd,ay,dr,b6,a9,a7,a3⟩:=Tx w4.drew (.string b9) (.bool hd.on) (.slice bx hd.params.length ar) (strV hd.result) (.slice bb ab bo) (.slice bi bk b8) (iv bh);refine Ah 9 λ K hK=>?_
 go_simp;refine hK _ _ (λ _=>cl _ ⟨a9.os,a9.tape,a9.output,a9.size,a9.block⟩) ?_;clear hK K
 try simp only[aP]
 replace a3:wz.heap[w4.heap.size]?=some (.cells #[sE,.bool false,sZ,sE,sZ,sZ,iv 0] 36 (0,0)):=a3;replace a7:w5.heap[w4.heap.size]?=some (.cells #[.string b9,.bool hd.on,.slice bx hd.params.length ar,strV hd.result,.slice bb ab bo,.slice bi bk b8,iv bh] 36 (0,0)):=a7;replace dd:K7 wz w4.heap.size (.string b9) (.bool hd.on) (.slice bx hd.params.length ar) (strV hd.result) (.slice bb ab bo) (.slice bi bk b8) (iv bh)=w5:=dd;have l5:w4.heap.size<w5.heap.size:=by have e:w5.heap.size=w4.heap.size+1:=dr;omega
 have lz:w4.heap.size<wz.heap.size:=by have e:wz.heap.size=w4.heap.size+1:=b6;omega
 clear dr b6;replace ay:Below w4.heap.size w4 w5:=⟨ay.os,ay.tape,ay.output,ay.size,ay.block⟩;obtain⟨z0,z1,z2,z3,z4,z5,z6,f0,f1,f2,f3,f4,f5,f6⟩:=Be a3;refine Ah 10 λ K hK=>?_
 go_simp;refine hK _ _ (λ _=>cl _ ay) ?_;clear hK K
 try simp only[aP]
 refine Vv.wpE_done (by kernel_rfl) ?_;obtain⟨y0,y1,y2,y3,y4,y5,y6,-⟩:=Be a7;have b5:Below w1.heap.size w1 w5:=av.trans (ay.mono av.size);obtain⟨bc,-⟩:=bcell b5;have x0:=(bc w.heap.size 0 (by omega)).trans d0;have x6:=(bc w.heap.size 6 (by omega)).trans d6;have x7:=(bc w.heap.size 7 (by omega)).trans d7;have ei:=((bcell ay).1 w1.heap.size 1 l4).trans cr;have dt:Below w.heap.size w w5:=bl.trans (b5.mono (by omega));have g6:w1.heap.size<w5.heap.size:=by omega
 clear z0 z1 z2 z3 z4 z5 z6 f0 f1 f2 f3 f4 f5 f6 lz bq dd a0 cl a3 a9 j0 j1 j2 j3 j4 j5 j6 bc cr;simp only[Exit.inBlock,Exit.then];refine ‹∀(a:Act) (w:World),_->_› _ _ ?_;cases hon:hd.on
 rotate_left
 .have a5:Hid (Ae w R (.panicked (Af p 33)) w5):=by rw[ah.out,hon];exact⟨rfl,dt⟩
  rw[hon] at y1;have hN:=Ao p 33 w5;clear a7;go_wp2_with fail;refine hN.mono ?_;rintro e w6 ⟨rfl,rfl⟩;exact⟨rfl,a5.out⟩
 rw[hon] at y1 ah;have hN:=Av p 33 w5;have f9:Hid (hd.params.length<=9223372036854775807):=by show _<=_;omega
 go_wp2_with fail
 refine hN.mono ?_;rintro e w6 ⟨rfl,c7⟩;obtain rfl:=c7.symm;clear hN c7;by_cases hll:args.length=hd.params.length
 rotate_left
 .have cy:((args.length:Int) == (hd.params.length:Int))=false:=by rw[beq_eq_false_iff_ne];omega
  have ab:(args.length == hd.params.length)=false:=by rw[beq_eq_false_iff_ne];exact hll
  have a5:Hid (Ae w R (.panicked (Af p 35)) w5):=by rw[ah.out,ab];exact⟨rfl,dt⟩
  have hN:=Ao p 35 w5;clear a7 ab hll;go_wp2_with fail;refine hN.mono ?_;rintro e w6 ⟨rfl,rfl⟩;exact⟨rfl,a5.out⟩
 have cy:((args.length:Int) == (hd.params.length:Int))=true:=by simp[hll]
 have ab:(args.length == hd.params.length)=true:=by simp[hll]
 rw[ab] at ah;have de:Hid (args.length=hd.params.length):=hll;have hN:=Av p 35 w5;clear ab hll;go_wp2_with fail;refine hN.mono ?_;rintro e w6 ⟨rfl,c7⟩;obtain rfl:=c7.symm;clear hN c7 cy;obtain⟨wz,w7,bq,fd,di,ex,b6,a9,bf,a3⟩:=Bs w5 (iv k) (iv 0) (iv 0) sE (iv ms) (strV hd.result) sZ (iv 0);have lz:w5.heap.size<wz.heap.size:=by omega
 have l7:w5.heap.size<w7.heap.size:=by omega
 clear ex b6;obtain⟨z0,z1,z2,z3,z4,z5,z6,z7,f0,f1,f2,f3,f4,f5,f6,f7⟩:=Ac a3;have aj:Below w1.heap.size w1 w7:=b5.trans (di.mono b5.size);have fp:=((bcell di).1 w.heap.size 6 (by omega)).trans x6;have dh:w7.heap[w4.heap.size]?=some (.cells #[.string b9,.bool false,.slice bx hd.params.length ar,strV hd.result,.slice bb ab bo,.slice bi bk b8,iv bh] 36 (0,0)):=by rw[di.block _ l5,a7,hon]
 have dq:Hid (R=Ck.bind (Ck.all ((Ck.cEs c args).drop 0) (hd.params.drop 0)) λ xs=>.inl (.mk k 0 0 [] ms hd.result ([] ++ xs))):=ah.out;clear ah hon;go_wp2_with fail;clear z0 z1 z2 z3 z4 z5 z6 z7 f0 f1 f2 f3 f4 f5 f6 f7 bq fd a3 a9 lz y0 y1 y2 y3 y4 y5 y6 x0 x6 x7 ei a7
 go_loopg [67] args.length (λ gh i wr=>∃(q:Nat) (acc:List CE) (ra:Option Addr) (rc:Nat),q<=args.length/\gh=args.length - q/\i=iv q/\Hid (acc.length=q/\Fo w5.heap.size w7.heap.size w7 wr/\w7.heap.size<=wr.heap.size/\wr.heap[w5.heap.size]?=some (.cells #[iv k,iv 0,iv 0,sE,iv ms,strV hd.result,.slice ra q rc,iv 0] 48 (0,0))/\Ge (From w7.heap.size) wr (.slice ra q rc) acc/\R=Ck.bind (Ck.all ((Ck.cEs c args).drop q) (hd.params.drop q)) λ xs=>.inl (.mk k 0 0 [] ms hd.result (acc ++ xs))))
 case atStart=>exact⟨0,[],none,0,AO _,rfl,rfl,rfl,AV _ _ _,AD _,bf,Ge.nil _ _,dq.out⟩
 case round=>
  obtain⟨q,acc,ra,rc,hq,rfl,rfl,HI⟩:=hrel;obtain⟨bn,b0,e8,cm,cc,ca⟩:=HI.out;have bu:Hid (acc.length=q):=bn;have cg:Hid (R=Ck.bind (Ck.all ((Ck.cEs c args).drop q) (hd.params.drop q)) λ xs=>.inl (.mk k 0 0 [] ms hd.result (acc ++ xs))):=ca;clear HI dq bn ca bf;have a8:Below w1.heap.size w1 wr:=⟨b0.os.trans aj.os,b0.tape.trans aj.tape,b0.output.trans aj.output,AP aj.size b0.size,λ j hj=>(b0.block j (by have:=aj.size;omega) (by omega)).trans (aj.block j hj)⟩;obtain⟨o0,o1,o2,o3,o4,o5,o6,o7,-⟩:=Ac cm;have lr:w5.heap.size<wr.heap.size:=by omega
  by_cases dc:q<args.length
  .have cv:(q:Int)<(args.length:Int):=by omega
   have g5:(0:Int)<=(q:Int):=by omega
   obtain⟨x,hx⟩:∃x,args[q]?=some x:=⟨_,AN dc⟩;obtain⟨ty,cp⟩:∃ty,hd.params[q]?=some ty:=⟨_,AN (by have:=de.out;omega)⟩;obtain⟨g,og,cap,ka,oa,na,ta,aa,pa,fx,fb,cf,ez,hg,rfl,⟨u0,u1,u2,u3,u4,u5,u6,u7⟩,db,du⟩:=Tz (ef.out.since (Since.of_below a8)) (en.out.since (Since.of_below a8)) hx;simp only[Value.slice.injEq,true_and] at cf;obtain⟨rfl,rfl⟩:=cf;obtain⟨gp,op,eo,dw,fu,eg,aq⟩:=Ak0 (dn.since (Since.of_below a8)) cp;simp only[Value.slice.injEq,true_and] at dw;obtain⟨rfl,rfl⟩:=dw;have fq:(q:Int)<(hd.params.length:Int):=by have:=de.out;omega
   have HN:Hid (R=Ck.bind (Ck.asked (Ck.cE c (.mk ka oa na ta aa pa),pa) ty) λ x=>Ck.bind (Ck.all ((Ck.cEs c args).drop (q+1)) (hd.params.drop (q+1))) λ xs=>.inl (.mk k 0 0 [] ms hd.result (acc ++ (x :: xs)))):=by
    show _=_;rw[cg.out,Ac8 (Ck.cEs_get c args q _ hx) cp,Nf];congr 1;funext y;rw[Nf];rfl
   have hA:=λ w' (hb:Below wr.heap.size wr w')=>B4 (HE.out _ (mem_of_getElem? hx)) rfl (cw.keep (a8.trans (hb.mono a8.size))) cq (db.since (Since.of_below hb)) (du.since (Since.of_below hb)) ty
   obtain⟨ch,az,rfl,-,-⟩:=db.val;generalize Ck.asked (Ck.cE c (.mk ka oa na ta aa pa),pa) ty=D at *;obtain⟨wz,w8,bq,ew,bw,eq,b6,a9,bg,a3⟩:=Bs wr (iv ka) (iv oa) (iv na) (strV ta) (iv 0) sE (.slice ch aa.length az) (iv pa);have lz:wr.heap.size<wz.heap.size:=by omega
   have l8:wr.heap.size<w8.heap.size:=by omega
   clear eq b6;obtain⟨z0,z1,z2,z3,z4,z5,z6,z7,f0,f1,f2,f3,f4,f5,f6,f7⟩:=Ac a3;obtain⟨ds,q1,q2,q3,q4,q5,q6,q7,-⟩:=Ac bg;have df:wr.heap[w4.heap.size]?=some (.cells #[.string b9,.bool false,sL gp op hd.params.length ar,strV hd.result,.slice bb ab bo,.slice bi bk b8,iv bh] 36 (0,0)):=(b0.block _ (by omega) (by omega)).trans dh;obtain⟨y0,y1,y2,y3,y4,y5,y6,-⟩:=Be df;clear hx cp db du cg;go_wp2_with fail;have hS:∀w',Below w8.heap.size w8 w'->(w'.cell? ⟨w5.heap.size,6,none⟩=some (.slice ra q rc)/\w'.cell? ⟨w4.heap.size,2,none⟩=some (sL gp op hd.params.length ar)/\w'.cell? ⟨gp,op+q*3+1,none⟩=some (strV ty)/\w'.cell? ⟨wr.heap.size,0,none⟩=some (iv ka)/\w'.cell? ⟨wr.heap.size,1,none⟩=some (iv oa)/\w'.cell? ⟨wr.heap.size,2,none⟩=some (iv na)/\w'.cell? ⟨wr.heap.size,3,none⟩=some (strV ta)/\w'.cell? ⟨wr.heap.size,4,none⟩=some (iv 0)/\w'.cell? ⟨wr.heap.size,5,none⟩=some sE/\w'.cell? ⟨wr.heap.size,6,none⟩=some (.slice ch aa.length az)/\w'.cell? ⟨wr.heap.size,7,none⟩=some (iv pa)):=λ w' hb'=>by
    obtain⟨bd,-⟩:=bcell (bw.trans (hb'.mono bw.size));obtain⟨be,-⟩:=bcell hb';exact⟨(bd _ _ lr).trans o6,(bd _ _ (by omega)).trans y2,(bd _ _ eg).trans aq,(be _ _ l8).trans ds,(be _ _ l8).trans q1,(be _ _ l8).trans q2,(be _ _ l8).trans q3,(be _ _ l8).trans q4,(be _ _ l8).trans q5,(be _ _ l8).trans q6,(be _ _ l8).trans q7⟩
   refine Vv.wpE_begin (S:=λ w'=>w'.cell? ⟨w5.heap.size,6,none⟩=some (.slice ra q rc)/\w'.cell? ⟨w4.heap.size,2,none⟩=some (sL gp op hd.params.length ar)/\w'.cell? ⟨gp,op+q*3+1,none⟩=some (strV ty)/\w'.cell? ⟨wr.heap.size,0,none⟩=some (iv ka)/\w'.cell? ⟨wr.heap.size,1,none⟩=some (iv oa)/\w'.cell? ⟨wr.heap.size,2,none⟩=some (iv na)/\w'.cell? ⟨wr.heap.size,3,none⟩=some (strV ta)/\w'.cell? ⟨wr.heap.size,4,none⟩=some (iv 0)/\w'.cell? ⟨wr.heap.size,5,none⟩=some sE/\w'.cell? ⟨wr.heap.size,6,none⟩=some (.slice ch aa.length az)/\w'.cell? ⟨wr.heap.size,7,none⟩=some (iv pa)) (N:=λ j=>decide (j<12)) (by kernel_rfl) ?_;have a0:=hS w8.drew (AF _ _).drew;refine Aa 72 [1,12,13,14] 0 (pt w5.heap.size 6) a0 ?_
   try simp only[aP]
   refine Aa 73 [12,13,14] 1 (.slice ra q rc) a0 ?_
   try simp only[aP]
   refine Aa 74 [10,11,12,13,14] 2 (pt b 0) a0 ?_
   try simp only[aP]
   refine Aa 75 [10,11,12,13,14] 3 (.agg (exA ka oa na ta (.slice ch aa.length az) pa)) a0 ?_
   try simp only[aP]
   refine Aa 76 [5,7,8,9,10,11,12,13,14] 4 (pt w4.heap.size 2) a0 ?_
   try simp only[aP]
   refine Aa 77 [7,8,9,10,11,12,13,14] 5 (sL gp op hd.params.length ar) a0 ?_
   try simp only[aP]
   refine Aa 78 [7,8,9,10,11,12,13,14] 6 (iv q) a0 ?_
   try simp only[aP]
   refine Aa 79 [8,9,10,11,12,13,14] 7 (pt gp (op+q*3)) a0 ?_
   try simp only[aP]
   refine Aa 80 [9,10,11,12,13,14] 8 (pt gp (op+q*3+1)) a0 ?_
   try simp only[aP]
   refine Aa 81 [10,11,12,13,14] 9 (strV ty) a0 ?_
   try simp only[aP]
   refine Ah 10 λ K hK=>?_
   go_simp;refine (hA w8.drew bw.drew).mono ?_;rintro e w9 hP;replace hP:Ae w8 D e w9:=hP.of (AF _ _).drew;clear hA a0 u0 u1 u2 u3 u4 u5 u6 u7 z0 z1 z2 z3 z4 z5 z6 z7 f0 f1 f2 f3 f4 f5 f6 f7 ds q1 q2 q3 q4 q5 q6 q7 y0 y1 y2 y3 y4 y5 y6 o0 o1 o2 o3 o4 o5 o6 o7 bq ew aq;rcases D with⟨k4,o4,n4,t4,s4,ax,a6⟩ | ⟨a,er⟩
   rotate_left
   .obtain⟨hm,cd⟩:=hP;obtain rfl:=hm;have a5:Ae w R (.panicked (Af a er)) w9:=by rw[HN.out];exact⟨rfl,bl.trans ((a8.trans ((bw.trans (cd.mono bw.size)).mono a8.size)).mono (by omega))⟩
    exact⟨rfl,a5⟩
   obtain⟨ft,eb,rfl,cu,dk,cd⟩:=hP.inl;obtain⟨a4,c4,rfl,-,-⟩:=cu.val;have fh:=cd.size;refine hK _ _ (λ _=>hS w9 cd) ?_;clear hK K hP
   try simp only[aP]
   obtain⟨w10,b3⟩:∃w10,w9.alloc (.cells #[iv k4,iv o4,iv n4,strV t4,iv s4,strV ax,.slice a4 a6.length c4,iv 0] 48)=w10:=⟨_,rfl⟩;have br:Below w9.heap.size w9 w10:=by rw[<-b3];exact (AF _ _).alloc (AD _) _
   have fi:w9.heap.size<w10.heap.size:=by rw[<-b3];simp
   have am:w10.heap[w9.heap.size]?=some (.cells #[iv k4,iv o4,iv n4,strV t4,iv s4,strV ax,.slice a4 a6.length c4,iv 0] 48 (0,0)):=by rw[<-b3];exact heap_new _ _
   have bj:Below w8.heap.size w8 w10:=cd.trans (br.mono fh);have af:Below wr.heap.size wr w10:=bw.trans (bj.mono bw.size);refine Ah 11 λ K hK=>?_
   go_simp;refine hK _ _ (λ _=>hS w10 bj) ?_;clear hK K
   try simp only[aP]
   have c9:Ge (From w7.heap.size) w10 (.slice ra q rc) acc:=cc.below af;have dm:Cl (λ j=>From w7.heap.size j/\(Value.slice ra q rc).ownBlock≠some j) w10 (.mk k4 o4 n4 t4 s4 ax a6) [iv k4,iv o4,iv n4,strV t4,iv s4,strV ax,.slice a4 a6.length c4,iv 0]:=by
    have hw:∀j,From w8.heap.size j->j<w10.heap.size->From w7.heap.size j/\(Value.slice ra q rc).ownBlock≠some j:=λ j hj _=>by
     have h1:w8.heap.size<=j:=hj;exact⟨by show w7.heap.size<=j;omega,cc.apart (by omega)⟩
    exact C1 ((cu.since (Since.of_below br)).base' hw) ((dk.since (Since.of_below br)).base hw)
   have f8:=af.size;obtain⟨cj,co,w11,bp,bt,au,cz,eu,c8⟩:=c9.push (ad:=⟨w9.heap.size,0,none⟩) (cs:=[iv k4,iv o4,iv n4,strV t4,iv s4,strV ax,.slice a4 a6.length c4,iv 0]) (λ j u hj=>by
    have h1:w10.cell? ⟨w9.heap.size,j,none⟩=some u:=by rw[Bf am,List.getElem?_toArray];exact hj
    by_cases h0:j=0
    .subst h0;simpa [Addr.add] using h1
    .simpa [Addr.add,h0] using h1) dm (by have:=bu.out;omega) (λ j hj=>by show w7.heap.size<=j;omega) 1 44
   replace au:Below w7.heap.size w10 w11:=au _ (by omega) (λ j hj=>hj);rw[bu.out] at bp bt;have ae:w11.heap[w5.heap.size]?=some (.cells #[iv k,iv 0,iv 0,sE,iv ms,strV hd.result,.slice ra q rc,iv 0] 48 (0,0)):=by rw[au.block _ l7,af.block _ lr];exact cm
   refine Ah 12 λ K hK=>?_
   refine Cc _ _ 44 rfl _ _ rfl rfl _ _ bp ?_;refine hK _ _ (λ h=>by cases h) ?_;clear hK K
   try simp only[aP]
   obtain⟨e0,e1,e2,e3,e4,e5,e6,e7,h0,h1,h2,h3,h4,h5,h6,h7⟩:=Ac ae;have g8:w5.heap.size<w11.heap.size:=(AB ae).1;refine Ah 13 λ K hK=>?_
   go_simp;refine hK _ _ (λ h=>by cases h) ?_;clear hK K
   try simp only[aP]
   refine Ah 14 λ K hK=>?_
   go_simp;refine hK _ _ (λ h=>by cases h) ?_;clear hK K
   try simp only[aP]
   refine Vv.wpE_done (by kernel_rfl) ?_;obtain⟨w12,ai⟩:∃w12,w11.setCell ⟨w5.heap.size,6,none⟩ (sL cj 0 (q+1) co)=w12:=⟨_,rfl⟩;have da:Hid ((acc ++ [CE.mk k4 o4 n4 t4 s4 ax a6]).length=q+1/\Fo w5.heap.size w7.heap.size w7 w12/\w7.heap.size<=w12.heap.size/\w12.heap[w5.heap.size]?=some (.cells #[iv k,iv 0,iv 0,sE,iv ms,strV hd.result,sL cj 0 (q+1) co,iv 0] 48 (0,0))/\Ge (From w7.heap.size) w12 (sL cj 0 (q+1) co) (acc ++ [CE.mk k4 o4 n4 t4 s4 ax a6])/\R=Ck.bind (Ck.all ((Ck.cEs c args).drop (q+1)) (hd.params.drop (q+1))) λ xs=>.inl (.mk k 0 0 [] ms hd.result ((acc ++ [CE.mk k4 o4 n4 t4 s4 ax a6]) ++ xs))):=by
    refine⟨by rw[length_append,bu.out];rfl,?_,?_,?_,?_,?_⟩
    .rw[<-ai];exact ((b0.below af e8).trans (AW au)).trans (Fo.set 6 _)
    .rw[<-ai];simp[World.setCell];omega
    .rw[<-ai];simp[World.setCell,Array.getElem?_modify,ae]
    .rw[<-ai];exact bt.since ⟨by simp[World.setCell],λ j hj _=>AG _ _ _ _ (by show j≠w5.heap.size;have:w7.heap.size<=j:=hj;omega)⟩
    .rw[HN.out];show Ck.bind (Ck.all _ _) _=_;congr 1;funext xs;simp
   rw[ai];clear bt c9 cc cu dk bp dm ae cm am ai b3 hS cz c8 au e0 e1 e2 e3 e4 e5 e6 e7 h0 h1 h2 h3 h4 h5 h6 h7 bg a3 b0 HN;simp only[Exit.inBlock,Exit.then];refine ‹∀(a:Act) (w:World),_->_› _ _ ?_;go_wp2_with fail;go_roundg (args.length - (q+1))
   case measure=>omega
   case rel=>exact⟨q+1,acc ++ [CE.mk k4 o4 n4 t4 s4 ax a6],some ⟨cj,0,none⟩,co,by omega,rfl,by go_num,da⟩
  .have cv:¬(q:Int)<(args.length:Int):=by omega
   have ep:q=args.length:=by omega
   have dy:R=.inl (.mk k 0 0 [] ms hd.result acc):=by
    rw[cg.out,drop_of_length_le (by rw[Ck.cEs_length];omega),drop_of_length_le (by have:=de.out;omega)];show Sum.inl (CE.mk k 0 0 [] ms hd.result (acc ++ []))=_;rw[append_nil]
   have ct:=(a8.block _ l1).trans ek;obtain⟨r0,r1,r2,r3,r4,r5,r6,r7,t0,t1,fv,t3,fy,t5,t6,t7⟩:=Ac ct;have ed:w0.heap.size<wr.heap.size:=(AB ct).1;have a5:Ae w R (.returned (.agg #[iv k,iv 0,iv 0,sE,iv ms,strV hd.result,.slice ra q rc,iv 0])) (setc8 wr w0.heap.size (iv k) (iv 0) (iv 0) sE (iv ms) (strV hd.result) (.slice ra q rc) (iv 0)):=by
    rw[dy];have fa:Since (From w7.heap.size) wr (setc8 wr w0.heap.size (iv k) (iv 0) (iv 0) sE (iv ms) (strV hd.result) (.slice ra q rc) (iv 0)):=⟨by rw[A1];exact AD _,λ j h3 h4=>A0 (by have:w7.heap.size<=j:=h3;omega) _ _ _ _ _ _ _ _⟩;obtain⟨row,e1,e2⟩:=(cc.since fa).row;exact⟨⟨_,row,rfl,e1.base' (λ j hj _=>by show w.heap.size<=j;have:w7.heap.size<=j:=hj;omega),e2.base (λ j hj _=>by show w.heap.size<=j;have:w7.heap.size<=j:=hj;omega)⟩,Ap (bl.trans (a8.mono (by omega))) (by omega) _ _ _ _ _ _ _ _⟩
   clear cc dy cg cm ct b0 ep;go_wp2_with fail;exact bodyPost_ret (by simp[results,results194,go_sem,ed,r0,r1,r2,r3,r4,r5,r6,r7]) rfl a5
theorem Rm{k o n:Nat}{t:AQ}{args:List Px.Ex}{c:Ck.Cx}{B:AS}{row:AR}(hE:∀x∈args,EOk x)(a4:Ck.bkind t≠0)(hc:CkAt w b mb c)(a3:CxOk c)(hr:SlRow B w 8 sl args.length row)(ha:Aj B w args row) :
  AA 193 #[pt b 0,.agg (exA k o n t sl p)] w λ e w'=>Ae w (Ck.builtin t p (Ck.cEs c args)) e w':=by
 have a0:Ck.bkind t=8\/Ck.bkind t=9\/Ck.bkind t=10\/Ck.bkind t=11:=by
  unfold Ck.bkind at a4 ⊢;split
  .exact AI rfl
  .split
   .exact AJ (AI rfl)
   .split
    .exact AJ (AJ (AI rfl))
    .split
     .exact AJ (AJ (AJ rfl))
     .exact absurd (by simp[*]) a4
 rcases a0 with h | h | h | h
 .by_cases hl:args.length=1
  .obtain⟨x,rfl⟩:=length_eq_one_iff.1 hl;exact Rj (hE x (by simp)) h hc a3 hr ha
  .exact Rh (mb:=mb) h hr hl
 .by_cases hl:args.length=2
  .obtain⟨x,y,rfl⟩:∃x y,args=[x,y]:=by match args,hl with | [x,y],_=>exact⟨x,y,rfl⟩
   exact Rk (hE x (by simp)) (hE y (by simp)) h hc a3 hr ha
  .exact Ri (mb:=mb) h hr hl
 .by_cases hl:args.length=2
  .obtain⟨x,y,rfl⟩:∃x y,args=[x,y]:=by match args,hl with | [x,y],_=>exact⟨x,y,rfl⟩
   exact O7 (hE x (by simp)) (hE y (by simp)) h hc a3 hr ha
  .exact O4 (mb:=mb) h hr hl
 .by_cases hl:args.length=1
  .obtain⟨x,rfl⟩:=length_eq_one_iff.1 hl;exact O6 (hE x (by simp)) h hc a3 hr ha
  .exact O5 (mb:=mb) h hr hl
theorem T0{o n:Nat}{t:AQ}{args:List Px.Ex}{c:Ck.Cx}{B:AS}{row:AR}(hc:CkAt w b mb c)(al:CxOk c)(hr:SlRow B w 8 sl args.length row)(ha:Aj B w args row) :
  AA 168 #[pt b 0,.agg (exA 6 o n t sl p)] w λ e w'=>Ae w (Ck.name c t p) e w':=by
 obtain⟨k,Hk⟩:∃k:Nat,Hid (6=k):=⟨_,rfl⟩;have s1:((k:Int) == 1)=false:=by rw[<-Hk.out];rfl
 have s2:((k:Int) == 2)=false:=by rw[<-Hk.out];rfl
 have s3:((k:Int) == 3)=false:=by rw[<-Hk.out];rfl
 have s6:((k:Int) == 6)=true:=by rw[<-Hk.out];rfl
 rw[Hk.out];obtain⟨w0,w1,ag,ae,l0,l1,a3,ai,ah⟩:=Az w (iv k) (iv o) (iv n) (strV t) (iv 0) sE sl (iv p);have aa:=hc.keep a3;have ad:=hr.since (Since.of_below a3);have ab:=ha.since (Since.of_below a3);have hC:=Xn aa t p k o n 0 ⟨#[]⟩ sl
 try rw[Hk.out] at hC
 obtain⟨ao,cap,rfl,-,-⟩:=hr.val;obtain⟨d0,d1,d2,d3,d4,d5,d6,d7,-⟩:=Ac ai;obtain⟨C,HC⟩:∃C,Hid ((Ck.name c t p)=C):=⟨_,rfl⟩;rw[HC.out] at hC ⊢;clear hc hr ha ad ab aa HC Hk;go_enter func168,ntmps168;go_wp2_with fail;refine hC.mono ?_;rintro e w2 hP;clear hC ag ae;rcases C with⟨k2,o2,n2,t2,s2,y2,a0⟩ | ⟨a,er⟩
 rotate_left
 .obtain⟨hm,a4⟩:=hP;obtain rfl:=hm;exact⟨rfl,rfl,a3.trans (a4.mono (by omega))⟩
 obtain⟨sl2,row2,rfl,a6,a9,a4⟩:=hP.inl;obtain⟨a2,c2,rfl,-,-⟩:=a6.val;have ak:=a4.size;have a7:=(a4.block _ l1).trans ah;obtain⟨r0,r1,r2,r3,r4,r5,r6,r7,t0,t1,aj,t3,am,t5,t6,t7⟩:=Ac a7;have af:w0.heap.size<w2.heap.size:=(AB a7).1;have a5:Ae w (.inl (.mk k2 o2 n2 t2 s2 y2 a0)) (.returned (.agg #[iv k2,iv o2,iv n2,strV t2,iv s2,strV y2,.slice a2 a0.length c2,iv 0])) (setc8 w2 w0.heap.size (iv k2) (iv o2) (iv n2) (strV t2) (iv s2) (strV y2) (.slice a2 a0.length c2) (iv 0)):=by
  have a8:Since (From w1.heap.size) w2 (setc8 w2 w0.heap.size (iv k2) (iv o2) (iv n2) (strV t2) (iv s2) (strV y2) (.slice a2 a0.length c2) (iv 0)):=⟨by rw[A1];exact AD _,λ j h3 h4=>A0 (by have:w1.heap.size<=j:=h3;omega) _ _ _ _ _ _ _ _⟩;exact⟨⟨_,_,rfl,(a6.since a8).base' (λ j hj _=>by show w.heap.size<=j;have:w1.heap.size<=j:=hj;omega),(a9.since a8).base (λ j hj _=>by show w.heap.size<=j;have:w1.heap.size<=j:=hj;omega)⟩,Ap (a3.trans (a4.mono (by omega))) (by omega) _ _ _ _ _ _ _ _⟩
 clear hP a6 a9 a7;go_wp2_with fail;exact bodyPost_ret (by simp[results,results168,go_sem,af,r0,r1,r2,r3,r4,r5,r6,r7]) rfl a5
theorem T1{o n:Nat}{t:AQ}{args:List Px.Ex}{c:Ck.Cx}{B:AS}{row:AR}(hc:CkAt w b mb c)(af:CxOk c)(hr:SlRow B w 8 sl args.length row)(ha:Aj B w args row)(hE:∀x∈args,EOk x)(ag:args.length<=1000000)(ah:Ck.bkind t=0) :
  AA 168 #[pt b 0,.agg (exA 7 o n t sl p)] w λ e w'=>Ae w (Ck.call c t p (Ck.cEs c args)) e w':=by
 obtain⟨k,Hk⟩:∃k:Nat,Hid (7=k):=⟨_,rfl⟩;have s1:((k:Int) == 1)=false:=by rw[<-Hk.out];rfl
 have s2:((k:Int) == 2)=false:=by rw[<-Hk.out];rfl
 have s3:((k:Int) == 3)=false:=by rw[<-Hk.out];rfl
 have s6:((k:Int) == 6)=false:=by rw[<-Hk.out];rfl
 have s7:((k:Int) == 7)=true:=by rw[<-Hk.out];rfl
 rw[Hk.out];obtain⟨w0,w1,ak,ai,l0,l1,a3,am,al⟩:=Az w (iv k) (iv o) (iv n) (strV t) (iv 0) sE sl (iv p);have ae:=hc.keep a3;have aa:=hr.since (Since.of_below a3);have a8:=ha.since (Since.of_below a3);have aq:(Ck.bkind t != 0)=false:=by rw[ah];rfl
 have hC:=Ac9 (o:=o) (n:=n) (t:=t) (p:=p) hE ae af aa a8 ag
 try rw[Hk.out] at hC
 obtain⟨ao,cap,rfl,-,-⟩:=hr.val;obtain⟨d0,d1,d2,d3,d4,d5,d6,d7,-⟩:=Ac am;obtain⟨C,HC⟩:∃C,Hid ((Ck.call c t p (Ck.cEs c args))=C):=⟨_,rfl⟩;rw[HC.out] at hC ⊢;clear hc hr ha aa a8 ae HC Hk;go_enter func168,ntmps168;go_wp2_with fail;refine (Fu t w1).mono ?_;rintro e w2 ⟨rfl,a9⟩;obtain rfl:=a9.symm;rw[aq];clear a9;go_wp2_with fail;refine hC.mono ?_;rintro e w2 hP;clear hC ak ai;rcases C with⟨k2,o2,n2,t2,s2,y2,a0⟩ | ⟨a,er⟩
 rotate_left
 .obtain⟨hm,a4⟩:=hP;obtain rfl:=hm;exact⟨rfl,rfl,a3.trans (a4.mono (by omega))⟩
 obtain⟨sl2,row2,rfl,a6,ad,a4⟩:=hP.inl;obtain⟨a2,c2,rfl,-,-⟩:=a6.val;have au:=a4.size;have a7:=(a4.block _ l1).trans al;obtain⟨r0,r1,r2,r3,r4,r5,r6,r7,t0,t1,ar,t3,av,t5,t6,t7⟩:=Ac a7;have aj:w0.heap.size<w2.heap.size:=(AB a7).1;have a5:Ae w (.inl (.mk k2 o2 n2 t2 s2 y2 a0)) (.returned (.agg #[iv k2,iv o2,iv n2,strV t2,iv s2,strV y2,.slice a2 a0.length c2,iv 0])) (setc8 w2 w0.heap.size (iv k2) (iv o2) (iv n2) (strV t2) (iv s2) (strV y2) (.slice a2 a0.length c2) (iv 0)):=by
  have ab:Since (From w1.heap.size) w2 (setc8 w2 w0.heap.size (iv k2) (iv o2) (iv n2) (strV t2) (iv s2) (strV y2) (.slice a2 a0.length c2) (iv 0)):=⟨by rw[A1];exact AD _,λ j h3 h4=>A0 (by have:w1.heap.size<=j:=h3;omega) _ _ _ _ _ _ _ _⟩;exact⟨⟨_,_,rfl,(a6.since ab).base' (λ j hj _=>by show w.heap.size<=j;have:w1.heap.size<=j:=hj;omega),(ad.since ab).base (λ j hj _=>by show w.heap.size<=j;have:w1.heap.size<=j:=hj;omega)⟩,Ap (a3.trans (a4.mono (by omega))) (by omega) _ _ _ _ _ _ _ _⟩
 clear hP a6 ad a7;go_wp2_with fail;exact bodyPost_ret (by simp[results,results168,go_sem,aj,r0,r1,r2,r3,r4,r5,r6,r7]) rfl a5
theorem Ad0{o n:Nat}{t:AQ}{args:List Px.Ex}{c:Ck.Cx}{B:AS}{row:AR}(hc:CkAt w b mb c)(ag:CxOk c)(hr:SlRow B w 8 sl args.length row)(ha:Aj B w args row)(hE:∀x∈args,EOk x)(ad:Ck.bkind t≠0) :
  AA 168 #[pt b 0,.agg (exA 7 o n t sl p)] w λ e w'=>Ae w (Ck.builtin t p (Ck.cEs c args)) e w':=by
 obtain⟨k,Hk⟩:∃k:Nat,Hid (7=k):=⟨_,rfl⟩;have s1:((k:Int) == 1)=false:=by rw[<-Hk.out];rfl
 have s2:((k:Int) == 2)=false:=by rw[<-Hk.out];rfl
 have s3:((k:Int) == 3)=false:=by rw[<-Hk.out];rfl
 have s6:((k:Int) == 6)=false:=by rw[<-Hk.out];rfl
 have s7:((k:Int) == 7)=true:=by rw[<-Hk.out];rfl
 rw[Hk.out];obtain⟨w0,w1,aj,ah,l0,l1,a3,al,ak⟩:=Az w (iv k) (iv o) (iv n) (strV t) (iv 0) sE sl (iv p);have af:=hc.keep a3;have aa:=hr.since (Since.of_below a3);have a8:=ha.since (Since.of_below a3);have am:(Ck.bkind t != 0)=true:=by simpa using ad
 have hC:=Rm (k:=k) (o:=o) (n:=n) (t:=t) (p:=p) hE ad af ag aa a8
 try rw[Hk.out] at hC
 obtain⟨ao,cap,rfl,-,-⟩:=hr.val;obtain⟨d0,d1,d2,d3,d4,d5,d6,d7,-⟩:=Ac al;obtain⟨C,HC⟩:∃C,Hid ((Ck.builtin t p (Ck.cEs c args))=C):=⟨_,rfl⟩;rw[HC.out] at hC ⊢;clear hc hr ha aa a8 af HC Hk;go_enter func168,ntmps168;go_wp2_with fail;refine (Fu t w1).mono ?_;rintro e w2 ⟨rfl,a9⟩;obtain rfl:=a9.symm;rw[am];clear a9;go_wp2_with fail;refine hC.mono ?_;rintro e w2 hP;clear hC aj ah;rcases C with⟨k2,o2,n2,t2,s2,y2,a0⟩ | ⟨a,er⟩
 rotate_left
 .obtain⟨hm,a4⟩:=hP;obtain rfl:=hm;exact⟨rfl,rfl,a3.trans (a4.mono (by omega))⟩
 obtain⟨sl2,row2,rfl,a6,ae,a4⟩:=hP.inl;obtain⟨a2,c2,rfl,-,-⟩:=a6.val;have ar:=a4.size;have a7:=(a4.block _ l1).trans ak;obtain⟨r0,r1,r2,r3,r4,r5,r6,r7,t0,t1,aq,t3,au,t5,t6,t7⟩:=Ac a7;have ai:w0.heap.size<w2.heap.size:=(AB a7).1;have a5:Ae w (.inl (.mk k2 o2 n2 t2 s2 y2 a0)) (.returned (.agg #[iv k2,iv o2,iv n2,strV t2,iv s2,strV y2,.slice a2 a0.length c2,iv 0])) (setc8 w2 w0.heap.size (iv k2) (iv o2) (iv n2) (strV t2) (iv s2) (strV y2) (.slice a2 a0.length c2) (iv 0)):=by
  have ab:Since (From w1.heap.size) w2 (setc8 w2 w0.heap.size (iv k2) (iv o2) (iv n2) (strV t2) (iv s2) (strV y2) (.slice a2 a0.length c2) (iv 0)):=⟨by rw[A1];exact AD _,λ j h3 h4=>A0 (by have:w1.heap.size<=j:=h3;omega) _ _ _ _ _ _ _ _⟩;exact⟨⟨_,_,rfl,(a6.since ab).base' (λ j hj _=>by show w.heap.size<=j;have:w1.heap.size<=j:=hj;omega),(ae.since ab).base (λ j hj _=>by show w.heap.size<=j;have:w1.heap.size<=j:=hj;omega)⟩,Ap (a3.trans (a4.mono (by omega))) (by omega) _ _ _ _ _ _ _ _⟩
 clear hP a6 ae a7;go_wp2_with fail;exact bodyPost_ret (by simp[results,results168,go_sem,ai,r0,r1,r2,r3,r4,r5,r6,r7]) rfl a5
theorem Ad1{x y:Px.Ex}{o n:Nat}{t:AQ}{c:Ck.Cx}{B:AS}{row:AR}(hc:CkAt w b mb c)(ae:CxOk c)(hr:SlRow B w 8 sl 2 row)(ha:Aj B w [x,y] row)(hE:EOk x)(af:EOk y) :
  AA 168 #[pt b 0,.agg (exA 12 o n t sl p)] w λ e w'=>Ae w (Ck.at_ p (Ck.cEs c [x,y])) e w':=by
 obtain⟨k,Hk⟩:∃k:Nat,Hid (12=k):=⟨_,rfl⟩;have s1:((k:Int) == 1)=false:=by rw[<-Hk.out];rfl
 have s2:((k:Int) == 2)=false:=by rw[<-Hk.out];rfl
 have s3:((k:Int) == 3)=false:=by rw[<-Hk.out];rfl
 have s6:((k:Int) == 6)=false:=by rw[<-Hk.out];rfl
 have s7:((k:Int) == 7)=false:=by rw[<-Hk.out];rfl
 have aq:((k:Int) == 12)=true:=by rw[<-Hk.out];rfl
 rw[Hk.out];obtain⟨w0,w1,ai,ag,l0,l1,a3,ak,aj⟩:=Az w (iv k) (iv o) (iv n) (strV t) (iv 0) sE sl (iv p);have ad:=hc.keep a3;have a9:=hr.since (Since.of_below a3);have a8:=ha.since (Since.of_below a3);have hC:=Aq8 (o:=o) (n:=n) (t:=t) (p:=p) hE af ad ae a9 a8
 try rw[Hk.out] at hC
 obtain⟨ao,cap,rfl,-,-⟩:=hr.val;obtain⟨d0,d1,d2,d3,d4,d5,d6,d7,-⟩:=Ac ak;obtain⟨C,HC⟩:∃C,Hid ((Ck.at_ p (Ck.cEs c [x,y]))=C):=⟨_,rfl⟩;rw[HC.out] at hC ⊢;clear hc hr ha a9 a8 ad HC Hk;go_enter func168,ntmps168;go_wp2_with fail;refine hC.mono ?_;rintro e w2 hP;clear hC ai ag;rcases C with⟨k2,o2,n2,t2,s2,y2,a0⟩ | ⟨a,er⟩
 rotate_left
 .obtain⟨hm,a4⟩:=hP;obtain rfl:=hm;exact⟨rfl,rfl,a3.trans (a4.mono (by omega))⟩
 obtain⟨sl2,row2,rfl,a6,ab,a4⟩:=hP.inl;obtain⟨a2,c2,rfl,-,-⟩:=a6.val;have am:=a4.size;have a7:=(a4.block _ l1).trans aj;obtain⟨r0,r1,r2,r3,r4,r5,r6,r7,t0,t1,al,t3,ar,t5,t6,t7⟩:=Ac a7;have ah:w0.heap.size<w2.heap.size:=(AB a7).1;have a5:Ae w (.inl (.mk k2 o2 n2 t2 s2 y2 a0)) (.returned (.agg #[iv k2,iv o2,iv n2,strV t2,iv s2,strV y2,.slice a2 a0.length c2,iv 0])) (setc8 w2 w0.heap.size (iv k2) (iv o2) (iv n2) (strV t2) (iv s2) (strV y2) (.slice a2 a0.length c2) (iv 0)):=by
  have aa:Since (From w1.heap.size) w2 (setc8 w2 w0.heap.size (iv k2) (iv o2) (iv n2) (strV t2) (iv s2) (strV y2) (.slice a2 a0.length c2) (iv 0)):=⟨by rw[A1];exact AD _,λ j h3 h4=>A0 (by have:w1.heap.size<=j:=h3;omega) _ _ _ _ _ _ _ _⟩;exact⟨⟨_,_,rfl,(a6.since aa).base' (λ j hj _=>by show w.heap.size<=j;have:w1.heap.size<=j:=hj;omega),(ab.since aa).base (λ j hj _=>by show w.heap.size<=j;have:w1.heap.size<=j:=hj;omega)⟩,Ap (a3.trans (a4.mono (by omega))) (by omega) _ _ _ _ _ _ _ _⟩
 clear hP a6 ab a7;go_wp2_with fail;exact bodyPost_ret (by simp[results,results168,go_sem,ah,r0,r1,r2,r3,r4,r5,r6,r7]) rfl a5
theorem Ad2{x:Px.Ex}{o n:Nat}{t:AQ}{c:Ck.Cx}{B:AS}{row:AR}(hc:CkAt w b mb c)(ae:CxOk c)(hr:SlRow B w 8 sl 1 row)(ha:Aj B w [x] row)(hE:EOk x) :
  AA 168 #[pt b 0,.agg (exA 13 o n t sl p)] w λ e w'=>Ae w (Ck.unary 13 Ck.tInt (Ck.cEs c [x])) e w':=by
 obtain⟨k,Hk⟩:∃k:Nat,Hid (13=k):=⟨_,rfl⟩;have s1:((k:Int) == 1)=false:=by rw[<-Hk.out];rfl
 have s2:((k:Int) == 2)=false:=by rw[<-Hk.out];rfl
 have s3:((k:Int) == 3)=false:=by rw[<-Hk.out];rfl
 have s6:((k:Int) == 6)=false:=by rw[<-Hk.out];rfl
 have s7:((k:Int) == 7)=false:=by rw[<-Hk.out];rfl
 have aq:((k:Int) == 12)=false:=by rw[<-Hk.out];rfl
 have am:((k:Int) == 13)=true:=by rw[<-Hk.out];rfl
 rw[Hk.out];obtain⟨w0,w1,ah,af,l0,l1,a3,aj,ai⟩:=Az w (iv k) (iv o) (iv n) (strV t) (iv 0) sE sl (iv p);have ad:=hc.keep a3;have a9:=hr.since (Since.of_below a3);have a8:=ha.since (Since.of_below a3);have hC:=Ne (k:=k) (o:=o) (n:=n) (t:=t) (p:=p) hE ad ae a9 a8 Ck.tInt
 try rw[Hk.out] at hC
 obtain⟨ao,cap,rfl,-,-⟩:=hr.val;obtain⟨d0,d1,d2,d3,d4,d5,d6,d7,-⟩:=Ac aj;obtain⟨C,HC⟩:∃C,Hid ((Ck.unary k Ck.tInt (Ck.cEs c [x]))=C):=⟨_,rfl⟩;rw[HC.out] at hC ⊢;clear hc hr ha a9 a8 ad HC Hk;go_enter func168,ntmps168;go_wp2_with fail;refine hC.mono ?_;rintro e w2 hP;clear hC ah af;rcases C with⟨k2,o2,n2,t2,s2,y2,a0⟩ | ⟨a,er⟩
 rotate_left
 .obtain⟨hm,a4⟩:=hP;obtain rfl:=hm;exact⟨rfl,rfl,a3.trans (a4.mono (by omega))⟩
 obtain⟨sl2,row2,rfl,a6,ab,a4⟩:=hP.inl;obtain⟨a2,c2,rfl,-,-⟩:=a6.val;have al:=a4.size;have a7:=(a4.block _ l1).trans ai;obtain⟨r0,r1,r2,r3,r4,r5,r6,r7,t0,t1,ak,t3,ar,t5,t6,t7⟩:=Ac a7;have ag:w0.heap.size<w2.heap.size:=(AB a7).1;have a5:Ae w (.inl (.mk k2 o2 n2 t2 s2 y2 a0)) (.returned (.agg #[iv k2,iv o2,iv n2,strV t2,iv s2,strV y2,.slice a2 a0.length c2,iv 0])) (setc8 w2 w0.heap.size (iv k2) (iv o2) (iv n2) (strV t2) (iv s2) (strV y2) (.slice a2 a0.length c2) (iv 0)):=by
  have aa:Since (From w1.heap.size) w2 (setc8 w2 w0.heap.size (iv k2) (iv o2) (iv n2) (strV t2) (iv s2) (strV y2) (.slice a2 a0.length c2) (iv 0)):=⟨by rw[A1];exact AD _,λ j h3 h4=>A0 (by have:w1.heap.size<=j:=h3;omega) _ _ _ _ _ _ _ _⟩;exact⟨⟨_,_,rfl,(a6.since aa).base' (λ j hj _=>by show w.heap.size<=j;have:w1.heap.size<=j:=hj;omega),(ab.since aa).base (λ j hj _=>by show w.heap.size<=j;have:w1.heap.size<=j:=hj;omega)⟩,Ap (a3.trans (a4.mono (by omega))) (by omega) _ _ _ _ _ _ _ _⟩
 clear hP a6 ab a7;go_wp2_with fail;exact bodyPost_ret (by simp[results,results168,go_sem,ag,r0,r1,r2,r3,r4,r5,r6,r7]) rfl a5
theorem Ad3{x:Px.Ex}{o n:Nat}{t:AQ}{c:Ck.Cx}{B:AS}{row:AR}(hc:CkAt w b mb c)(ae:CxOk c)(hr:SlRow B w 8 sl 1 row)(ha:Aj B w [x] row)(hE:EOk x) :
  AA 168 #[pt b 0,.agg (exA 14 o n t sl p)] w λ e w'=>Ae w (Ck.unary 14 Ck.tBool (Ck.cEs c [x])) e w':=by
 obtain⟨k,Hk⟩:∃k:Nat,Hid (14=k):=⟨_,rfl⟩;have s1:((k:Int) == 1)=false:=by rw[<-Hk.out];rfl
 have s2:((k:Int) == 2)=false:=by rw[<-Hk.out];rfl
 have s3:((k:Int) == 3)=false:=by rw[<-Hk.out];rfl
 have s6:((k:Int) == 6)=false:=by rw[<-Hk.out];rfl
 have s7:((k:Int) == 7)=false:=by rw[<-Hk.out];rfl
 have ar:((k:Int) == 12)=false:=by rw[<-Hk.out];rfl
 have aq:((k:Int) == 13)=false:=by rw[<-Hk.out];rfl
 have am:((k:Int) == 14)=true:=by rw[<-Hk.out];rfl
 rw[Hk.out];obtain⟨w0,w1,ah,af,l0,l1,a3,aj,ai⟩:=Az w (iv k) (iv o) (iv n) (strV t) (iv 0) sE sl (iv p);have ad:=hc.keep a3;have a9:=hr.since (Since.of_below a3);have a8:=ha.since (Since.of_below a3);have hC:=Ne (k:=k) (o:=o) (n:=n) (t:=t) (p:=p) hE ad ae a9 a8 Ck.tBool
 try rw[Hk.out] at hC
 obtain⟨ao,cap,rfl,-,-⟩:=hr.val;obtain⟨d0,d1,d2,d3,d4,d5,d6,d7,-⟩:=Ac aj;obtain⟨C,HC⟩:∃C,Hid ((Ck.unary k Ck.tBool (Ck.cEs c [x]))=C):=⟨_,rfl⟩;rw[HC.out] at hC ⊢;clear hc hr ha a9 a8 ad HC Hk;go_enter func168,ntmps168;go_wp2_with fail;refine hC.mono ?_;rintro e w2 hP;clear hC ah af;rcases C with⟨k2,o2,n2,t2,s2,y2,a0⟩ | ⟨a,er⟩
 rotate_left
 .obtain⟨hm,a4⟩:=hP;obtain rfl:=hm;exact⟨rfl,rfl,a3.trans (a4.mono (by omega))⟩
 obtain⟨sl2,row2,rfl,a6,ab,a4⟩:=hP.inl;obtain⟨a2,c2,rfl,-,-⟩:=a6.val;have al:=a4.size;have a7:=(a4.block _ l1).trans ai;obtain⟨r0,r1,r2,r3,r4,r5,r6,r7,t0,t1,ak,t3,au,t5,t6,t7⟩:=Ac a7;have ag:w0.heap.size<w2.heap.size:=(AB a7).1;have a5:Ae w (.inl (.mk k2 o2 n2 t2 s2 y2 a0)) (.returned (.agg #[iv k2,iv o2,iv n2,strV t2,iv s2,strV y2,.slice a2 a0.length c2,iv 0])) (setc8 w2 w0.heap.size (iv k2) (iv o2) (iv n2) (strV t2) (iv s2) (strV y2) (.slice a2 a0.length c2) (iv 0)):=by
  have aa:Since (From w1.heap.size) w2 (setc8 w2 w0.heap.size (iv k2) (iv o2) (iv n2) (strV t2) (iv s2) (strV y2) (.slice a2 a0.length c2) (iv 0)):=⟨by rw[A1];exact AD _,λ j h3 h4=>A0 (by have:w1.heap.size<=j:=h3;omega) _ _ _ _ _ _ _ _⟩;exact⟨⟨_,_,rfl,(a6.since aa).base' (λ j hj _=>by show w.heap.size<=j;have:w1.heap.size<=j:=hj;omega),(ab.since aa).base (λ j hj _=>by show w.heap.size<=j;have:w1.heap.size<=j:=hj;omega)⟩,Ap (a3.trans (a4.mono (by omega))) (by omega) _ _ _ _ _ _ _ _⟩
 clear hP a6 ab a7;go_wp2_with fail;exact bodyPost_ret (by simp[results,results168,go_sem,ag,r0,r1,r2,r3,r4,r5,r6,r7]) rfl a5
theorem Xr{x y:Px.Ex}{o n:Nat}{t:AQ}{c:Ck.Cx}{B:AS}{row:AR}(hc:CkAt w b mb c)(ae:CxOk c)(hr:SlRow B w 8 sl 2 row)(ha:Aj B w [x,y] row)(hE:EOk x)(af:EOk y) :
  AA 168 #[pt b 0,.agg (exA 15 o n t sl p)] w λ e w'=>Ae w (Ck.binary 15 o p (Ck.cEs c [x,y])) e w':=by
 obtain⟨k,Hk⟩:∃k:Nat,Hid (15=k):=⟨_,rfl⟩;have s1:((k:Int) == 1)=false:=by rw[<-Hk.out];rfl
 have s2:((k:Int) == 2)=false:=by rw[<-Hk.out];rfl
 have s3:((k:Int) == 3)=false:=by rw[<-Hk.out];rfl
 have s6:((k:Int) == 6)=false:=by rw[<-Hk.out];rfl
 have s7:((k:Int) == 7)=false:=by rw[<-Hk.out];rfl
 have au:((k:Int) == 12)=false:=by rw[<-Hk.out];rfl
 have ar:((k:Int) == 13)=false:=by rw[<-Hk.out];rfl
 have aq:((k:Int) == 14)=false:=by rw[<-Hk.out];rfl
 rw[Hk.out];obtain⟨w0,w1,ai,ag,l0,l1,a3,ak,aj⟩:=Az w (iv k) (iv o) (iv n) (strV t) (iv 0) sE sl (iv p);have ad:=hc.keep a3;have a9:=hr.since (Since.of_below a3);have a8:=ha.since (Since.of_below a3);have hC:=Rg (k:=k) (o:=o) (n:=n) (t:=t) (p:=p) hE af ad ae a9 a8
 try rw[Hk.out] at hC
 obtain⟨ao,cap,rfl,-,-⟩:=hr.val;obtain⟨d0,d1,d2,d3,d4,d5,d6,d7,-⟩:=Ac ak;obtain⟨C,HC⟩:∃C,Hid ((Ck.binary k o p (Ck.cEs c [x,y]))=C):=⟨_,rfl⟩;rw[HC.out] at hC ⊢;clear hc hr ha a9 a8 ad HC Hk;go_enter func168,ntmps168;go_wp2_with fail;refine hC.mono ?_;rintro e w2 hP;clear hC ai ag;rcases C with⟨k2,o2,n2,t2,s2,y2,a0⟩ | ⟨a,er⟩
 rotate_left
 .obtain⟨hm,a4⟩:=hP;obtain rfl:=hm;exact⟨rfl,rfl,a3.trans (a4.mono (by omega))⟩
 obtain⟨sl2,row2,rfl,a6,ab,a4⟩:=hP.inl;obtain⟨a2,c2,rfl,-,-⟩:=a6.val;have am:=a4.size;have a7:=(a4.block _ l1).trans aj;obtain⟨r0,r1,r2,r3,r4,r5,r6,r7,t0,t1,al,t3,av,t5,t6,t7⟩:=Ac a7;have ah:w0.heap.size<w2.heap.size:=(AB a7).1;have a5:Ae w (.inl (.mk k2 o2 n2 t2 s2 y2 a0)) (.returned (.agg #[iv k2,iv o2,iv n2,strV t2,iv s2,strV y2,.slice a2 a0.length c2,iv 0])) (setc8 w2 w0.heap.size (iv k2) (iv o2) (iv n2) (strV t2) (iv s2) (strV y2) (.slice a2 a0.length c2) (iv 0)):=by
  have aa:Since (From w1.heap.size) w2 (setc8 w2 w0.heap.size (iv k2) (iv o2) (iv n2) (strV t2) (iv s2) (strV y2) (.slice a2 a0.length c2) (iv 0)):=⟨by rw[A1];exact AD _,λ j h3 h4=>A0 (by have:w1.heap.size<=j:=h3;omega) _ _ _ _ _ _ _ _⟩;exact⟨⟨_,_,rfl,(a6.since aa).base' (λ j hj _=>by show w.heap.size<=j;have:w1.heap.size<=j:=hj;omega),(ab.since aa).base (λ j hj _=>by show w.heap.size<=j;have:w1.heap.size<=j:=hj;omega)⟩,Ap (a3.trans (a4.mono (by omega))) (by omega) _ _ _ _ _ _ _ _⟩
 clear hP a6 ab a7;go_wp2_with fail;exact bodyPost_ret (by simp[results,results168,go_sem,ah,r0,r1,r2,r3,r4,r5,r6,r7]) rfl a5
theorem Xs{o n:Nat}{t:AQ}{args:List Px.Ex}{c:Ck.Cx}{B:AS}{row:AR}(hc:CkAt w b mb c)(ad:CxOk c)(hr:SlRow B w 8 sl args.length row)(ha:Aj B w args row) :
  AA 168 #[pt b 0,.agg (exA 1 o n t sl p)] w λ e w'=>Ae w (.inl (.mk 1 0 n [] 0 Ck.tInt [])) e w':=by
 obtain⟨k,Hk⟩:∃k:Nat,Hid (1=k):=⟨_,rfl⟩;have s1:((k:Int) == 1)=true:=by rw[<-Hk.out];rfl
 rw[Hk.out];obtain⟨w0,w1,ab,a9,l0,l1,a3,a6,a5⟩:=Az w (iv k) (iv o) (iv n) (strV t) (iv 0) sE sl (iv p);have a8:=hc.keep a3;have a7:=hr.since (Since.of_below a3);have a4:=ha.since (Since.of_below a3);obtain⟨ao,cap,rfl,-,-⟩:=hr.val;obtain⟨d0,d1,d2,d3,d4,d5,d6,d7,-⟩:=Ac a6;obtain⟨r0,r1,r2,r3,r4,r5,r6,r7,t0,t1,aa,t3,ae,t5,t6,t7⟩:=Ac a5;have a0:Ae w (.inl (.mk k 0 n [] 0 Ck.tInt [])) (.returned (.agg #[iv k,iv 0,iv n,sE,iv 0,.string ⟨#[105,110,116]⟩,sZ,iv 0])) (setc8 w1 w0.heap.size (iv k) (iv 0) (iv n) sE (iv 0) (.string ⟨#[105,110,116]⟩) sZ (iv 0)):=⟨⟨_,_,rfl,SlRow.nil8,Aw.nil⟩,Ap a3 (by omega) _ _ _ _ _ _ _ _⟩;clear hc hr ha a7 a4 a8 Hk;go_enter func168,ntmps168;go_wp2_with fail;exact bodyPost_ret (by simp[results,results168,go_sem,l1,r0,r1,r2,r3,r4,r5,r6,r7]) rfl a0
theorem T2{o n:Nat}{t:AQ}{args:List Px.Ex}{c:Ck.Cx}{B:AS}{row:AR}(hc:CkAt w b mb c)(ad:CxOk c)(hr:SlRow B w 8 sl args.length row)(ha:Aj B w args row) :
  AA 168 #[pt b 0,.agg (exA 2 o n t sl p)] w λ e w'=>Ae w (.inl (.mk 2 0 n [] 0 Ck.tBool [])) e w':=by
 obtain⟨k,Hk⟩:∃k:Nat,Hid (2=k):=⟨_,rfl⟩;have s1:((k:Int) == 1)=false:=by rw[<-Hk.out];rfl
 have s2:((k:Int) == 2)=true:=by rw[<-Hk.out];rfl
 rw[Hk.out];obtain⟨w0,w1,ab,a9,l0,l1,a3,a6,a5⟩:=Az w (iv k) (iv o) (iv n) (strV t) (iv 0) sE sl (iv p);have a8:=hc.keep a3;have a7:=hr.since (Since.of_below a3);have a4:=ha.since (Since.of_below a3);obtain⟨ao,cap,rfl,-,-⟩:=hr.val;obtain⟨d0,d1,d2,d3,d4,d5,d6,d7,-⟩:=Ac a6;obtain⟨r0,r1,r2,r3,r4,r5,r6,r7,t0,t1,aa,t3,ae,t5,t6,t7⟩:=Ac a5;have a0:Ae w (.inl (.mk k 0 n [] 0 Ck.tBool [])) (.returned (.agg #[iv k,iv 0,iv n,sE,iv 0,.string ⟨#[98,111,111,108]⟩,sZ,iv 0])) (setc8 w1 w0.heap.size (iv k) (iv 0) (iv n) sE (iv 0) (.string ⟨#[98,111,111,108]⟩) sZ (iv 0)):=⟨⟨_,_,rfl,SlRow.nil8,Aw.nil⟩,Ap a3 (by omega) _ _ _ _ _ _ _ _⟩;clear hc hr ha a7 a4 a8 Hk;go_enter func168,ntmps168;go_wp2_with fail;exact bodyPost_ret (by simp[results,results168,go_sem,l1,r0,r1,r2,r3,r4,r5,r6,r7]) rfl a0
theorem T3{o n:Nat}{t:AQ}{args:List Px.Ex}{c:Ck.Cx}{B:AS}{row:AR}(hc:CkAt w b mb c)(al:CxOk c)(hr:SlRow B w 8 sl args.length row)(ha:Aj B w args row)(aj:t.length<=1000) :
  AA 168 #[pt b 0,.agg (exA 3 o n t sl p)] w λ e w'=>Ae w (.inl (.mk 3 0 0 t 0 Ck.tText [])) e w':=by
 obtain⟨k,Hk⟩:∃k:Nat,Hid (3=k):=⟨_,rfl⟩;have s1:((k:Int) == 1)=false:=by rw[<-Hk.out];rfl
 have s2:((k:Int) == 2)=false:=by rw[<-Hk.out];rfl
 have s3:((k:Int) == 3)=true:=by rw[<-Hk.out];rfl
 rw[Hk.out];obtain⟨w0,w1,ak,ah,l0,l1,a4,ae,ad⟩:=Az w (iv k) (iv o) (iv n) (strV t) (iv 0) sE sl (iv p);have ag:=hc.keep a4;have af:=hr.since (Since.of_below a4);have aa:=ha.since (Since.of_below a4);obtain⟨ao,cap,rfl,-,-⟩:=hr.val;obtain⟨d0,d1,d2,d3,d4,d5,d6,d7,-⟩:=Ac ae;have a9:=λ w'=>Vv.sclone_l t w' (by omega)
 clear hc hr ha af aa ag Hk;go_enter func168,ntmps168;go_wp2_with fail;refine Vv.wpE_begin (S:=λ w'=>w'.cell? ⟨w.heap.size,0,none⟩=some (iv k)/\w'.cell? ⟨w.heap.size,3,none⟩=some (strV t)) (N:=λ j=>decide (j<6)) (by kernel_rfl) ?_;have a5:w1.drew.cell? ⟨w.heap.size,0,none⟩=some (iv k)/\w1.drew.cell? ⟨w.heap.size,3,none⟩=some (strV t):=⟨d0,d3⟩;refine Aa 23 [6] 0 (pt w.heap.size 0) a5 ?_
 try simp only[aP]
 refine Aa 24 [6] 1 (iv k) a5 ?_
 try simp only[aP]
 refine Aa 25 [6] 2 (pt w.heap.size 3) a5 ?_
 try simp only[aP]
 refine Aa 26 [6] 3 (strV t) a5 ?_
 try simp only[aP]
 refine Ah 4 λ K hK=>?_
 go_simp;refine (a9 _).mono ?_;rintro e w2 ⟨rfl,a0⟩;have a6:Below w1.heap.size w1 w2:=⟨a0.os,a0.tape,a0.output,a0.size,a0.block⟩;have a8:w2.cell? ⟨w.heap.size,0,none⟩=some (iv k)/\w2.cell? ⟨w.heap.size,3,none⟩=some (strV t):=⟨((bcell a6).1 _ _ (by omega)).trans d0,((bcell a6).1 _ _ (by omega)).trans d3⟩;refine hK _ _ (λ _=>a8) ?_;clear hK K a9
 try simp only[aP]
 refine Ah 5 λ K hK=>?_
 go_simp;refine hK _ _ (λ _=>a8) ?_;clear hK K
 try simp only[aP]
 have a7:=(a6.block _ l1).trans ad;obtain⟨r0,r1,r2,r3,r4,r5,r6,r7,t0,t1,ai,t3,am,t5,t6,t7⟩:=Ac a7;have ab:w0.heap.size<w2.heap.size:=(AB a7).1;have a3:Ae w (.inl (.mk k 0 0 t 0 Ck.tText [])) (.returned (.agg #[iv k,iv 0,iv 0,strV t,iv 0,.string ⟨#[116,101,120,116]⟩,sZ,iv 0])) (setc8 w2 w0.heap.size (iv k) (iv 0) (iv 0) (strV t) (iv 0) (.string ⟨#[116,101,120,116]⟩) sZ (iv 0)):=⟨⟨_,_,rfl,SlRow.nil8,Aw.nil⟩,Ap (a4.trans (a6.mono (by omega))) (by omega) _ _ _ _ _ _ _ _⟩;refine Ah 6 λ K hK=>?_
 go_simp;refine hK _ _ (λ h=>by cases h) ?_;clear hK K
 try simp only[aP]
 refine Vv.wpE_done (by kernel_rfl) ?_;clear a7;simp only[Exit.inBlock,Exit.then];refine ‹∀(a:Act) (w:World),_->_› _ _ ?_;go_wp2_with fail;exact bodyPost_ret (by simp[results,results168,go_sem,ab,r0,r1,r2,r3,r4,r5,r6,r7]) rfl a3
mutual
def ShE:Px.Ex->Prop
 | .mk k o n t args p=>(k=1\/k=2\/(k=3/\t.length<=1000)\/k=6\/(k=7/\args.length<=1000000)\/(k=12/\args.length=2)\/(k=13/\args.length=1)\/(k=14/\args.length=1)\/(k=15/\args.length=2))/\K8 args
def K8:List Px.Ex->Prop
 | []=>True
 | x :: r=>ShE x/\K8 r
end
theorem T4{α:Type}{l:List α}(h:l.length=2):∃x y,l=[x,y]:=by
 match l,h with
 | [x,y],_=>exact⟨x,y,rfl⟩
mutual
theorem expr_ok:∀(x:Px.Ex),ShE x->EOk x
 | .mk k o n t args p,h=>by
  rw[ShE] at h;obtain⟨hk,ha⟩:=h;have hA:∀x∈args,EOk x:=Cr args ha;intro k' o' n' t' args' p' e w b mb c B sl row hc hok hr hall;simp only[Px.Ex.mk.injEq] at e;obtain⟨rfl,rfl,rfl,rfl,rfl,rfl⟩:=e;rw[Ck.cE];unfold Ck.comb;rcases hk with rfl | rfl | ⟨rfl,h3⟩ | rfl | ⟨rfl,h7⟩ | ⟨rfl,h2⟩ | ⟨rfl,h1⟩ | ⟨rfl,h1⟩ | ⟨rfl,h2⟩
  .exact Xs hc hok hr hall
  .exact T2 hc hok hr hall
  .exact T3 hc hok hr hall h3
  .exact T0 hc hok hr hall
  .simp only[Nat.reduceEqDiff,if_false,if_true];by_cases hb:Ck.bkind t=0
   .rw[if_pos hb];exact T1 hc hok hr hall hA h7 hb
   .rw[if_neg hb];exact Ad0 hc hok hr hall hA hb
  .obtain⟨x,y,rfl⟩:=T4 h2;exact Ad1 hc hok hr hall (hA x (by simp)) (hA y (by simp))
  .obtain⟨x,rfl⟩:=length_eq_one_iff.1 h1;exact Ad2 hc hok hr hall (hA x (by simp))
  .obtain⟨x,rfl⟩:=length_eq_one_iff.1 h1;exact Ad3 hc hok hr hall (hA x (by simp))
  .obtain⟨x,y,rfl⟩:=T4 h2;exact Xr hc hok hr hall (hA x (by simp)) (hA y (by simp))
theorem Cr:∀(l:List Px.Ex),K8 l->∀x∈l,EOk x
 | [],_=>λ x hx=>by cases hx
 | y :: r,h=>by
  rw[K8] at h;have h1:=expr_ok y h.1;have h2:=Cr r h.2;intro x hx;rcases mem_cons.1 hx with rfl | hx
  .exact h1
  .exact h2 x hx
end
structure Fm(X:AS)(w w':World):Prop where
 os:w'.os=w.os
 tape:w'.tape=w.tape
 output:w'.output=w.output
 size:w.heap.size<=w'.heap.size
 block:∀j,j<w.heap.size->¬X j->w'.heap[j]?=w.heap[j]?
theorem Fm.refl(X:AS)(w:World):Fm X w w:=⟨rfl,rfl,rfl,AD _,λ _ _ _=>rfl⟩
theorem Fm.of_below{X:AS}(h:Below w.heap.size w w'):Fm X w w':=⟨h.os,h.tape,h.output,h.size,λ j h1 _=>h.block j h1⟩
abbrev BE:=@Fm.of_below
theorem Fm.trans{X Y Z:AS}(h:Fm X w w1)(k:Fm Y w1 w2)(hX:∀j,j<w.heap.size->X j->Z j)(hY:∀j,j<w.heap.size->Y j->Z j):Fm Z w w2:=⟨k.os.trans h.os,k.tape.trans h.tape,k.output.trans h.output,AP h.size k.size,λ j h1 h2=>(k.block j (AL h1 h.size) (λ e=>h2 (hY j h1 e))).trans (h.block j h1 (λ e=>h2 (hX j h1 e)))⟩
theorem Fm.mono{X Z:AS}(h:Fm X w w')(hX:∀j,j<w.heap.size->X j->Z j):Fm Z w w':=⟨h.os,h.tape,h.output,h.size,λ j h1 h2=>h.block j h1 (λ e=>h2 (hX j h1 e))⟩
theorem Fm.since{X B:AS}(h:Fm X w w')(hX:∀j,B j->¬X j):Since B w w':=⟨h.size,λ j h1 h2=>h.block j h2 (hX j h1)⟩
theorem Fm.below{X:AS}(h:Fm X w w'){n:Nat}(hn:n<=w.heap.size)(hX:∀j,X j->n<=j):Below n w w':=⟨h.os,h.tape,h.output,h.size,λ j hj=>h.block j (by omega) (λ e=>by have:=hX j e;omega)⟩
theorem Fm.set{X:AS}(hg:X g)(o:Nat)(v:Value):Fm X w (w.setCell ⟨g,o,none⟩ v):=⟨rfl,rfl,rfl,by simp[World.setCell],λ j _ h=>AG _ _ _ _ (by show j≠g;rintro rfl;exact h hg)⟩
theorem Fm.setB{X:AS}{w:World}{g:Nat}(hg:X g)(o:Obj):Fm X w (setB w g o):=⟨rfl,rfl,rfl,by rw[Xk];exact AD _,λ j _ h=>Tq (by rintro rfl;exact h hg)⟩
theorem Fm.grown{X:AS}(h:w.grownBy w' v.ownBlock)(hX:∀j,v.ownBlock=some j->X j):Fm X w w':=⟨h.os,h.tape,h.output,h.size,λ j h1 h2=>h.block j h1 (λ e=>h2 (hX j e.symm))⟩
def Strs(n0:Nat)(w:World)(v:Value)(l:List (List UInt8)):Prop:=w.ownsRow n0 9 1 v l.length (l.map strV)
theorem Ak1:(prog.info? 9).map (λ i=>(i.zero,i.size,i.bytes))=some (some sE,1,16):=by kernel_rfl
theorem Strs.nil(n0:Nat)(w:World):Strs n0 w sZ []:=⟨rfl,AI ⟨rfl,rfl⟩⟩
theorem Strs.slice{l:List (List UInt8)}(h:Strs n0 w v l):∃ao cap,v=.slice ao l.length cap/\l.length<=cap/\cap<=9223372036854775807:=by
 rcases h.2 with⟨e,h0⟩ | ⟨g,cap,cur,e,h4,h5,h6,h7,_⟩
 .exact⟨none,0,by rw[e,h0],by omega,by omega⟩
 .exact⟨_,cap,e,h6,by unfold maxLen at h7;omega⟩
theorem Strs.since{l:List (List UInt8)}(h:Strs n0 w v l)(e:∀j,v.ownBlock=some j->w'.heap[j]?=w.heap[j]?):Strs n0 w' v l:=by
 refine⟨h.1,?_⟩;rcases h.2 with h3 | ⟨g,cap,cur,h3,h4,h5,h6⟩
 .exact AI h3
 .exact AJ ⟨g,cap,cur,h3,h4,by rw[e g (by rw[h3];rfl)];exact h5,h6⟩
theorem Strs.lt{l:List (List UInt8)}(h:Strs n0 w v l)(e:v.ownBlock=some j):n0<=j/\j<w.heap.size:=World.ownsRow.lt h j e
theorem Strs.get{l:List (List UInt8)}(h:Strs n0 w v l)(hi:l[i]?=some x):∃g cap,v=sL g 0 l.length cap/\g<w.heap.size/\w.cell? ⟨g,i,none⟩=some (strV x):=by
 have a3:=(AK hi).1;rcases h.2 with⟨e,h0⟩ | ⟨g,cap,cur,h3,h4,h5,h6,h7,h8,h9⟩
 .omega
 .refine⟨g,cap,h3,(AB h5).1,?_⟩;rw[Bf h5];have a0:(l.map strV)[i]?=some (strV x):=by rw[List.getElem?_map,hi];rfl
  rw[<-h9,List.getElem?_take] at a0;split at a0
  .simpa using a0
  .cases a0
theorem Strs.push{l:List (List UInt8)}(h:Strs n0 w v l){g0:Nat}(hb:w.heap[g0]?=some (.cells #[strV x] 9 (0,0)))(hn:n0<=w.heap.size)(hl:l.length<=100000)(c:Nat)(ty:TypeId) :
  ∃g cap w',(Builtin.append_ #[33,33] ty #[v,sL g0 0 1 c]).run prog w=.ok (sL g 0 (l.length+1) cap) w'/\Strs n0 w' (sL g 0 (l.length+1) cap) (l ++ [x])/\w.grownBy w' v.ownBlock/\(v.ownBlock=some g\/w.heap.size<=g):=by
 obtain⟨i,hi,hz,hs,a3⟩:=Es Ak1;obtain⟨g,cap,w',hr,ho,hg,a0,a5⟩:=run_append_lies (P:=prog) w 33 ty n0 9 i _ 1 16 underlying33 hi hz hs a3 rfl (by decide) v l.length (l.map strV) h ⟨g0,0,none⟩ 1 c [strV x] rfl (λ j u hj=>by
  have a4:j=0:=by have:=(AK hj).1;simp at this;omega
  subst a4;simp only[List.getElem?_cons_zero,Option.some.injEq] at hj;subst hj;have:=Bf hb 0;simpa [Addr.add] using this) (λ u hu=>by simp at hu;subst hu;rfl) (by omega) (by unfold maxLen;omega) (by omega) hn _ rfl
 refine⟨g,cap,w',hr,?_,hg,?_⟩
 .have:(l ++ [x]).length=l.length+1:=by simp
  unfold Strs;rw[this,map_append];exact ho
 .rcases a0 with h | h
  .exact AI h
  .exact AJ (by omega)
structure Sc(n0 b cb nb:Nat)(nv:Value)(names:List (List UInt8))(w:World):Prop where
 cbk:w.heap[cb]?=some (.cells #[pt b 0] 97 (0,0))
 nbk:w.heap[nb]?=some (.cells #[nv] 33 (0,0))
 own:Strs n0 w nv names
 cn:n0<=cb
 nn:n0<=nb
 ne:cb≠nb
 a1:nv.ownBlock≠some cb
 a2:nv.ownBlock≠some nb
theorem Sc.keep{cb nb:Nat}{nv:Value}{names:List (List UInt8)}(h:Sc n0 b cb nb nv names w)(e:∀j,(j=cb\/j=nb\/nv.ownBlock=some j)->w'.heap[j]?=w.heap[j]?):Sc n0 b cb nb nv names w':=
 ⟨(e cb (AI rfl)).trans h.cbk,(e nb (AJ (AI rfl))).trans h.nbk,h.own.since (λ j hj=>e j (AJ (AJ hj))),h.cn,h.nn,h.ne,h.a1,h.a2⟩
theorem K9{y:Value}(h:w.heap[g]?=some (.cells #[y] T (0,0))):w.cell? ⟨g,0,none⟩=some y/\w.frozen? ⟨g,0,none⟩=false/\g<w.heap.size:=⟨by simp[World.cell?,h],by simp[World.frozen?,h],(AB h).1⟩
theorem Dj(h:w.grownBy w' v.ownBlock)(h1:j<w.heap.size)(h2:v.ownBlock≠some j):w'.heap[j]?=w.heap[j]?:=h.block j h1 (λ e=>h2 e.symm)
theorem At6(a b c:Value)(w:World):(Instr.field 125 (.agg #[a,b,c]) 0).run prog w=.ok a w:=by kernel_rfl
def La(n0 b mb cb nb:Nat)(nv:Value)(names:List (List UInt8))(x:AQ)(w:World)(r:Ck.R Ck.Env)(e:Ending)(w':World):Prop:=
 match r with
 | .inl env'=>e=.returned (.tuple #[])/\A7 w' mb env'/\(∃nv',Sc n0 b cb nb nv' (names ++ [x]) w'/\(∀j,nv'.ownBlock=some j->nv.ownBlock=some j\/w.heap.size<=j))/\Fm (λ j=>j=mb\/j=nb\/nv.ownBlock=some j) w w'
 | .inr (a,er)=>e=.panicked (Af a er)/\Below w.heap.size w w'
theorem Lb{cb nb num:Nat}{lv nv:Value}{names:List (List UInt8)}{env:Ck.Env}(ae:w.heap[b]?=some (.cells #[v0,ss,fs,.map (some mb),iv num,lv] 62 (0,0)))(he:A7 w mb env)(b5:Do env)(hs:Sc n0 b cb nb nv names w)(hn:n0<=w.heap.size)(br:mb<n0)(bg:names.length<=100000)(x:AQ)(p:Nat)(m:Mng) :
  AA 112 #[strV x,iv p,G3 m,pt cb 0,pt nb 0] w λ e w'=>La n0 b mb cb nb nv names x w (Ck.note env x p m) e w':=by
 obtain⟨w0,az⟩:∃w0,w.alloc (.cells #[iv m.kind,iv m.slot,strV m.type] 125)=w0:=⟨_,rfl⟩;have ak:Below w.heap.size w w0:=by rw[<-az];exact (AF _ _).alloc (AD _) _
 have l0:w.heap.size<w0.heap.size:=by rw[<-az];simp
 have b8:w0.heap[w.heap.size]?=some (.cells #[iv m.kind,iv m.slot,strV m.type] 125 (0,0)):=by rw[<-az];exact heap_new _ _
 have bf:b<w.heap.size:=(AB ae).1;have a8:=(ak.block _ bf).trans ae;obtain⟨c0,c1,c2,c3,c4,c5,-⟩:=Bc a8;have au:=he.since (ak.block _ he.lt);have bh:cb<w.heap.size:=(AB hs.cbk).1;have b0:nb<w.heap.size:=(AB hs.nbk).1;have ab:Sc n0 b cb nb nv names w0:=hs.keep (λ j hj=>ak.block j (by rcases hj with rfl | rfl | h;exact bh;exact b0;exact (hs.own.lt h).2));obtain⟨q0,q1,q2⟩:=K9 ab.cbk;obtain⟨d0,d1,d2,-⟩:=Ar b8;have bc:=E6 au x;have hB:=Fu x w0;have hf:=At6;obtain⟨na,nc,rfl,-,-⟩:=hs.own.slice;obtain⟨R,HR⟩:∃R,Hid (Ck.note env x p m=R):=⟨_,rfl⟩;rw[HR.out];have a7:Hid (R=Ck.bind (Ck.need (Ck.bkind x == 0 && (Ck.look env x).kind == 0) p 34) λ _=>.inl (env ++ [(x,m)])):=HR.out.symm;have am:Hid ((Ck.look env x).kind=0->fnd env x 0=none):=λ h=>fnd_none env x 0 b5 h
 generalize Ck.look env x=L at *;obtain⟨lk,bj,lt⟩:=L;simp only at a7 am;clear HR;have af:Hid (∀w',Below w0.heap.size w0 w'->La n0 b mb cb nb (.slice na names.length nc) names x w (.inr (p,34)) (.panicked (Af p 34)) w'):=λ w' hb'=>⟨rfl,ak.trans (hb'.mono (by omega))⟩
 by_cases hbk:Ck.bkind x=0
 rotate_left
 .have ai:(Ck.bkind x != 0)=true:=by simpa using hbk
  have al:(Ck.bkind x == 0)=false:=by simpa using hbk
  rw[ai] at hB;have a6:R=.inr (p,34):=by rw[a7.out,al];rfl
  have a0:=af.out w0 (AF _ _);rw[<-a6] at a0;clear ai al hbk a6 a7;go_enter func112,ntmps112;go_wp2_with fail;refine hB.mono ?_;rintro e w1 ⟨rfl,a4⟩;obtain rfl:=a4.symm;clear hB a4;go_wp2_with fail;refine (Ao p 34 _).mono ?_;rintro e w1 ⟨rfl,rfl⟩;exact⟨rfl,a0⟩
 have ai:(Ck.bkind x != 0)=false:=by rw[hbk];rfl
 have al:(Ck.bkind x == 0)=true:=by rw[hbk];rfl
 rw[ai] at hB;rw[al,Bool.true_and] at a7;clear ai al hbk;by_cases hlk0:lk=0
 rotate_left
 .have b6:((lk:Int) == 0)=false:=by rw[beq_eq_false_iff_ne];omega
  have b4:(lk == 0)=false:=by rw[beq_eq_false_iff_ne];exact hlk0
  have a6:R=.inr (p,34):=by rw[a7.out,b4];rfl
  have a0:=af.out w0 (AF _ _);rw[<-a6] at a0;clear b4 hlk0 a6 a7 am;go_enter func112,ntmps112;go_wp2_with fail;refine hB.mono ?_;rintro e w1 ⟨rfl,a4⟩;obtain rfl:=a4.symm;clear hB a4;go_wp2_with fail;refine (Ao p 34 _).mono ?_;rintro e w1 ⟨rfl,rfl⟩;exact⟨rfl,a0⟩
 have b6:((lk:Int) == 0)=true:=by simp[hlk0]
 have ba:=am.out hlk0;have a6:Hid (R=.inl (env ++ [(x,m)])):=by show _=_;rw[a7.out,hlk0];rfl
 clear hlk0 a7 am af;go_enter func112,ntmps112;go_wp2_with fail;refine hB.mono ?_;rintro e w1 ⟨rfl,a4⟩;obtain rfl:=a4.symm;clear hB a4;go_wp2_with fail;refine (Av p 34 _).mono ?_;rintro e w1 ⟨rfl,a4⟩;obtain rfl:=a4.symm;clear a4 bc b6;go_wp2_with fail;refine Vv.wpE_begin (S:=λ w'=>w'.cell? ⟨cb,0,none⟩=some (pt b 0)/\w'.cell? ⟨b,3,none⟩=some (.map (some mb))/\w'.cell? ⟨w.heap.size,0,none⟩=some (iv m.kind)/\w'.cell? ⟨w.heap.size,1,none⟩=some (iv m.slot)/\w'.cell? ⟨w.heap.size,2,none⟩=some (strV m.type)) (N:=λ j=>decide (j<6)) (by kernel_rfl) ?_;have ad:w0.drew.cell? ⟨cb,0,none⟩=some (pt b 0)/\w0.drew.cell? ⟨b,3,none⟩=some (.map (some mb))/\w0.drew.cell? ⟨w.heap.size,0,none⟩=some (iv m.kind)/\w0.drew.cell? ⟨w.heap.size,1,none⟩=some (iv m.slot)/\w0.drew.cell? ⟨w.heap.size,2,none⟩=some (strV m.type):=⟨q0,c3,d0,d1,d2⟩;refine Aa 23 [6] 0 (pt b 0) ad ?_
 try simp only[aP]
 refine Aa 24 [6] 1 (pt b 0) ad ?_
 try simp only[aP]
 refine Aa 25 [6] 2 (pt b 3) ad ?_
 try simp only[aP]
 refine Aa 26 [6] 3 (.map (some mb)) ad ?_
 try simp only[aP]
 refine Aa 27 [6] 4 (strV x) ad ?_
 try simp only[aP]
 refine Aa 28 [6] 5 (G3 m) ad ?_
 try simp only[aP]
 have hu:=Tr (w:=w0.drew) au x m ba;obtain⟨ob,b9,b3⟩:=hu;obtain⟨w1,ay⟩:∃w1,setB w0.drew mb ob=w1:=⟨_,rfl⟩;rw[ay] at b9 b3;refine Ah 6 λ K hK=>?_
 go_simp;refine hK _ _ (λ h=>by cases h) ?_;clear hK K
 try simp only[aP]
 refine Vv.wpE_done (by kernel_rfl) ?_;have aq:Fm (λ j=>j=mb) w0 w1:=by
  rw[<-ay];have h1:Fm (λ j=>j=mb) w0.drew (setB w0.drew mb ob):=Fm.setB (X:=λ j=>j=mb) (g:=mb) rfl ob;exact⟨h1.os,h1.tape,h1.output,h1.size,h1.block⟩
 have bl:=aq.size;have av:mb≠cb/\mb≠nb:=⟨by have:=ab.cn;omega,by have:=ab.nn;omega⟩;have ar:Sc n0 b cb nb (.slice na names.length nc) names w1:=ab.keep (λ j hj=>aq.block j (by rcases hj with rfl | rfl | h;omega;omega;exact (ab.own.lt h).2) (by rintro rfl;rcases hj with h | h | h;exact av.1 h;exact av.2 h;have:=(ab.own.lt h).1;omega));obtain⟨w2,ax⟩:∃w2,w1.alloc (.cells #[strV x] 9)=w2:=⟨_,rfl⟩;have aw:Below w1.heap.size w1 w2:=by rw[<-ax];exact (AF _ _).alloc (AD _) _
 have l2:w1.heap.size<w2.heap.size:=by rw[<-ax];simp
 have a5:w2.heap[w1.heap.size]?=some (.cells #[strV x] 9 (0,0)):=by rw[<-ax];exact heap_new _ _
 have a3:Sc n0 b cb nb (.slice na names.length nc) names w2:=ar.keep (λ j hj=>aw.block j (by rcases hj with rfl | rfl | h;omega;omega;exact (ar.own.lt h).2));obtain⟨g3,bb,w3,be,b7,ah,ag⟩:=a3.own.push a5 (by omega) bg 1 33;obtain⟨w4,aj⟩:∃w4,w3.setCell ⟨nb,0,none⟩ (sL g3 0 (names.length+1) bb)=w4:=⟨_,rfl⟩;have a9:w3.heap[nb]?=some (.cells #[.slice na names.length nc] 33 (0,0)):=(Dj ah (by omega) a3.a2).trans a3.nbk;have aa:g3≠cb/\g3≠nb:=by
  rcases ag with h | h
  .exact⟨λ e=>a3.a1 (by rw[<-e];exact h),λ e=>a3.a2 (by rw[<-e];exact h)⟩
  .exact⟨by omega,by omega⟩
 have a0:La n0 b mb cb nb (.slice na names.length nc) names x w R (.returned (.tuple #[])) w4:=by
  rw[a6.out];have bi:Fm (λ j=>j=mb\/j=nb\/(Value.slice na names.length nc).ownBlock=some j) w w4:=by
   have h1:Fm (λ j=>j=mb\/j=nb\/(Value.slice na names.length nc).ownBlock=some j) w w1:=(Fm.of_below (X:=λ _=>False) ak).trans aq (λ _ _ h=>h.elim) (λ j _ h=>AI h);have h2:Fm (λ j=>j=mb\/j=nb\/(Value.slice na names.length nc).ownBlock=some j) w w2:=h1.trans (Fm.of_below (X:=λ _=>False) aw) (λ _ _ h=>h) (λ _ _ h=>h.elim);have h3:Fm (λ j=>j=mb\/j=nb\/(Value.slice na names.length nc).ownBlock=some j) w w3:=h2.trans (Fm.grown (X:=λ j=>(Value.slice na names.length nc).ownBlock=some j) ah (λ j h=>h)) (λ _ _ h=>h) (λ _ _ h=>AJ (AJ h));rw[<-aj];exact h3.trans (Fm.set (X:=λ j=>j=nb) rfl 0 _) (λ _ _ h=>h) (λ _ _ h=>AJ (AI h))
  have bn:=ah.size;refine⟨rfl,?_,⟨sL g3 0 (names.length+1) bb,⟨?_,?_,?_,a3.cn,a3.nn,a3.ne,?_,?_⟩,λ j hj=>?_⟩,bi⟩
  .have bo:=he.lt;refine b3.since ?_;rw[<-aj,Below.heap_setCell _ _ _ _ (by show mb≠nb;exact av.2),Dj ah (by omega) (λ h=>by have:=(a3.own.lt h).1;omega),aw.block _ (by omega)]
  .rw[<-aj,Below.heap_setCell _ _ _ _ (by show cb≠nb;exact a3.ne),Dj ah (by omega) a3.a1];exact a3.cbk
  .rw[<-aj];simp[World.setCell,Array.getElem?_modify,a9]
  .refine b7.since (λ j hj=>?_);have:g3=j:=by simpa [Value.ownBlock] using hj
   rw[<-aj,Below.heap_setCell _ _ _ _ (by show j≠nb;rw[<-this];exact aa.2)]
  .simp[Value.ownBlock];exact aa.1
  .simp[Value.ownBlock];exact aa.2
  .have h5:g3=j:=by simpa [Value.ownBlock] using hj
   rcases ag with h | h
   .exact AI (by rw[<-h5];exact h)
   .exact AJ (by omega)
 obtain⟨m0,m1,m2⟩:=K9 a3.nbk;obtain⟨bk,bq,bp⟩:=K9 ar.nbk;obtain⟨p0,p1,p2⟩:=K9 a9;clear b7 ar a3 ab hs he au b3 aq ae a8 b8 a5 a9 ah ag a6 ad b5 ba ay b9;simp only[Exit.inBlock,Exit.then];refine ‹∀(a:Act) (w:World),_->_› _ _ ?_;go_wp2_with (at_builtin;refine Lib.wpList_append_run _ rfl _ _ 33 33 rfl _ _ rfl rfl _ _ be ?_);exact bodyPost_end (results_none rfl _ _ _) rfl a0
end
end Go.Proofs.YtpckmjfabiallaaGreatDoor
