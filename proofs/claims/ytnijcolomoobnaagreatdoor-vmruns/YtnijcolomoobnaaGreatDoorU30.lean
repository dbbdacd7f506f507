/- Texts of ours, joined. -/
import Derived.Test.YtnijcolomoobnaaGreatDoorU28
import Derived.Test.YtnijcolomoobnaaGreatDoorU26
import Derived.Test.YtnijcolomoobnaaGreatDoorU27
import Derived.Test.YtnijcolomoobnaaGreatDoorU22
import Derived.Test.YtnijcolomoobnaaGreatDoorU23
import Derived.Test.YtnijcolomoobnaaGreatDoorU18
set_option linter.unusedVariables false
set_option linter.unusedSimpArgs false
set_option maxRecDepth 100000
set_option maxHeartbeats 16000000
namespace Go.Proofs.YtnijcolomoobnaaGreatDoor
section
open Go.RowKit
attribute [local go_sem ↓] Go.wp_at_zero Go.wp_at_succ
def RMk(p:Nat)(cs fs ss:Value)(fl:Int)(o:V × Int)(w:World)(r:Ending)(w':World):Prop:=(∃ao cap,r=.returned (.agg #[iv o.1.k,iv o.1.n,.string ⟨o.1.t.toArray⟩,.slice ao o.1.l.length cap])∧IsW (From w.heap.size) w' o.1 (.slice ao o.1.l.length cap))∧Mc p w' cs fs ss fl o.2∧Fr (fun k=>k≠p) w w'
def Cw(G:Nat->Prop)(p gh:Nat)(s:Option (List Int × List Nat))(w:World)(e:Ending)(w':World):Prop:=Fr G w w'∧e=.returned (.bool s.isSome)∧∀x,s=some x->Wk G p gh x.1 x.2 w'
theorem Qx{G:Nat->Prop}{p gh:Nat}{hs:List Int}{td:List Nat}{w:World}(h:Wk G p gh hs td w)(hlen:hs.length<=900000)(htd:td.length<=50000){q:Nat}(hq:q<=9000000)(x:Int)(hy:hs[q]?=none):Calls Tryz.prog 146 #[pt p 0,iv q,iv x] w fun e w'=>Cw G p gh none w e w':=by
 obtain⟨tv,b1,b2,b3,b4,b5⟩:=h.bx;obtain⟨c0,c1,f0,f1,hlp⟩:=Ae b1;have hq0:(0:Int)<=(q:Int):=by omega
 have hge:(hs.length:Int)<=(q:Int):=by have:=List.getElem?_eq_none_iff.1 hy;omega
 have hpost:Cw G p gh none w (.returned (.bool false)) w:=⟨Fr.refl _ _,rfl,fun x h=>by cases h⟩;clear b1 b2 b3 b4 b5 h hy;go_enter Tryz.func146,Tryz.ntmps146;go_wp2;go_ret;exact hpost
theorem Qy{G:Nat->Prop}{p gh:Nat}{hs:List Int}{td:List Nat}{w:World}(h:Wk G p gh hs td w)(hlen:hs.length<=900000)(htd:td.length<=50000){q:Nat}{x y:Int}(hx:0<=x∧x<=900)(hy:hs[q]?=some y)(hyb:1<=y∧y<=1000):Calls Tryz.prog 146 #[pt p 0,iv q,iv x] w fun e w'=>Cw G p gh (if y - 1=x then some (hs,td) else none) w e w':=by
 obtain⟨tv,b1,b2,b3,b4,b5⟩:=h.bx;obtain⟨c0,c1,f0,f1,hlp⟩:=Ae b1;have hq0:(0:Int)<=(q:Int):=by omega
 have hql:=(List.getElem?_eq_some_iff.1 hy).1;have hI:(q:Int)<(hs.length:Int):=by omega
 have hnI:¬(hs.length:Int)<=(q:Int):=by omega
 obtain⟨k0,k1,k2⟩:=h.hk.get hy;have hyn:(y == 0)=false:=by rw[beq_eq_false_iff_ne];omega
 have hH:=Fp h hlen hy (by omega);have hpost:Cw G p gh (if y - 1=x then some (hs,td) else none) w (.returned (.bool (y - 1 == x))) w:=by
  by_cases e:y - 1=x
  ·rw[if_pos e];exact⟨Fr.refl _ _,by rw[e];simp,fun z hz=>by cases hz;exact h⟩
  ·rw[if_neg e];have e2:(y - 1 == x)=false:=by simpa using e
   exact⟨Fr.refl _ _,by rw[e2];rfl,fun z hz=>by cases hz⟩
 clear b1 b2 b3 b4 b5 h hy hql;obtain⟨S,hS⟩:∃S,Hid ((if y - 1=x then some (hs,td) else none)=S):=⟨_,rfl⟩;rw[hS.out] at hpost ⊢;clear hS;generalize y - 1=z at *;go_enter Tryz.func146,Tryz.ntmps146;go_wp2_with fail;refine hH.mono ?_;rintro e w1 ⟨rfl,rfl⟩;clear hH;go_wp2;go_ret;exact hpost
theorem Qz{G:Nat->Prop}{p gh:Nat}{hs:List Int}{td:List Nat}{w:World}(h:Wk G p gh hs td w)(hlen:hs.length<=900000)(htd:td.length<=50000){q:Nat}{x:Int}(hx:0<=x∧x<=900)(hy:hs[q]?=some 0):Calls Tryz.prog 146 #[pt p 0,iv q,iv x] w fun e w'=>Cw G p gh (some (hs.set q (x+1),td ++ [q])) w e w':=by
 obtain⟨tv,b1,b2,b3,b4,b5⟩:=h.bx;have htv:=b2.slice;rw[Im] at htv;obtain⟨ao,c00,rfl,-,-⟩:=htv;obtain⟨c0,c1,f0,f1,hlp⟩:=Ae b1;have hq0:(0:Int)<=(q:Int):=by omega
 have hql:=(List.getElem?_eq_some_iff.1 hy).1;have hI:(q:Int)<(hs.length:Int):=by omega
 have hnI:¬(hs.length:Int)<=(q:Int):=by omega
 obtain⟨k0,k1,k2⟩:=h.hk.get hy;obtain⟨x0,x1⟩:=hx;have hwx:IntKind.i64.wrap (x+1)=x+1:=by rw[IntKind.wrap_i64];omega
 obtain⟨w1,hW1⟩:∃w1,w.setCell ⟨gh,q,none⟩ (iv (x+1))=w1:=⟨_,rfl⟩;have hs1:w1.heap.size=w.heap.size:=by rw[<-hW1];simp[World.setCell]
 have hF1:Fr G w w1:=by rw[<-hW1];exact Fr.set h.ng _ _
 have hi1:El w1 gh (hs.set q (x+1)):=by rw[<-hW1];exact h.hk.set q (x+1)
 have b11:w1.heap[p]?=some (.cells #[sL gh 0 hs.length hs.length,.slice ao td.length c00] 152 (0,0)):=by rw[<-hW1];exact (Below.heap_setCell _ _ _ _ h.pg).trans b1
 have b21:Bt 0 w1 (.slice ao td.length c00) (tI td):=b2.since (fun j hj=>by rw[<-hW1];exact Below.heap_setCell _ _ _ _ (by rintro rfl;exact b4 hj));obtain⟨wa,hWa⟩:∃wa,w1.alloc (.cells #[iV (q:Int)] 3)=wa:=⟨_,rfl⟩;have hba:Below w1.heap.size w1 wa:=by rw[<-hWa];exact (Below.refl _ _).alloc (Nat.le_refl _) _
 have hxa:wa.heap[w1.heap.size]?=some (.cells #[iV (q:Int)] 3 (0,0)):=by rw[<-hWa];exact Ai _ _
 have b2a:Bt 0 wa (.slice ao td.length c00) (tI td):=b21.since (fun j hj=>hba.block j (b21.lt hj).2);obtain⟨g,cap,wb,hrun,hrow,hgr,hat⟩:=b2a.push hxa (Nat.zero_le _) (by rw[Im];omega) 1 122;rw[Im] at hrun hrow;have hFa:Fr G w1 wa:=Fr.of_below hba;have hFb:Fr G wa wb:=Fr.grown hgr (fun k hk=>b5 k hk);have hpa:p<wa.heap.size:=Nat.lt_of_lt_of_le (Array.getElem?_eq_some_iff.1 b11).1 hba.size;have hga:gh<wa.heap.size:=Nat.lt_of_lt_of_le (Array.getElem?_eq_some_iff.1 hi1).1 hba.size;have b1a:wa.heap[p]?=some (.cells #[sL gh 0 hs.length hs.length,.slice ao td.length c00] 152 (0,0)):=(hba.block _ (Array.getElem?_eq_some_iff.1 b11).1).trans b11;have b1b:wb.heap[p]?=some (.cells #[sL gh 0 hs.length hs.length,.slice ao td.length c00] 152 (0,0)):=(hgr.block p hpa (fun e=>b3 e.symm)).trans b1a;have hib:El wb gh (hs.set q (x+1)):=(hi1.keep (hba.block _ (Array.getElem?_eq_some_iff.1 hi1).1)).keep (hgr.block gh hga (fun e=>b4 e.symm));obtain⟨w3,hW3⟩:∃w3,wb.setCell ⟨p,1,none⟩ (sL g 0 (td.length+1) cap)=w3:=⟨_,rfl⟩;have hgp:g≠p∧g≠gh∧¬G g:=by
  rcases hat with e | e
  ·exact⟨by rintro rfl;exact b3 e,by rintro rfl;exact b4 e,b5 g e⟩
  ·refine⟨by omega,by omega,fun hG=>?_⟩;have:=h.gb g hG;have:=hba.size;omega
 have hF3:Fr G wb w3:=by rw[<-hW3];exact Fr.set h.np _ _
 have hF:Fr G w w3:=((hF1.trans hFa).trans hFb).trans hF3;have hk3:Wk G p gh (hs.set q (x+1)) (td ++ [q]) w3:=by
  refine⟨?_,⟨sL g 0 (td.length+1) cap,?_,?_,?_,?_,?_⟩,h.np,h.ng,h.pg,fun k hk=>Nat.lt_of_lt_of_le (h.gb k hk) hF.size⟩
  ·rw[<-hW3];exact hib.keep (Below.heap_setCell _ _ _ _ (Ne.symm h.pg))
  ·rw[<-hW3,List.length_set];exact Nv b1b _
  ·have e:tI (td ++ [q])=tI td ++ [(q:Int)]:=by simp[tI]
   rw[e];refine hrow.since (fun j hj=>?_);rw[<-hW3];refine Below.heap_setCell _ _ _ _ ?_;rintro rfl;have:g=j:=by simpa [Value.ownBlock] using hj
   exact hgp.1 this
  ·intro e;have:g=p:=by simpa [Value.ownBlock] using e
   exact hgp.1 this
  ·intro e;have:g=gh:=by simpa [Value.ownBlock] using e
   exact hgp.2.1 this
  ·intro k e;have:g=k:=by simpa [Value.ownBlock] using e
   rw[<-this];exact hgp.2.2
 have hH:=Fp hk3 (by rw[List.length_set];exact hlen) (q:=q) (y:=x+1) (List.getElem?_set_self hql) (by omega);have hpost:Cw G p gh (some (hs.set q (x+1),td ++ [q])) w (.returned (.bool true)) w3:=⟨hF,rfl,fun z hz=>by cases hz;exact hk3⟩;obtain⟨c01,c11,f01,f11,-⟩:=Ae b11;obtain⟨c0b,c1b,f0b,f1b,hlb⟩:=Ae b1b;obtain⟨c0a,c1a,f0a,f1a,hla⟩:=Ae b1a;have hwy:x+1 - 1=x:=by omega
 rw[hwy] at hH;clear hs1 b1 b2 b3 b4 b5 h hy hF hF1 hFa hFb hF3 hk3 hgp hib hi1 b11 b21 b2a b1a b1b hrow hgr hat hba hxa hpa hga hwy;go_enter Tryz.func146,Tryz.ntmps146;go_wp2_with (at_builtin;refine Lib.wpList_append_run _ rfl _ _ 122 122 rfl _ _ rfl rfl _ _ hrun ?_;clear hrun);refine hH.mono ?_;rintro e w4 ⟨rfl,rfl⟩;clear hH;go_wp2;go_ret;exact hpost
theorem Ff{G:Nat->Prop}{p gh:Nat}{hs:List Int}{td:List Nat}{w:World}(h:Wk G p gh hs td w)(hlen:hs.length<=900000)(htd:td.length<=50000)(hlow:∀(q:Nat) (y:Int),hs[q]?=some y->0<=y∧y<=1000)(q:Nat)(hq:q<=9000000)(x:Int)(hx:0<=x∧x<=900):Calls Tryz.prog 146 #[pt p 0,iv q,iv x] w fun e w'=>Cw G p gh (rch hs td q x) w e w':=by
 rcases hy:hs[q]? with _ | y
 ·have hr:rch hs td q x=none:=by unfold rch;rw[hy]
  rw[hr];exact Qx h hlen htd hq x hy
 ·by_cases hy0:y=0
  ·subst hy0;have hr:rch hs td q x=some (hs.set q (x+1),td ++ [q]):=by unfold rch;rw[hy];rfl
   rw[hr];exact Qz h hlen htd hx hy
  ·have hr:rch hs td q x=if y - 1=x then some (hs,td) else none:=by
    unfold rch;rw[hy];show (if y=0 then _ else _)=_;rw[if_neg hy0]
   rw[hr];exact Qy h hlen htd hx hy (by have:=hlow q y hy;omega)
theorem Wq{hs:List Int}{td:List Nat}{q:Nat}{x:Int}{s:List Int × List Nat}(hx:0<=x∧x<=900)(hlow:∀(q:Nat) (y:Int),hs[q]?=some y->0<=y∧y<=1000)(h:rch hs td q x=some s):(∀(q:Nat) (y:Int),s.1[q]?=some y->0<=y∧y<=1000)∧s.1.length=hs.length∧s.2.length<=td.length+1:=by
 unfold rch at h;rcases e:hs[q]? with _ | y
 ·rw[e] at h;cases h
 ·rw[e] at h;have h':(if y=0 then some (hs.set q (x+1),td ++ [q]) else if y - 1=x then some (hs,td) else none)=some s:=h;split at h'
  ·cases h'
   refine⟨fun r z hz=>?_,by simp,by simp⟩;have hz':(hs.set q (x+1))[r]?=some z:=hz;rw[List.getElem?_set] at hz';split at hz'
   ·split at hz'
    ·have:=Option.some.inj hz';omega
    ·cases hz'
   ·exact hlow r z hz'
  ·split at h'
   ·cases h'
    exact⟨hlow,rfl,by simp⟩
   ·cases h'
theorem Jb(x:Int)(hs:List Int)(td:List Nat)(q:Nat):Ej x hs td [q]=rch hs td q x:=by
 rw[Ej];rcases rch hs td q x with _ | s
 ·rfl
 ·show Ej x s.1 s.2 []=some s;rw[Ej]
theorem Cw.less{G G':Nat->Prop}{p gh:Nat}{s:Option (List Int × List Nat)}{w w0:World}{e:Ending}{w':World}(h:Cw G p gh s w0 e w')(hb:Below w.heap.size w w0)(hG:∀k,G' k->G k):Cw G' p gh s w e w':=
 ⟨(Fr.of_below hb).trans (h.1.mono hG),h.2.1,fun x hx=>(h.2.2 x hx).less hG⟩
theorem T6{G:Nat->Prop}{p gh:Nat}{hs:List Int}{td:List Nat}{w:World}(h:Wk G p gh hs td w)(hlen:hs.length<=900000)(htd:td.length<=40000)(hlow:∀(q:Nat) (y:Int),hs[q]?=some y->0<=y∧y<=1000)(q:Nat)(hq:q<=900000)(i:In)(hj:i.op=7∨i.op=8->0<=i.a∧i.a<=900000)(x:Int)(hx:0<=x∧x<=900):Calls Tryz.prog 150 #[pt p 0,iv q,.agg #[iv i.op,iv i.a],iv x] w fun e w'=>Cw G p gh (Ej x hs td (lnx q i)) w e w':=by
 obtain⟨w0,hW0,hb0,hl0,hx0⟩:=Dq w (iv i.op) (iv i.a) 48;obtain⟨c0,c1,-,-,hlc⟩:=Ae hx0;have h0:=h.more hb0 (b:=w.heap.size) (Nat.le_refl _) (by omega);obtain⟨op,a⟩:=i;simp only at *;have hw1:IntKind.i64.wrap ((q:Int)+1)=(q:Int)+1:=by rw[IntKind.wrap_i64];omega
 have hqc:((q+1:Nat):Int)=(q:Int)+1:=by omega
 by_cases h7:op=7
 ·obtain⟨na,hna⟩:∃na:Nat,a=(na:Int):=⟨a.toNat,by have:=hj (Or.inl h7);omega⟩;have hlx:Ej x hs td (lnx q ⟨op,a⟩)=rch hs td na x:=by
   rw[<-Jb];unfold lnx;rw[if_pos h7];show Ej x hs td [a.toNat]=_;rw[hna];rfl
  rw[hlx];have hR:=Ff h0 hlen (by omega) hlow na (by have:=hj (Or.inl h7);omega) x hx;subst h7 hna;clear hlx h h0 hlow hj hl0 hx0 hqc hw1;generalize rch hs td na x=S at *;go_enter Tryz.func150,Tryz.ntmps150;go_wp2_with fail;refine hR.mono ?_;rintro e w1 hp;have he:=hp.2.1;subst he;have hpost:=hp.less hb0 (G':=G) (fun k hk=>Or.inl hk);clear hR hp c0 c1;go_wp2;go_ret;exact hpost
 by_cases h10:op=10
 ·have hlx:Ej x hs td (lnx q ⟨op,a⟩)=some (hs,td):=by
   subst h10;rfl
  rw[hlx];have hpost:Cw G p gh (some (hs,td)) w (.returned (.bool true)) w0:=⟨Fr.of_below hb0,rfl,fun z hz=>by cases hz;exact h.keep hb0⟩;subst h10;clear hlx h h0 hlow hj hl0 hx0 hqc hw1;go_enter Tryz.func150,Tryz.ntmps150;go_wp2;go_ret;exact hpost
 have hR:=Ff h0 hlen (by omega) hlow (q+1) (by omega) x hx;rw[hqc] at hR;by_cases h8:op=8
 rotate_left
 ·have hlx:Ej x hs td (lnx q ⟨op,a⟩)=rch hs td (q+1) x:=by
   rw[<-Jb];unfold lnx;rw[if_neg h7,if_neg h8,if_neg h10]
  rw[hlx];have n7:(op == 7)=false:=by simpa using h7
  have n8:(op == 8)=false:=by simpa using h8
  have n10:(op == 10)=false:=by simpa using h10
  clear hlx h h0 hlow hj hl0 hx0 hqc h7 h8 h10;generalize rch hs td (q+1) x=S at *;go_enter Tryz.func150,Tryz.ntmps150;go_wp2_with fail;refine hR.mono ?_;rintro e w1 hp;have he:=hp.2.1;subst he;have hpost:=hp.less hb0 (G':=G) (fun k hk=>Or.inl hk);clear hR hp c0 c1;go_wp2;go_ret;exact hpost
 obtain⟨na,hna⟩:∃na:Nat,a=(na:Int):=⟨a.toNat,by have:=hj (Or.inr h8);omega⟩;have hnb:na<=9000000:=by have:=hj (Or.inr h8);omega
 have hlx:Ej x hs td (lnx q ⟨op,a⟩)=(rch hs td (q+1) x).bind fun s=>rch s.1 s.2 na x:=by
  have e:lnx q ⟨op,a⟩=[q+1,na]:=by unfold lnx;rw[if_neg h7,if_pos h8];show [q+1,a.toNat]=_;rw[hna];rfl
  rw[e,Ej];congr 1;funext s;rw[Jb]
 rw[hlx];subst h8 hna;clear hlx hl0 hj hqc;rcases hS:rch hs td (q+1) x with _ | s
 ·rw[hS] at hR;clear h h0 hlow hx0 h7 h10 hS;go_enter Tryz.func150,Tryz.ntmps150;go_wp2_with fail;refine hR.mono ?_;rintro e w1 hp;have he:=hp.2.1;subst he;have hpost:Cw G p gh none w (.returned (.bool false)) w1:=hp.less hb0 (G':=G) (fun k hk=>Or.inl hk);clear hR hp c0 c1;simp only[Option.isSome_none,Option.bind_none];go_wp2;go_ret;exact hpost
 ·rw[hS] at hR;obtain⟨l1,l2,l3⟩:=Wq hx hlow hS;clear h h0 hlow h7 h10 hS;simp only[Option.bind_some];obtain⟨S,hS2⟩:∃S,Hid (rch s.1 s.2 na x=S):=⟨_,rfl⟩;rw[hS2.out];go_enter Tryz.func150,Tryz.ntmps150;go_wp2_with fail;refine hR.mono ?_;rintro e w1 hp;have he:=hp.2.1;subst he;have hk1:=hp.2.2 s rfl;obtain⟨d0,d1,-,-,hld⟩:=Ae ((hp.1.block _ (Or.inr rfl) hlc).trans hx0);have hR2:=Ff hk1 (by omega) (by omega) l1 na hnb x hx;rw[hS2.out] at hR2;have hF:=hp.1;clear hR hp c0 c1 hk1 l1 hx0;simp only[Option.isSome_some];go_wp2_with fail;refine hR2.mono ?_;rintro e w2 hp2;have he2:=hp2.2.1;subst he2;have hpost:Cw G p gh S w (.returned (.bool S.isSome)) w2:=⟨(Fr.of_below hb0).trans ((hF.trans hp2.1).mono (fun k hk=>Or.inl hk)),rfl,fun z hz=>(hp2.2.2 z hz).less (fun k hk=>Or.inl hk)⟩;clear hR2 hp2 d0 d1 hF;go_wp2;go_ret;exact hpost
theorem Q0{B:Nat->Prop}{fs:List Fu}{f:Fu}(ho:InsOk fs f){cd:Value}{nc st:Int}{af:Option Addr}{cf:Nat}{i:In}{w:World}(hi:i∈f.code)(hm:B5 B w fs (.slice af fs.length cf)):Calls Tryz.prog 148 #[.agg #[iv f.params,iv f.locals,iv f.zero,iv f.stack,cd,iv nc,iv st,.slice af fs.length cf],.agg #[iv i.op,iv i.a]] w fun e w'=>e=.returned (iv (popN fs i))∧Below w.heap.size w w':=by
 by_cases h9:i.op=9
 ·obtain⟨k,g,h1,h2⟩:=ho.call i hi h9;exact Ng hm h9 h1 h2
 ·exact Lo (by simpa using h9)
theorem Yi(w:World)(x0 x1:Value):∃wz w4,w.alloc (.cells #[sZ,sZ] 152)=wz∧(wz.setCell ⟨w.heap.size,0,none⟩ x0).setCell ⟨w.heap.size,1,none⟩ x1=w4∧Below w.heap.size w wz∧Below w.heap.size w w4∧w4.heap[w.heap.size]?=some (.cells #[x0,x1] 152 (0,0))∧wz.heap[w.heap.size]?=some (.cells #[sZ,sZ] 152 (0,0)):=by
 have hb:Below w.heap.size w (w.alloc (.cells #[sZ,sZ] 152)):=(Below.refl _ _).alloc (Nat.le_refl _) _;have hz:(w.alloc (.cells #[sZ,sZ] 152)).heap[w.heap.size]?=some (.cells #[sZ,sZ] 152 (0,0)):=Ai _ _;refine⟨_,_,rfl,rfl,hb,(hb.setCell (p:=⟨w.heap.size,0,none⟩) (Nat.le_refl _) x0).setCell (p:=⟨w.heap.size,1,none⟩) (Nat.le_refl _) x1,?_,hz⟩;generalize w.alloc (.cells #[sZ,sZ] 152)=wz at *;simp[World.setCell,Array.getElem?_modify,hz]
theorem Bt.pop{n0:Nat}{w:World}{ao:Option Addr}{n cap:Nat}{l:List Int}{x:Int}(h:Bt n0 w (.slice ao n cap) (l ++ [x])):Bt n0 w (.slice ao l.length cap) l:=by
 rcases h.2 with⟨e,h0⟩ | ⟨g,c,cur,h3,h4,h5,h6,h7,h8,h9⟩
 ·simp at h0
 ·simp only[Value.slice.injEq] at h3;obtain⟨rfl,-,rfl⟩:=h3;refine⟨by simp,Or.inr ⟨g,cap,cur,rfl,h4,h5,by simp at h6;omega,h7,h8,?_⟩⟩;have h10:=congrArg (List.take l.length) h9;rw[List.take_take] at h10;simp only[List.length_append,List.length_cons,List.length_nil,Nat.mul_one,List.map_append] at h10;rw[Nat.min_eq_left (by omega)] at h10;rw[Nat.mul_one,h10,List.take_left' (by simp)]
theorem Wk.pop{G:Nat->Prop}{p gh:Nat}{hs:List Int}{td:List Nat}{q:Nat}{w:World}(h:Wk G p gh hs (td ++ [q]) w):∃g cap,w.heap[p]?=some (.cells #[sL gh 0 hs.length hs.length,sL g 0 (td.length+1) cap] 152 (0,0))∧td.length+1<=cap∧cap<=9223372036854775807∧g<w.heap.size∧w.cell? ⟨g,td.length,none⟩=some (iv q)∧Wk G p gh hs td (w.setCell ⟨p,1,none⟩ (sL g 0 td.length cap)):=by
 obtain⟨tv,b1,b2,b3,b4,b5⟩:=h.bx;have e:tI (td ++ [q])=tI td ++ [(q:Int)]:=by simp[tI]
 rw[e] at b2;have hlen:(tI td ++ [(q:Int)]).length=td.length+1:=by simp
 obtain⟨ao,c,e1,l1,l2⟩:=b2.slice;obtain⟨g,cap,e2,hg,hc⟩:=b2.get (i:=td.length) (x:=(q:Int)) (by rw[List.getElem?_append_right (by simp)];simp);rw[hlen] at e1 e2 l1;rw[e2] at e1;simp only[Value.slice.injEq] at e1;obtain⟨rfl,-,rfl⟩:=e1;subst e2;have hgp:g≠p:=by rintro rfl;exact b3 rfl
 refine⟨g,cap,b1,l1,l2,hg,hc,h.hk.keep (Below.heap_setCell _ _ _ _ (Ne.symm h.pg)),⟨_,Nv b1 _,?_,fun e=>?_,fun e=>?_,fun k e=>?_⟩,h.np,h.ng,h.pg,fun k hk=>by have:=h.gb k hk;simpa [World.setCell] using this⟩
 ·have h1:=b2.pop;rw[Im] at h1;refine h1.since (fun j hj=>Below.heap_setCell _ _ _ _ ?_);have:g=j:=by simpa [Value.ownBlock] using hj
  show j≠p;rw[<-this];exact hgp
 ·have:g=p:=by simpa [Value.ownBlock] using e
  exact hgp this
 ·exact b4 (by simpa [Value.ownBlock] using e)
 ·exact b5 k (by simpa [Value.ownBlock] using e)
theorem Q1{B:Nat->Prop}{fs:List Fu}{f:Fu}{ak af:Option Addr}{ck cf nc:Nat}{states:Int}{w:World}(hf:IsFn B w f (.slice ak f.code.length ck))(hfs:B5 B w fs (.slice af fs.length cf))(ho:InsOk fs f)(hop:∀i∈f.code,1<=i.op∧i.op<=21)(hja:∀i∈f.code,i.op=7∨i.op=8->0<=i.a∧i.a<=900000):Calls Tryz.prog 123 #[.agg #[iv f.params,iv f.locals,iv f.zero,iv f.stack,.slice ak f.code.length ck,iv nc,iv states,.slice af fs.length cf]] w fun e w'=>Cb fs f w e w':=by
 obtain⟨w0,hW0,hb0,hl0,hx0⟩:=Nf w (iv f.params) (iv f.locals) (iv f.zero) (iv f.stack) (.slice ak f.code.length ck) (iv nc) (iv states) (.slice af fs.length cf) 131;obtain⟨d0,d1,d2,d3,d4,d5,d6,d7,hlt0⟩:=Bz hx0;have htop:=ho.top;have hlen:=ho.len;have hstk:=ho.stk;obtain⟨w1,hmk,hI1,hb1,hl1⟩:=J0 f.code.length (by omega) w0;obtain⟨wz,w2,hWz,hW2,hbz,hb2,hx2,hzz⟩:=Yi w1 (sL w0.heap.size 0 f.code.length f.code.length) sZ;obtain⟨z0,z1,y0,y1,hlz⟩:=Ae hzz;obtain⟨G,hG⟩:∃G:Nat->Prop,Hid (∀k,G k↔k<w0.heap.size):=⟨fun k=>k<w0.heap.size,fun k=>Iff.rfl⟩;have hk2:Wk G w1.heap.size w0.heap.size (List.replicate f.code.length 0) [] w2:=by
  refine⟨hI1.keep (hb2.block _ hl1),⟨sZ,by rw[List.length_replicate];exact hx2,Bt.nil _ _,by simp[Value.ownBlock],by simp[Value.ownBlock],fun k e=>by simp[Value.ownBlock] at e⟩,?_,?_,by omega,fun k hk=>?_⟩
  ·rw[hG.out];omega
  ·rw[hG.out];omega
  ·have:=(hG.out k).1 hk;have:=hb2.size;omega
 have hF2:Fr G w0 w2:=(Fr.of_below hb1).trans (Fr.of_below hb2);have hbel:∀wr,Fr G w0 wr->Below w0.heap.size w0 wr:=fun wr h=>h.below (Nat.le_refl _) (fun k hk=>(hG.out k).2 hk)
 have hlow0:∀(q:Nat) (y:Int),(List.replicate f.code.length (0:Int))[q]?=some y->0<=y∧y<=1000:=by
  intro q y hq;rw[List.getElem?_replicate] at hq;split at hq
  ·have:=Option.some.inj hq;omega
  ·cases hq
 have hR:=Ff hk2 (by simp;omega) (by simp) hlow0 0 (by omega) 0 (by omega);have hr0:rch (List.replicate f.code.length 0) [] 0 0=some ((List.replicate f.code.length 0).set 0 1,[0]):=by
  unfold rch;rw[List.getElem?_replicate,if_pos (by omega)];rfl
 rw[hr0] at hR;have hrz:((0:Nat):Int)=0:=rfl;rw[hrz] at hR;clear hx2 hzz hI1 hrz hr0 hlow0 hl0;go_enter Tryz.func123,Tryz.ntmps123;go_wp2_with fail;refine hR.mono ?_;rintro e w3 ⟨hF3,rfl,hk3⟩;have hk3H:Hid (Wk G w1.heap.size w0.heap.size ((List.replicate f.code.length 0).set 0 1) [0] w3∧WInv fs f ((List.replicate f.code.length 0).set 0 1) [0] (List.replicate f.code.length false)∧Fr G w0 w3):=⟨hk3 _ rfl,WInv.init hlen,hF2.trans hF3⟩;clear hR hmk hW0 hWz hW2 z0 z1 y0 y1 hlz d0 d1 d2 d3 d4 d5 d6 d7 hk3 hF3 hk2 hF2 hbz hb2 hb1 hl1;simp only[Option.isSome_some];go_wp2_with fail
 go_loopg [] (left (List.replicate f.code.length false)) (fun gk wr=>∃(hs:List Int) (td:List Nat) (sn:List Bool),gk=left sn∧Hid (Wk G w1.heap.size w0.heap.size hs td wr∧WInv fs f hs td sn∧Fr G w0 wr))
 case atStart=>exact⟨_,_,_,rfl,hk3H.out⟩
 case round=>
  obtain⟨hs,td,sn,rfl,HI⟩:=hrel;have hk:=HI.out.1;have hinv:=HI.out.2.1;have hFr:=HI.out.2.2;clear HI hk3H;have hB0:=hbel wr hFr;have hBw:Below w.heap.size w wr:=hb0.trans (hB0.mono hb0.size);rcases List.eq_nil_or_concat td with rfl | ⟨td0,q,rfl⟩
  ·obtain⟨tv,b1,b2,-,-,-⟩:=hk.bx;have htv:=b2.slice;rw[Im] at htv;obtain⟨ao,cap,rfl,-,-⟩:=htv;obtain⟨c0,c1,-,-,hlc⟩:=Ae b1;have hpost:Cb fs f w (.returned (.bool true)) wr:=⟨⟨true,rfl,by simp;exact hinv.done⟩,hBw⟩;clear hk hinv hFr hB0 hBw b1 b2 hf hfs ho hop hja hbel;go_wp2;go_ret;exact hpost
  rw[List.concat_eq_append] at hk hinv;obtain⟨y,i,hy,hy1,hy2,hi,hsq⟩:=hinv.top;have hmem:=List.mem_of_getElem? hi;obtain⟨g,cap,b1,hc1,hc2,hgl,hcq,hk4⟩:=hk.pop;obtain⟨c0,c1,f0,f1,hlc⟩:=Ae b1;have hNl:td0.length<=16384:=by have:=hinv.tdo.few;rw[List.length_append] at this;omega
  have hql:=(List.getElem?_eq_some_iff.1 hi).1;obtain⟨w4,hW4⟩:∃w4,wr.setCell ⟨w1.heap.size,1,none⟩ (sL g 0 td0.length cap)=w4:=⟨_,rfl⟩;rw[hW4] at hk4;have hF4:Fr G w0 w4:=hFr.trans (by rw[<-hW4];exact Fr.set hk.np _ _);have hB4:=hbel w4 hF4;have hBw4:Below w.heap.size w w4:=hb0.trans (hB4.mono hb0.size);obtain⟨gc,oc,hak,-,hgc,ci0,ci1,-,-⟩:=((hf.below hBw4).code).get hi;subst hak;obtain⟨wz,wi,hWz,hWi,hbz,hbi,-,hxi,hz⟩:=O9 w4 (iv i.op) (iv i.a);obtain⟨z0,z1,y0,y1,hlz⟩:=Ae hz;obtain⟨u0,u1,-,-,hli⟩:=Ae hxi;have hki:=hk4.keep hbi;have hFi:Fr G w0 wi:=hF4.trans (Fr.of_below hbi);have hBi:=hbel wi hFi;have hBwi:Below w.heap.size w wi:=hb0.trans (hBi.mono hb0.size);obtain⟨e0,e1,e2,e3,e4,e5,e6,e7,hle⟩:=Bz ((hBi.block _ hlt0).trans hx0);obtain⟨s0,s1,s2,s3,s4,s5,s6,s7,hls⟩:=Bz ((hB4.block _ hlt0).trans hx0);obtain⟨m0,m1,-,-,hlm⟩:=Ae (show w4.heap[w1.heap.size]?=some (.cells #[sL w0.heap.size 0 hs.length hs.length,sL g 0 td0.length cap] 152 (0,0)) by rw[<-hW4];exact Nv b1 _);have hHt:∀w',Below wi.heap.size wi w'->Calls Tryz.prog 147 #[pt w1.heap.size 0,iv q] w' fun e w''=>e=.returned (iv (y - 1))∧w''=w':=fun w' hb=>Fp (hki.keep hb) (by have:=hinv.len;omega) hy (by omega)
  have hPo:∀w',Below wi.heap.size wi w'->Calls Tryz.prog 148 #[.agg #[iv f.params,iv f.locals,iv f.zero,iv f.stack,sL gc oc f.code.length ck,iv nc,iv states,.slice af fs.length cf],.agg #[iv i.op,iv i.a]] w' fun e w''=>e=.returned (iv (popN fs i))∧Below w'.heap.size w' w'':=fun w' hb=>Q0 ho hmem ((hfs.since (Since.of_below hBwi)).since (Since.of_below hb))
  have hSk:∀ww,Below wi.heap.size wi ww->(ww.cell? ⟨w.heap.size,0,none⟩=some (iv f.params)∧ww.cell? ⟨w.heap.size,1,none⟩=some (iv f.locals)∧ww.cell? ⟨w.heap.size,2,none⟩=some (iv f.zero)∧ww.cell? ⟨w.heap.size,3,none⟩=some (iv f.stack)∧ww.cell? ⟨w.heap.size,4,none⟩=some (sL gc oc f.code.length ck)∧ww.cell? ⟨w.heap.size,5,none⟩=some (iv nc)∧ww.cell? ⟨w.heap.size,6,none⟩=some (iv states)∧ww.cell? ⟨w.heap.size,7,none⟩=some (.slice af fs.length cf)∧ww.cell? ⟨w4.heap.size,0,none⟩=some (iv i.op)∧ww.cell? ⟨w4.heap.size,1,none⟩=some (iv i.a)):=fun ww hb=>by
   obtain⟨k,-⟩:=Ag hb;exact⟨(k _ _ hle).trans e0,(k _ _ hle).trans e1,(k _ _ hle).trans e2,(k _ _ hle).trans e3,(k _ _ hle).trans e4,(k _ _ hle).trans e5,(k _ _ hle).trans e6,(k _ _ hle).trans e7,(k _ _ hli).trans u0,(k _ _ hli).trans u1⟩
  obtain⟨hpn1,hpn2⟩:=ho.pop i hmem;obtain⟨hps1,hps2⟩:=Ei i.op;have hpu:∀w',Calls Tryz.prog 149 #[iv i.op] w' fun e w''=>e=.returned (iv (psh i.op))∧w''=w':=fun w'=>by have:=Ln i.op w';rwa [U7 (hop i hmem).1 (hop i hmem).2] at this
  have hN1:(0:Int)<=(td0.length:Int):=by omega
  have hN2:(td0.length:Int)<(cap:Int):=by omega
  have hq0:(0:Int)<=(q:Int):=by omega
  have hqI:(q:Int)<(f.code.length:Int):=by omega
  have hw1:IntKind.i64.wrap (y - 1 - popN fs i)=y - 1 - popN fs i:=by rw[IntKind.wrap_i64];omega
  obtain⟨L,hL⟩:∃L,Hid (y - 1 - popN fs i=L):=⟨_,rfl⟩;have hLb:-10<=L∧L<=256:=by have:=hL.out;omega
  obtain⟨X,hX⟩:∃X,Hid (L+psh i.op=X):=⟨_,rfl⟩;have hw2:IntKind.i64.wrap (L+psh i.op)=X:=by have:=hX.out;rw[IntKind.wrap_i64];omega
  have hXb:(0<=L->0<=X)∧X<=257:=by have:=hX.out;omega
  have hXL:Hid (hgt fs i (y - 1)=X):=by show _=_;rw[<-hX.out,<-hL.out];rfl
  have hinvH:Hid (WInv fs f hs (td0 ++ [q]) sn):=hinv;have hyH:Hid (hs[q]?=some y):=hy;have hiH:Hid (f.code[q]?=some i):=hi;have hhl:=hinv.len;clear hk hinv hy hi hz hxi b1 hBw hB0 hFr hB4 hBw4 hF4 hk4 e0 e1 e2 e3 e4 e5 e6 e7 u0 u1 hsq hql;go_wp2_with fail;clear hWz hWi z0 z1 y0 y1 ci0 ci1 c0 c1 f0 f1 hcq m0 m1 s0 s1 s2 s3 s4 s5 s6 s7 hW4;refine wpE_begin (S:=fun w'=>w'.cell? ⟨w.heap.size,0,none⟩=some (iv f.params)∧w'.cell? ⟨w.heap.size,1,none⟩=some (iv f.locals)∧w'.cell? ⟨w.heap.size,2,none⟩=some (iv f.zero)∧w'.cell? ⟨w.heap.size,3,none⟩=some (iv f.stack)∧w'.cell? ⟨w.heap.size,4,none⟩=some (sL gc oc f.code.length ck)∧w'.cell? ⟨w.heap.size,5,none⟩=some (iv nc)∧w'.cell? ⟨w.heap.size,6,none⟩=some (iv states)∧w'.cell? ⟨w.heap.size,7,none⟩=some (.slice af fs.length cf)∧w'.cell? ⟨w4.heap.size,0,none⟩=some (iv i.op)∧w'.cell? ⟨w4.heap.size,1,none⟩=some (iv i.a)) (N:=fun _=>true) (by kernel_rfl) ?_;have hS0:wi.drew.cell? ⟨w.heap.size,0,none⟩=some (iv f.params)∧wi.drew.cell? ⟨w.heap.size,1,none⟩=some (iv f.locals)∧wi.drew.cell? ⟨w.heap.size,2,none⟩=some (iv f.zero)∧wi.drew.cell? ⟨w.heap.size,3,none⟩=some (iv f.stack)∧wi.drew.cell? ⟨w.heap.size,4,none⟩=some (sL gc oc f.code.length ck)∧wi.drew.cell? ⟨w.heap.size,5,none⟩=some (iv nc)∧wi.drew.cell? ⟨w.heap.size,6,none⟩=some (iv states)∧wi.drew.cell? ⟨w.heap.size,7,none⟩=some (.slice af fs.length cf)∧wi.drew.cell? ⟨w4.heap.size,0,none⟩=some (iv i.op)∧wi.drew.cell? ⟨w4.heap.size,1,none⟩=some (iv i.a):=hSk _ (Below.refl _ _).drew;refine Ah (some 42) (fun _=>false) (i:=0) (v:=iv q) rfl rfl (by kernel_rfl) (by kernel_rfl) (by kernel_rfl) (by kernel_rfl) (fun j hj=>by cases hj) (fun _ _ _ h=>h) rfl (fun w' hS=>by obtain⟨g0,g1,g2,g3,g4,g5,g6,g7,g8,g9⟩:=hS;go_simp) (hS0) ?_
  try simp only[aP]
  refine Ah (some 44) (fun _=>false) (i:=2) (v:=.agg #[iv f.params,iv f.locals,iv f.zero,iv f.stack,sL gc oc f.code.length ck,iv nc,iv states,.slice af fs.length cf]) rfl rfl (by kernel_rfl) (by kernel_rfl) (by kernel_rfl) (by kernel_rfl) (fun j hj=>by cases hj) (fun _ _ _ h=>h) rfl (fun w' hS=>by obtain⟨g0,g1,g2,g3,g4,g5,g6,g7,g8,g9⟩:=hS;go_simp) (hS0) ?_
  try simp only[aP]
  refine Ah (some 45) (fun _=>false) (i:=3) (v:=.agg #[iv i.op,iv i.a]) rfl rfl (by kernel_rfl) (by kernel_rfl) (by kernel_rfl) (by kernel_rfl) (fun j hj=>by cases hj) (fun _ _ _ h=>h) rfl (fun w' hS=>by obtain⟨g0,g1,g2,g3,g4,g5,g6,g7,g8,g9⟩:=hS;go_simp) (hS0) ?_
  try simp only[aP]
  refine Ac (i:=1) (by kernel_rfl) rfl rfl (fun K hK=>?_);go_simp;refine (hHt _ (Below.refl _ _).drew).mono ?_;rintro e w6 ⟨rfl,rfl⟩;refine hK _ _ (fun _=>hSk _ (Below.refl _ _).drew) ?_;clear hK K
  try simp only[aP]
  refine Ac (i:=4) (by kernel_rfl) rfl rfl (fun K hK=>?_);go_simp;refine (hPo _ (Below.refl _ _).drew).mono ?_;rintro e w7 ⟨rfl,hb7⟩;replace hb7:Below wi.heap.size wi w7:=Ad hb7;refine hK _ _ (fun _=>hSk _ hb7) ?_;clear hK K
  try simp only[aP]
  refine Ac (i:=5) (by kernel_rfl) rfl rfl (fun K hK=>?_);go_simp;refine hK _ _ (fun _=>hSk _ hb7) ?_;clear hK K
  try simp only[aP]
  refine Ac (i:=6) (by kernel_rfl) rfl rfl (fun K hK=>?_);go_simp;refine hK _ _ (fun _=>hSk _ hb7) ?_;clear hK K
  try simp only[aP]
  refine Am (by kernel_rfl) ?_;rw[hL.out];have hk7:=hki.keep hb7;have hF7:Fr G w0 w7:=hFi.trans (Fr.of_below hb7);have hB7:=hbel w7 hF7;have hBw7:Below w.heap.size w w7:=hb0.trans (hB7.mono hb0.size);obtain⟨-,-,-,g3,-,-,-,-,g8,g9⟩:=hSk w7 hb7;have hl7:w.heap.size<w7.heap.size:=Nat.lt_of_lt_of_le hle hb7.size;have hli7:w4.heap.size<w7.heap.size:=Nat.lt_of_lt_of_le hli hb7.size;have hp7:=hpu w7;clear hHt hPo hSk hS0 hpu hb7 hki hFi hBi hBwi hw1 hB7 hbz hbi;simp only[Exit.inBlock,Exit.then];refine ‹∀(a:Act) (w:World),_->_› _ _ ?_;go_wp2_with fail;refine hp7.mono ?_;rintro e w8 ⟨rfl,rfl⟩;clear hp7;by_cases hLn:L<0
  ·have hpost:Cb fs f w (.returned (.bool false)) w8:=⟨⟨false,rfl,by simp;exact hinvH.out.bad hyH.out hy1 hiH.out (Or.inl (by have:=hL.out;omega))⟩,hBw7⟩;clear hk7 hF7 hinvH hyH hiH hbel hf hfs ho hop hja;go_wp2;go_ret;exact hpost
  by_cases hXn:f.stack<X
  ·have hpost:Cb fs f w (.returned (.bool false)) w8:=⟨⟨false,rfl,by simp;exact hinvH.out.bad hyH.out hy1 hiH.out (Or.inr (by rw[hXL.out];omega))⟩,hBw7⟩;clear hk7 hF7 hinvH hyH hiH hbel hf hfs ho hop hja;go_wp2;go_ret;exact hpost
  have hlow:∀(q:Nat) (y:Int),hs[q]?=some y->0<=y∧y<=1000:=fun q y hq=>by have:=hinvH.out.inv.low q (y - 1) (dnH_get hq);omega
  have hGo:=T6 hk7 (by omega) (by omega) hlow q (by omega) i (hja i hmem) X (by have:=hXb.1 (by omega);omega);clear hlow;rcases hS:Ej X hs td0 (lnx q i) with _ | s
  ·rw[hS] at hGo;have hno:Hid (¬Bo fs f):=hinvH.out.none hstk hyH.out hy1 hiH.out (by have:=hL.out;omega) (by rw[hXL.out];omega) (by rw[hXL.out];exact hS);clear hk7 hinvH hyH hiH hf hfs ho hop hja hS;go_wp2_with fail;refine hGo.mono ?_;rintro e w9 ⟨hF9,rfl,-⟩;have hB9:=hbel w9 (hF7.trans hF9);have hpost:Cb fs f w (.returned (.bool false)) w9:=⟨⟨false,rfl,by simp;exact hno.out⟩,hb0.trans (hB9.mono hb0.size)⟩;clear hGo hbel hF7 hF9 hB9 g3 g8 g9;simp only[Option.isSome_none];go_wp2;go_ret;exact hpost
  ·rw[hS] at hGo;have hnx:=hinvH.out.next hstk hyH.out hy1 hiH.out (by have:=hL.out;omega) (by rw[hXL.out];omega) (by rw[hXL.out];exact hS);have hnx1:Hid (WInv fs f s.1 s.2 (sn.set q true)):=hnx.1;have hnx2:Hid (left (sn.set q true)<left sn):=hnx.2;clear hk7 hinvH hyH hiH hf hfs ho hop hja hS hnx;go_wp2_with fail;refine hGo.mono ?_;rintro e w9 ⟨hF9,rfl,hk9⟩;have hnew:Hid (Wk G w1.heap.size w0.heap.size s.1 s.2 w9∧WInv fs f s.1 s.2 (sn.set q true)∧Fr G w0 w9):=⟨hk9 s rfl,hnx1.out,hF7.trans hF9⟩;clear hGo hbel hF7 hF9 g3 g8 g9 hk9 hnx1;simp only[Option.isSome_some];go_wp2_with fail;go_roundg (left (sn.set q true))
   case measure=>exact hnx2.out
   case rel=>exact⟨s.1,s.2,_,rfl,hnew⟩
theorem Bj.take{B:Nat->Prop}{w:World}:∀{l:List Fu} {row:List Value} (n:Nat),Bj B w l row->Bj B w (l.take n) (row.take (n*5))
 | [],row,n,h=>by
  rw[Bj] at h;subst h;simp[Bj]
 | e :: r,row,0,h=>by simp[Bj]
 | e :: r,row,n+1,h=>by
  rw[Bj] at h;obtain⟨c1,c2,rfl,h1,h2⟩:=h;rw[List.take_succ_cons,Bj];refine⟨c1,c2.take (n*5),?_,h1,Bj.take n h2⟩;have:=h1.len;rw[List.take_append,List.take_of_length_le (by omega)];congr 2;omega
theorem C0.take{B:Nat->Prop}{w:World}{sz:Nat}{ao:Option Addr}{n cap:Nat}{row:List Value}(h:C0 B w sz (.slice ao n cap) n row){k:Nat}(hk:k<=n):C0 B w sz (.slice ao k cap) k (row.take (k*sz)):=by
 obtain⟨h1,h2⟩:=h;have hks:k*sz<=n*sz:=Nat.mul_le_mul_right _ hk;refine⟨by rw[List.length_take,h1];omega,?_⟩;rcases h2 with⟨h3,h4⟩ | ⟨g,o,c,e,h5,h6,h7,h8,h9⟩
 ·refine Or.inl ⟨?_,by omega⟩;have:k=0:=by omega
  subst this;subst h4;exact h3
 ·simp only[Value.slice.injEq] at e;obtain⟨rfl,-,rfl⟩:=e;refine Or.inr ⟨g,o,cap,rfl,by omega,h6,h7,h8,fun i u hi=>h9 i u ?_⟩;rw[List.getElem?_take] at hi;split at hi
  ·exact hi
  ·cases hi
theorem B5.take{B:Nat->Prop}{w:World}{l:List Fu}{ao:Option Addr}{cap:Nat}(h:B5 B w l (.slice ao l.length cap)){n:Nat}(hn:n<=l.length):B5 B w (l.take n) (.slice ao (l.take n).length cap):=by
 obtain⟨row,h1,h2⟩:=h;have e:(l.take n).length=n:=by simp;omega
 rw[e];refine⟨row.take (n*5),?_,h2.take n⟩;rw[e];exact h1.take hn
def GvW(P:Nat->Prop)(N:Nat)(w:World)(sl:Value)(acc:List V):Prop:=∃row,w.ownsRow 0 31 4 sl acc.length row∧(∀k,sl.ownBlock=some k->P k)∧An (fun k=>P k∧sl.ownBlock≠some k) w acc row∧∀i,i<acc.length->∃c,row[i*4+3]?=some c∧Wf (fun k=>P k∧sl.ownBlock≠some k) N w c
theorem GvW.gv{P:Nat->Prop}{N:Nat}{w:World}{sl:Value}{acc:List V}(h:GvW P N w sl acc):Gv P w sl acc:=by
 obtain⟨row,h1,h2,h3,-⟩:=h;exact⟨row,h1,h2,h3⟩
theorem GvW.nil(P:Nat->Prop)(N:Nat)(w:World):GvW P N w sZ []:=⟨[],⟨rfl,Or.inl ⟨rfl,rfl⟩⟩,fun k h=>by simp[Value.ownBlock] at h,by rw[An],fun i hi=>by simp at hi⟩
theorem GvW.since{P:Nat->Prop}{N:Nat}{w w':World}{sl:Value}{acc:List V}(h:GvW P N w sl acc)(s:Since P w w'):GvW P N w' sl acc:=by
 obtain⟨row,h1,h0,h2,hw⟩:=h;refine⟨row,⟨h1.1,?_⟩,h0,h2.since (s.mono (fun k hk=>hk.1)),fun i hi=>?_⟩
 ·rcases h1.2 with h3 | ⟨g,cap,cur,h3,h4,h5,h6⟩
  ·exact Or.inl h3
  ·exact Or.inr ⟨g,cap,cur,h3,h4,by rw[s.block g (h0 g (by rw[h3];rfl)) (Array.getElem?_eq_some_iff.1 h5).1];exact h5,h6⟩
 ·obtain⟨c,e1,e2⟩:=hw i hi;exact⟨c,e1,e2.since (s.mono (fun k hk=>hk.1))⟩
theorem GvW.below{P:Nat->Prop}{N:Nat}{w w':World}{sl:Value}{acc:List V}(h:GvW P N w sl acc)(hb:Below w.heap.size w w'):GvW P N w' sl acc:=h.since (Since.of_below hb)
theorem GvW.wf{P:Nat->Prop}{N:Nat}{w:World}{sl:Value}{acc:List V}(h:GvW P N w sl acc)(hn:acc.length<=1000000):Wf P (N+1) w sl:=by
 obtain⟨row,⟨hlen,hs⟩,hP,hall,hw⟩:=h;rcases hs with⟨rfl,-⟩ | ⟨g,cap,cur,rfl,-,hg,h1,h2,h3,h4⟩
 ·exact Wf.nil (Nat.zero_le _)
 ·refine Or.inr ⟨g,acc.length,cap,cur,rfl,h1,⟨hn,h2⟩,hP g rfl,hg,by omega,fun i hi=>?_⟩;obtain⟨cs,hv,hcs⟩:=hall.get (List.getElem?_eq_getElem hi);obtain⟨xs,rfl,-⟩:=At.1 hv;obtain⟨c,hc,hwf⟩:=hw i hi;have hat:∀j,j<4->cur[i*4+j]?=row[i*4+j]?:=fun j hj=>by
   rw[<-h4,List.getElem?_take,if_pos (by omega)];simp
  have e0:=(hat 0 (by omega)).trans (hcs 0 (by omega));have e1:=(hat 1 (by omega)).trans (hcs 1 (by omega));have e2:=(hat 2 (by omega)).trans (hcs 2 (by omega));have e3:=(hat 3 (by omega)).trans hc;exact⟨_,_,_,c,e0,e1,e2,e3,hwf.base (fun k hk _=>hk.1)⟩
theorem Ok{P:Nat->Prop}{N:Nat}{w:World}{sl:Value}{acc:List V}(h:GvW P N w sl acc){x:V}{xs:Value}(hx:IsW (fun k=>P k∧sl.ownBlock≠some k) w x xs)(hwx:Wf (fun k=>P k∧sl.ownBlock≠some k) N w xs)(hn:acc.length+1<=900000)(hP:∀k,w.heap.size<=k->P k) :
  ∃wa ao cap w',w.alloc (.cells #[iv x.k,iv x.n,bz x.t,xs] 31)=wa∧(Builtin.append_ #[22,22] 22 #[sl,sL w.heap.size 0 1 1]).run Tryz.prog wa=.ok (.slice ao (acc.length+1) cap) w'∧GvW P N w' (.slice ao (acc.length+1) cap) (acc ++ [x])∧Fr (fun k=>sl.ownBlock≠some k) w w':=by
 obtain⟨wa,hWa⟩:∃wa,w.alloc (.cells #[iv x.k,iv x.n,bz x.t,xs] 31)=wa:=⟨_,rfl⟩;have hba:Below w.heap.size w wa:=by rw[<-hWa];exact (Below.refl _ _).alloc (Nat.le_refl _) _
 have hblk:wa.heap[w.heap.size]?=some (.cells #[iv x.k,iv x.n,bz x.t,xs] 31):=by rw[<-hWa];exact Ai _ _
 obtain⟨row,hown,hPo,hall,hwf⟩:=h.below hba;have hone:An (fun k=>P k∧sl.ownBlock≠some k) wa [x] [iv x.k,iv x.n,bz x.t,xs]:=An.one (At.2 ⟨xs,rfl,hx.below hba⟩);obtain⟨ao,cap,w',hr,ho,hb,hg,hat⟩:=Eo Tryz.underlying22 Dh rfl (by decide) 22 (m:=1) (c:=1) (ad:=some ⟨w.heap.size,0,none⟩) hown (fun h=>by cases h) (by simp) (fun b hb j u hu=>by
  obtain rfl:=Option.some.inj hb;exact World.news_of_block hblk j u hu) hone.ones (by omega) (by decide) (Nat.zero_le _)
 have hs0:sl.ownBlock≠some wa.heap.size:=fun e=>by have:=(hown.lt _ e).2;omega
 have hsince:Since (fun k=>P k∧sl.ownBlock≠some k) wa w':=⟨hg.size,fun k h1 h2=>hg.block k h2 (fun e=>h1.2 e.symm)⟩;have hown':∀k,(Value.slice ao (acc.length+1) cap).ownBlock=some k->sl.ownBlock=some k∨wa.heap.size=k:=fun k hk=>by
  rcases hat with e | e
  ·exact Or.inl (e ▸ hk)
  ·rw[e] at hk;exact Or.inr (Option.some.inj hk)
 have hstep:∀{c:Value},Wf (fun k=>P k∧sl.ownBlock≠some k) N wa c->Wf (fun k=>P k∧(Value.slice ao (acc.length+1) cap).ownBlock≠some k) N w' c:=fun {c} hc=>((hc.base (P':=fun k=>(P k∧sl.ownBlock≠some k)∧k<wa.heap.size) (fun k h1 h2=>⟨h1,h2⟩)).since ⟨hg.size,fun k h1 h2=>hsince.block k h1.1 h2⟩).base (fun k h1 _=>⟨h1.1.1,fun e=>by
  rcases hown' k e with e | e
  ·exact h1.1.2 e
  ·have:=h1.2;omega⟩)
 refine⟨wa,ao,cap,w',hWa,hr,⟨row ++ [iv x.k,iv x.n,bz x.t,xs],?_,?_,?_,?_⟩,?_⟩
 ·simpa using ho
 ·intro k hk;rcases hown' k hk with e | e
  ·exact hPo k e
  ·exact hP k (by have:=hba.size;omega)
 ·refine (((hall.base (B':=fun k=>(P k∧sl.ownBlock≠some k)∧k<wa.heap.size) (fun k h1 h2=>⟨h1,h2⟩)).append (hone.base (fun k h1 h2=>⟨h1,h2⟩))).since ⟨hg.size,fun k h1 h2=>hsince.block k h1.1 h2⟩).base (fun k h1 _=>⟨h1.1.1,fun e=>?_⟩);rcases hown' k e with e | e
  ·exact h1.1.2 e
  ·have:=h1.2;omega
 ·intro i hi;have hrl:row.length=acc.length*4:=hown.1;by_cases hlt:i<acc.length
  ·obtain⟨c,e1,e2⟩:=hwf i hlt;exact⟨c,by rw[List.getElem?_append_left (by omega)];exact e1,hstep e2⟩
  ·have hie:i=acc.length:=by simp at hi;omega
   subst hie;exact⟨xs,by rw[List.getElem?_append_right (by omega),hrl];simp,hstep (hwx.below hba)⟩
 ·exact⟨hg.os.trans hba.os,hg.tape.trans hba.tape,hg.output.trans hba.output,Nat.le_trans hba.size hg.size,fun k h1 h2=>(hg.block k (Nat.lt_of_lt_of_le h2 hba.size) (fun e=>h1 e.symm)).trans (hba.block k h2)⟩
theorem G3{B:Nat->Prop}{l:List V}{a:Option Addr}{c:Nat}{w:World}(hl:Al B w l (.slice a l.length c))(hw:∀x∈l,wt x<=1000000)(hn:l.length<=800000) :
  Calls Tryz.prog 29 #[.slice a l.length c] w fun r w'=>(∃a' c',r=.returned (.slice a' l.length c')∧GvW (From w.heap.size) 1000001 w' (.slice a' l.length c') l)∧Below w.heap.size w w':=by
 have hround:∀(q:Nat) (wr:World),q<l.length->Below w.heap.size w wr ->
   ∃x g o ax cx,l[q]?=some x∧a=some ⟨g,o,none⟩∧g<wr.heap.size∧wr.cell? ⟨g,o+q*4,none⟩=some (iv x.k)∧wr.cell? ⟨g,o+q*4+1,none⟩=some (iv x.n)∧wr.cell? ⟨g,o+q*4+2,none⟩=some (bz x.t)∧wr.cell? ⟨g,o+q*4+3,none⟩=some (.slice ax x.l.length cx) ∧
    ∀w2,Below wr.heap.size wr w2->Calls Tryz.prog 32 #[.agg #[iv x.k,iv x.n,bz x.t,.slice ax x.l.length cx]] w2 fun r w'=>Jk 1000001 w2 x r w':=by
  intro q wr h1 hBr;have hx:l[q]?=some l[q]:=List.getElem?_eq_getElem h1;obtain⟨g,o,ax,cx,e,_,hg,c0,c1,c2,c3,hw'⟩:=(hl.below hBr).get hx;exact⟨l[q],g,o,ax,cx,hx,e,hg,c0,c1,c2,c3,fun w2 hb=>Dl _ _ _ _ w2 (by have:=hw _ (List.getElem_mem h1);omega) (hw _ (List.getElem_mem h1)) (hw'.below hb)⟩
 have Hround:Hid _:=hround;clear hl hw hround;go_enter Tryz.func29,Tryz.ntmps29;go_wp2_with fail
 go_loopg [3,8] l.length (fun g s3 i wr=>∃(q:Nat) (a3:Option Addr) (c3:Nat),q<=l.length∧g=l.length - q∧s3=.slice a3 q c3∧i=iv q∧Hid (GvW (From w.heap.size) 1000001 wr (.slice a3 q c3) (l.take q))∧Below w.heap.size w wr)
 case atStart=>exact⟨0,none,0,Nat.zero_le _,rfl,rfl,rfl,by show GvW _ _ _ _ _;simpa using GvW.nil _ _ _,Below.refl _ _⟩
 case round=>
  obtain⟨q,a3,c3,hq,rfl,rfl,rfl,HG,hBr⟩:=hrel;by_cases hlt:q<l.length
  ·obtain⟨x,g,o,ax,cx,hx,rfl,hg,x0,x1,x2,x3,hC⟩:=Hround.out q wr hlt hBr;have hltI:(q:Int)<(l.length:Int):=by omega
   have hq0:(0:Int)<=(q:Int):=by omega
   have Hx:Hid (l[q]?=some x):=hx;have hba:Below wr.heap.size wr (wr.alloc (.cells #[iv x.k,iv x.n,bz x.t,.slice ax x.l.length cx] 31)):=(Below.refl _ _).alloc (Nat.le_refl _) _;clear hx Hround;go_wp2_with fail;refine (hC _ hba).mono ?_;rintro e w3 ⟨⟨a4,c4,rfl,hx4,hf4⟩,hb3⟩;have hB3:Below wr.heap.size wr w3:=hba.trans (hb3.mono hba.size);have hBw:Below w.heap.size w w3:=hBr.trans (hB3.mono hBr.size);have hs:=hBr.size;have hsa:=hba.size;have ho:∀k,(Value.slice a3 q c3).ownBlock=some k->k<wr.heap.size:=fun k e=>by
    obtain⟨row,k1,k2,k3⟩:=HG.out.gv;exact (k1.lt k e).2
   have hP4:∀k,From (wr.alloc (.cells #[iv x.k,iv x.n,bz x.t,.slice ax x.l.length cx] 31)).heap.size k->k<w3.heap.size->From w.heap.size k∧(Value.slice a3 q c3).ownBlock≠some k:=fun k hk _=>by
    have hk':(wr.alloc (.cells #[iv x.k,iv x.n,bz x.t,.slice ax x.l.length cx] 31)).heap.size<=k:=hk;exact⟨by show w.heap.size<=k;omega,fun e=>by have:=ho k e;omega⟩
   obtain⟨wb,a5,c5,w5,hWb,hr5,hG5,hf5⟩:=Ok (HG.out.below hB3) (hx4.base hP4) (hf4.base hP4) (by simp;omega) (fun k hk=>by have:=hB3.size;show w.heap.size<=k;omega);have hl5:(l.take q).length=q:=by simp;omega
   rw[hl5] at hr5 hG5;have HG5:Hid (GvW (From w.heap.size) 1000001 w5 (.slice a5 (q+1) c5) (l.take (q+1))):=by
    show GvW _ _ _ _ _;rw[List.take_add_one,Hx.out];exact hG5
   have hB5:Below w.heap.size w w5:=hBw.trans (hf5.below hBw.size (fun k hk e=>by
    obtain⟨row,k1,k2,k3⟩:=HG.out.gv;have:w.heap.size<=k:=k2 k e;omega))
   clear HG hG5 hf5 hC hx4 hf4 hP4 ho hb3 hB3 hBw hBr hba x0 x1 x2 x3;go_wp2_with (at_builtin;refine Lib.wpList_append_run _ rfl _ _ 22 22 rfl _ _ rfl rfl _ _ hr5 ?_;clear hr5);go_roundg (l.length - (q+1))
   case measure=>omega
   case rel=>exact⟨q+1,a5,c5,by omega,rfl,rfl,by go_num,HG5,hB5⟩
  ·have hltI:¬(q:Int)<(l.length:Int):=by omega
   have hqe:q=l.length:=by omega
   subst hqe;have hfin:=HG.out;rw[List.take_length] at hfin;clear Hround HG;go_wp2;go_ret;exact⟨⟨a3,c3,rfl,hfin⟩,hBr⟩
end
end Go.Proofs.YtnijcolomoobnaaGreatDoor
