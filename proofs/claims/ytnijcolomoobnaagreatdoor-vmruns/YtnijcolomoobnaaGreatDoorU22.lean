/- Texts of ours, joined. -/
import Derived.Test.YtnijcolomoobnaaGreatDoorU17
set_option linter.unusedVariables false
set_option linter.unusedSimpArgs false
set_option maxRecDepth 100000
set_option maxHeartbeats 16000000
namespace Go.Proofs.YtnijcolomoobnaaGreatDoor
section
open Go.RowKit
attribute [local go_sem ↓] Go.wp_at_zero Go.wp_at_succ
theorem Uv{B:Nat->Prop}{v k x:V}{ao ak ax:Option Addr}{cap ck cx:Nat}{w:World}(hv:IsW B w v (.slice ao v.l.length cap))(hk:IsW B w k (.slice ak k.l.length ck))(hx:IsW B w x (.slice ax x.l.length cx))(hwv:wt v<=200000)(hwk:wt k<=200000)(hwx:wt x<=200000)(ht:Et v)(h5:v.k=5)(hh:hit k v.l=false)(h64:¬64<=v.l.length / 2) :
  Calls Tryz.prog 112 #[.agg #[iv v.k,iv v.n,bz v.t,.slice ao v.l.length cap],.agg #[iv k.k,iv k.n,bz k.t,.slice ak k.l.length ck],.agg #[iv x.k,iv x.n,bz x.t,.slice ax x.l.length cx]] w fun r w'=>Br w (putV v k x) r w':=by
 obtain⟨ao',cap',e,c1,c2⟩:=hv.vs.slice;simp only[Value.slice.injEq] at e;obtain⟨rfl,-,rfl⟩:=e;have hwts:=Bw v;have hlv:=A4 v.l;obtain⟨w0,w1,w2,w3,hW,hW1,hW2,hW3,hs0,hs1,hs2,hs3,hB3,hc,hr⟩:=Ep w v (.slice ao v.l.length cap) k (.slice ak k.l.length ck) x (.slice ax x.l.length cx);obtain⟨⟨a0,a1,a2,a3⟩,⟨b0,b1,b2,b3⟩,⟨x0,x1,x2,x3⟩⟩:=hc w3 (Below.refl _ _);have hCv:=Az _ v _ B w3 (Nat.lt_succ_self _) (by omega) (hv.below hB3);have hCx:∀w4,Below w3.heap.size w3 w4->Calls Tryz.prog 17 #[.agg #[iv x.k,iv x.n,bz x.t,.slice ax x.l.length cx]] w4 fun r w'=>D7 w4 x r w':=fun w4 hb4=>Az _ x _ B w4 (Nat.lt_succ_self _) (by omega) ((hx.below hB3).below hb4)
 have hvr:Hid (v.t.length<=maxLen∧InR v.k∧InR v.n):=⟨hv.txt,hv.kr,hv.nr⟩;have hk4:(v.k == 4)=false:=by simp[h5]
 have hk5:(v.k != 5)=false:=by simp[h5]
 obtain⟨t1,t2⟩:=ht h5;have hP:∀w4,Below w3.heap.size w3 w4->Calls Tryz.prog 139 #[.agg #[iv v.k,iv v.n,bz v.t,.slice ao v.l.length cap],.agg #[iv k.k,iv k.n,bz k.t,.slice ak k.l.length ck]] w4 fun r w'=>r=.returned (iv (plI k v.l))∧Below w4.heap.size w4 w':=fun w4 hb4=>Er ((hv.below hB3).below hb4) ((hk.below hB3).below hb4) (by omega) t1 t2
 obtain⟨u,HU⟩:∃u:V,Hid (u=.mk v.k v.n v.t (spl v.l (2*kat k v.l) (2*kat k v.l) [k,x])):=⟨_,rfl⟩;have hfin:Hid (putV v k x=wgV u):=by
  have hp:plV v k=(0,52):=by unfold plV;rw[if_neg (by omega),if_pos h5,hh];rfl
  show _=_;unfold putV;rw[hp,if_neg (by decide),if_neg (by omega),if_neg h64,HU.out]
 have huw:wt u<=1000000:=by rw[HU.out,H4];have:=F4 v.l (2*kat k v.l) (2*kat k v.l) [k,x];simp only[wts] at this;omega
 have huk:Hid (u.k=v.k∧u.n=v.n∧u.t=v.t∧u.l=spl v.l (2*kat k v.l) (2*kat k v.l) [k,x]):=by rw[HU.out];exact⟨rfl,rfl,rfl,rfl⟩
 have hCk:∀w4,Below w3.heap.size w3 w4->Calls Tryz.prog 17 #[.agg #[iv k.k,iv k.n,bz k.t,.slice ak k.l.length ck]] w4 fun r w'=>D7 w4 k r w':=fun w4 hb4=>Az _ k _ B w4 (Nat.lt_succ_self _) (by omega) ((hk.below hB3).below hb4)
 have hround:∀(q:Nat) (wr:World),q<v.l.length->Below w3.heap.size w3 wr ->
   ∃y g o ay cy,v.l[q]?=some y∧ao=some ⟨g,o,none⟩∧g<w.heap.size ∧
    (wr.cell? ⟨g,o+q*4,none⟩=some (iv y.k)∧wr.cell? ⟨g,o+q*4+1,none⟩=some (iv y.n)∧wr.cell? ⟨g,o+q*4+2,none⟩=some (bz y.t)∧wr.cell? ⟨g,o+q*4+3,none⟩=some (.slice ay y.l.length cy)) ∧
    (∀w2,Below wr.heap.size wr w2->Calls Tryz.prog 35 #[.agg #[iv k.k,iv k.n,bz k.t,.slice ak k.l.length ck],.agg #[iv y.k,iv y.n,bz y.t,.slice ay y.l.length cy]] w2 fun r w'=>r=.returned (iv (cmpV k y))∧Below w2.heap.size w2 w') ∧
    (∀w2,Below wr.heap.size wr w2->Calls Tryz.prog 17 #[.agg #[iv y.k,iv y.n,bz y.t,.slice ay y.l.length cy]] w2 fun r w'=>D7 w2 y r w'):=by
  intro q wr h1 hBr;have hy:v.l[q]?=some v.l[q]:=List.getElem?_eq_getElem h1;have hBw:Below w.heap.size w wr:=hB3.trans (hBr.mono hB3.size);obtain⟨g,o,ay,cy,e,_,hg,c0,c1,c2,c3,hw⟩:=hv.vs.get hy;obtain⟨f,-⟩:=Ag hBw;have:=Df hy;exact⟨v.l[q],g,o,ay,cy,hy,e,hg,⟨(f _ _ hg).trans c0,(f _ _ hg).trans c1,(f _ _ hg).trans c2,(f _ _ hg).trans c3⟩,fun w2 hb2=>Aq ((hk.below hBw).below hb2) ((hw.below hBw).below hb2),fun w2 hb2=>Az _ _ _ B w2 (Nat.lt_succ_self _) (by omega) ((hw.below hBw).below hb2)⟩
 have hI:plI k v.l=-1:=by unfold plI;rw[hh];rfl
 simp only[hI] at hP;have h128:¬(128:Int)<=(v.l.length:Int):=by omega
 have hhH:Hid (hit k v.l=false):=hh;clear hv hk hx h5 hI h64 ht HU hh;go_enter Tryz.func112,Tryz.ntmps112;go_wp2_with fail;refine hCv.mono ?_;rintro e wc ⟨⟨av,cv,rfl,-,hGc⟩,hbc⟩;clear hCv a0 a1 a2 a3 b0 b1 b2 b3 x0 x1 x2 x3;obtain⟨wz,w4,hWz,hW4,hbc4,hs4,hsz,hblk4,⟨y0,y1,y2,y3⟩,⟨z0,z1,z2,z3⟩⟩:=Cg wc (iv v.k) (iv v.n) (bz v.t) (.slice av v.l.length cv);have hsc:=hbc.size;have hb34:Below w3.heap.size w3 w4:=hbc.trans (hbc4.mono hsc);obtain⟨⟨a0,a1,a2,a3⟩,⟨b0,b1,b2,b3⟩,⟨x0,x1,x2,x3⟩⟩:=hc w4 hb34;obtain⟨q0,q1,q2,q3,p0,p1,p2,p3⟩:=Aa hblk4;have hP4:=hP w4 hb34;clear hP;go_wp2_with fail;refine hP4.mono ?_;rintro e w5 ⟨rfl,hb45⟩;clear hP4 y0 y1 y2 y3 z0 z1 z2 z3 q0 q1 q2 q3 p0 p1 p2 p3 a0 a1 a2 a3 b0 b1 b2 b3 x0 x1 x2 x3 hW4 hWz;have hs45:=hb45.size;have hb35:Below w3.heap.size w3 w5:=hb34.trans (hb45.mono hb34.size);have hblk5:w5.heap[wc.heap.size]?=some (.cells #[iv v.k,iv v.n,bz v.t,.slice av v.l.length cv] 31):=(hb45.block _ (by omega)).trans hblk4;obtain⟨⟨a0,a1,a2,a3⟩,⟨b0,b1,b2,b3⟩,⟨x0,x1,x2,x3⟩⟩:=hc w5 hb35;obtain⟨q0,q1,q2,q3,p0,p1,p2,p3⟩:=Aa hblk5;clear hGc;obtain⟨ws,hWs⟩:∃ws,w5.setCell ⟨wc.heap.size,3,none⟩ sZ=ws:=⟨_,rfl⟩;have hblks:ws.heap[wc.heap.size]?=some (.cells #[iv v.k,iv v.n,bz v.t,sZ] 31):=by rw[<-hWs];exact E2 hblk5 _
 have hb3s:Below w3.heap.size w3 ws:=by rw[<-hWs];exact hb35.setCell (p:=⟨wc.heap.size,3,none⟩) (by show w3.heap.size<=wc.heap.size;omega) _
 go_wp2_with fail
 clear hWs hblk5 hblk4 hb35 hb34 hbc4 hbc hb45 hs45 q0 q1 q2 q3 p0 p1 p2 p3 a0 a1 a2 a3 b0 b1 b2 b3 x0 x1 x2 x3
 go_loopg [10,11] v.l.length (fun g l i wr=>∃(q m:Nat) (sa:Option Addr) (sc:Nat),Hid (m=2*q)∧m<=v.l.length∧g=v.l.length - m∧l=.bool (decide (kat k v.l<q))∧i=iv m∧Hid (Below w3.heap.size w3 wr∧wr.heap[wc.heap.size]?=some (.cells #[iv v.k,iv v.n,bz v.t,.slice sa (Bm k x v.l q).length sc] 31)∧Gv (From (wc.heap.size+1)) wr (.slice sa (Bm k x v.l q).length sc) (Bm k x v.l q)))
 case atStart=>exact⟨0,0,none,0,rfl,Nat.zero_le _,rfl,rfl,rfl,hb3s,by rw[J2];exact hblks,by rw[J2];exact Gv.nil _ _⟩
 case round=>
  obtain⟨q,m,sa,sc,Hm,hm,rfl,rfl,rfl,HR⟩:=hrel;clear hblks hb3s;have hBr:Below w3.heap.size w3 wr:=HR.out.1;have hbr:=HR.out.2.1;have hGr:=HR.out.2.2;have hlen:=S4 (k:=k) (x:=x) (l:=v.l) (q:=q) (by have:=Hm.out;omega);have hll:(Bm k x v.l q).length<=m+2:=by rw[hlen];have:=Hm.out;split <;> omega
  clear hlen HR;have hGlt:wc.heap.size<wr.heap.size:=(Array.getElem?_eq_some_iff.1 hbr).1;by_cases hlt:m+1<v.l.length
  ·have hltI:(m:Int)+1<(v.l.length:Int):=by omega
   have hltI2:(m:Int)<(v.l.length:Int):=by omega
   have hmI:(0:Int)<=(m:Int):=by omega
   obtain⟨y,g,o,ay,cy,hy,rfl,hg,⟨c0,c1,c2,c3⟩,hCmp,-⟩:=hround m wr (by omega) hBr;obtain⟨z,hzz⟩:∃z,Hid (v.l[m+1]?=some z):=⟨_,List.getElem?_eq_getElem hlt⟩;have hyy:Hid (v.l[m]?=some y):=hy;have hy2:Hid (v.l[2*q]?=some y):=by show _=_;rw[<-Hm.out];exact hy
   have hz2:Hid (v.l[2*q+1]?=some z):=by show _=_;rw[<-Hm.out];exact hzz.out
   have Hm2:Hid (m+2=2*(q+1)):=by have:=Hm.out;show _=_;omega
   obtain⟨⟨f0,f1,f2,f3⟩,⟨k0,k1,k2,k3⟩,-⟩:=hc wr hBr;have hgr:g<wr.heap.size:=by omega
   have hgb:w.heap.size<wr.heap.size:=by omega
   have hgb':w.heap.size+1<wr.heap.size:=by omega
   clear hy;rcases Nat.lt_trichotomy q (kat k v.l) with hqk | hqk | hqk
   ·have hd:decide (kat k v.l<q)=false:=by simp;omega
    have hstep:Hid (Bm k x v.l (q+1)=Bm k x v.l q ++ [y,z]):=L2 hy2.out hz2.out hqk;have hcp:¬cmpV k y<0:=by
     have h1:=Kr k v.l q y hqk hy2.out;have h2:=Dm k y;omega
    have hlaid:Hid (Value.bool false=.bool (decide (kat k v.l<q+1))):=by show _=_;congr 1;symm;simp;omega
    rw[hd];clear hd hqk;go_wp2_with fail;go_region_held3 (fun w'=>w'.cell? ⟨w.heap.size,3,none⟩=some (sL g o v.l.length cap)∧w'.cell? ⟨w.heap.size+1,0,none⟩=some (iv k.k)∧w'.cell? ⟨w.heap.size+1,1,none⟩=some (iv k.n)∧w'.cell? ⟨w.heap.size+1,2,none⟩=some (bz k.t)∧w'.cell? ⟨w.heap.size+1,3,none⟩=some (.slice ak k.l.length ck)∧w'.cell? ⟨g,o+m*4,none⟩=some (iv y.k)∧w'.cell? ⟨g,o+m*4+1,none⟩=some (iv y.n)∧w'.cell? ⟨g,o+m*4+2,none⟩=some (bz y.t)∧w'.cell? ⟨g,o+m*4+3,none⟩=some (.slice ay y.l.length cy)) (go_keep)
     ((go_at_call 35;refine (hCmp _ (Below.refl _ _).drew).mono ?_;rintro e wq ⟨rfl,hbq⟩;replace hbq:=Ad hbq;obtain⟨f9,-⟩:=Ag hbq))
    clear hCmp f9 c0 c1 c2 c3 k0 k1 k2 k3 f0 f1 f2 f3;have hsq:=hbq.size;have hBq:Below w3.heap.size w3 wq:=hBr.trans (hbq.mono hBr.size);have hGq:=hGr.below hbq;have hbrq:wq.heap[wc.heap.size]?=some (.cells #[iv v.k,iv v.n,bz v.t,.slice sa (Bm k x v.l q).length sc] 31):=(hbq.block _ hGlt).trans hbr;clear hGr hbr;generalize cmpV k y=cc at *;generalize Bm k x v.l q=acc at *;have hWl:wq.heap.size ≥ wc.heap.size+1:=(Array.getElem?_eq_some_iff.1 hbrq).1;obtain⟨⟨-,-,-,j3⟩,-⟩:=hc wq hBq;obtain⟨-,-,-,i3,-⟩:=Aa hbrq;obtain⟨y',g',o',ay2,cy2,hy',e,-,⟨p0,p1,p2,p3⟩,-,hCy⟩:=hround m wq (by omega) hBq;simp only[Option.some.injEq,Addr.mk.injEq] at e;obtain⟨rfl,rfl,-⟩:=e;rw[hyy.out] at hy';obtain rfl:=Option.some.inj hy';obtain⟨z',g',o',az,cz,hz',e,-,⟨d0,d1,d2,d3⟩,-,hCz⟩:=hround (m+1) wq hlt hBq;simp only[Option.some.injEq,Addr.mk.injEq] at e;obtain⟨rfl,rfl,-⟩:=e;rw[hzz.out] at hz';obtain rfl:=Option.some.inj hz';obtain⟨n,Hn⟩:∃n:Nat,Hid (m+1=n):=⟨_,rfl⟩;have hn1:IntKind.i64.wrap ((m:Int)+1)=(n:Int):=by have:=Hn.out;rw[IntKind.wrap_i64];omega
    have hn2:(m:Int)+1=(n:Int):=by have:=Hn.out;omega
    have hn3:IntKind.i64.wrap (n:Int)=(n:Int):=by have:=Hn.out;rw[IntKind.wrap_i64];omega
    have hn4:(n:Int)<(v.l.length:Int):=by have:=Hn.out;omega
    have hn5:(0:Int)<=(n:Int):=by omega
    rw[Hn.out] at d0 d1 d2 d3;have hgW:g<wq.heap.size:=by omega
    have hSk:∀ww,Below wq.heap.size wq ww->ww.cell? ⟨wc.heap.size,3,none⟩=some (.slice sa acc.length sc)∧ww.cell? ⟨w.heap.size,3,none⟩=some (sL g o v.l.length cap)∧ww.cell? ⟨g,o+m*4,none⟩=some (iv y.k)∧ww.cell? ⟨g,o+m*4+1,none⟩=some (iv y.n)∧ww.cell? ⟨g,o+m*4+2,none⟩=some (bz y.t)∧ww.cell? ⟨g,o+m*4+3,none⟩=some (.slice ay2 y.l.length cy2)∧ww.cell? ⟨g,o+n*4,none⟩=some (iv z.k)∧ww.cell? ⟨g,o+n*4+1,none⟩=some (iv z.n)∧ww.cell? ⟨g,o+n*4+2,none⟩=some (bz z.t)∧ww.cell? ⟨g,o+n*4+3,none⟩=some (.slice az z.l.length cz):=by
     intro ww hb;obtain⟨f,-⟩:=Ag hb;exact⟨(f _ _ (by omega)).trans i3,(f _ _ (by omega)).trans j3,(f _ _ hgW).trans p0,(f _ _ hgW).trans p1,(f _ _ hgW).trans p2,(f _ _ hgW).trans p3,(f _ _ hgW).trans d0,(f _ _ hgW).trans d1,(f _ _ hgW).trans d2,(f _ _ hgW).trans d3⟩
    have hC1:=hCy wq.drew (Below.refl _ _).drew;have hap:(Value.slice sa acc.length sc).ownBlock≠some wc.heap.size:=by
     obtain⟨row,-,hP,-⟩:=hGq;intro e;have:wc.heap.size+1<=wc.heap.size:=hP _ e;omega
    clear hltI hCy;go_wp2_with fail;refine wpE_begin (S:=fun w'=>w'.cell? ⟨wc.heap.size,3,none⟩=some (.slice sa acc.length sc)∧w'.cell? ⟨w.heap.size,3,none⟩=some (sL g o v.l.length cap)∧w'.cell? ⟨g,o+m*4,none⟩=some (iv y.k)∧w'.cell? ⟨g,o+m*4+1,none⟩=some (iv y.n)∧w'.cell? ⟨g,o+m*4+2,none⟩=some (bz y.t)∧w'.cell? ⟨g,o+m*4+3,none⟩=some (.slice ay2 y.l.length cy2)∧w'.cell? ⟨g,o+n*4,none⟩=some (iv z.k)∧w'.cell? ⟨g,o+n*4+1,none⟩=some (iv z.n)∧w'.cell? ⟨g,o+n*4+2,none⟩=some (bz z.t)∧w'.cell? ⟨g,o+n*4+3,none⟩=some (.slice az z.l.length cz)) (N:=fun j=>decide (j<16)) (by kernel_rfl) ?_;have hS0:wq.drew.cell? ⟨wc.heap.size,3,none⟩=some (.slice sa acc.length sc)∧wq.drew.cell? ⟨w.heap.size,3,none⟩=some (sL g o v.l.length cap)∧wq.drew.cell? ⟨g,o+m*4,none⟩=some (iv y.k)∧wq.drew.cell? ⟨g,o+m*4+1,none⟩=some (iv y.n)∧wq.drew.cell? ⟨g,o+m*4+2,none⟩=some (bz y.t)∧wq.drew.cell? ⟨g,o+m*4+3,none⟩=some (.slice ay2 y.l.length cy2)∧wq.drew.cell? ⟨g,o+n*4,none⟩=some (iv z.k)∧wq.drew.cell? ⟨g,o+n*4+1,none⟩=some (iv z.n)∧wq.drew.cell? ⟨g,o+n*4+2,none⟩=some (bz z.t)∧wq.drew.cell? ⟨g,o+n*4+3,none⟩=some (.slice az z.l.length cz):=hSk _ (Below.refl _ _).drew;refine Ab (some 100) [1,16,17,18] 0 (pt wc.heap.size 3) rfl rfl (by kernel_rfl) (fun _ _ _ h=>h) rfl (by intro w hS;(try dsimp only at hS);go_split_ands;go_simp) hS0 ?_
    try simp only[aP]
    refine Ab (some 101) [16,17,18] 1 (.slice sa acc.length sc) rfl rfl (by kernel_rfl) (fun _ _ _ h=>h) rfl (by intro w hS;(try dsimp only at hS);go_split_ands;go_simp) hS0 ?_
    try simp only[aP]
    refine Ab (some 102) [3,5,6,7,14,15,16,17,18] 2 (pt w.heap.size 3) rfl rfl (by kernel_rfl) (fun _ _ _ h=>h) rfl (by intro w hS;(try dsimp only at hS);go_split_ands;go_simp) hS0 ?_
    try simp only[aP]
    refine Ab (some 103) [5,6,7,14,15,16,17,18] 3 (sL g o v.l.length cap) rfl rfl (by kernel_rfl) (fun _ _ _ h=>h) rfl (by intro w hS;(try dsimp only at hS);go_split_ands;go_simp) hS0 ?_
    try simp only[aP]
    refine Ab (some 104) [5,6,7,14,15,16,17,18] 4 (iv m) rfl rfl (by kernel_rfl) (fun _ _ _ h=>h) rfl (by intro w hS;(try dsimp only at hS);go_split_ands;go_simp) hS0 ?_
    try simp only[aP]
    refine Ab (some 105) [6,7,14,15,16,17,18] 5 (pt g (o+m*4)) rfl rfl (by kernel_rfl) (fun _ _ _ h=>h) rfl (by intro w hS;(try dsimp only at hS);go_split_ands;go_simp) hS0 ?_
    try simp only[aP]
    refine Ab (some 106) [7,14,15,16,17,18] 6 (.agg #[iv y.k,iv y.n,bz y.t,.slice ay2 y.l.length cy2]) rfl rfl (by kernel_rfl) (fun _ _ _ h=>h) rfl (by intro w hS;(try dsimp only at hS);go_split_ands;go_simp) hS0 ?_
    try simp only[aP]
    refine Ab (some 108) [9,12,13,14,15,16,17,18] 8 (pt w.heap.size 3) rfl rfl (by kernel_rfl) (fun _ _ _ h=>h) rfl (by intro w hS;(try dsimp only at hS);go_split_ands;go_simp) hS0 ?_
    try simp only[aP]
    refine Ab (some 109) [12,13,14,15,16,17,18] 9 (sL g o v.l.length cap) rfl rfl (by kernel_rfl) (fun _ _ _ h=>h) rfl (by intro w hS;(try dsimp only at hS);go_split_ands;go_simp) hS0 ?_
    try simp only[aP]
    refine Ab (some 110) [11,12,13,14,15,16,17,18] 10 (iv m) rfl rfl (by kernel_rfl) (fun _ _ _ h=>h) rfl (by intro w hS;(try dsimp only at hS);go_split_ands;go_simp) hS0 ?_
    try simp only[aP]
    refine Ab (some 111) [12,13,14,15,16,17,18] 11 (iv n) rfl rfl (by kernel_rfl) (fun _ _ _ h=>h) rfl (by intro w hS;(try dsimp only at hS);go_split_ands;go_simp) hS0 ?_
    try simp only[aP]
    refine Ab (some 112) [13,14,15,16,17,18] 12 (pt g (o+n*4)) rfl rfl (by kernel_rfl) (fun _ _ _ h=>h) rfl (by intro w hS;(try dsimp only at hS);go_split_ands;go_simp) hS0 ?_
    try simp only[aP]
    refine Ab (some 113) [14,15,16,17,18] 13 (.agg #[iv z.k,iv z.n,bz z.t,.slice az z.l.length cz]) rfl rfl (by kernel_rfl) (fun _ _ _ h=>h) rfl (by intro w hS;(try dsimp only at hS);go_split_ands;go_simp) hS0 ?_
    try simp only[aP]
    refine Ac (i:=7) (by kernel_rfl) rfl rfl (fun K hK=>?_);go_simp;refine hC1.mono ?_;rintro e w6 ⟨⟨a6,c6,rfl,hx6,-⟩,hb6⟩;replace hb6:Below wq.heap.size wq w6:=Ad hb6;replace hx6:IsW (From wq.heap.size) w6 y (.slice a6 y.l.length c6):=hx6;refine hK _ _ (fun _=>hSk _ hb6) ?_;clear hK K
    try simp only[aP]
    refine Ac (i:=14) (by kernel_rfl) rfl rfl (fun K hK=>?_);go_simp;refine (hCz w6 hb6).mono ?_;rintro e w7 ⟨⟨a7,c7,rfl,hy7,-⟩,hb7⟩;have hs6:=hb6.size;have hb67:Below wq.heap.size wq w7:=hb6.trans (hb7.mono hs6);replace hx6:=hx6.below hb7;have hs7:=hb7.size;refine hK _ _ (fun _=>hSk _ hb67) ?_;clear hK K
    try simp only[aP]
    obtain⟨wa,hWa⟩:∃wa,w7.alloc (.cells #[iv y.k,iv y.n,bz y.t,.slice a6 y.l.length c6,iv z.k,iv z.n,bz z.t,.slice a7 z.l.length c7] 31)=wa:=⟨_,rfl⟩;have hba:Below w7.heap.size w7 wa:=by rw[<-hWa];exact (Below.refl _ _).alloc (Nat.le_refl _) _
    have hblka:wa.heap[w7.heap.size]?=some (.cells #[iv y.k,iv y.n,bz y.t,.slice a6 y.l.length c6,iv z.k,iv z.n,bz z.t,.slice a7 z.l.length c7] 31):=by rw[<-hWa];exact Ai _ _
    have hsa:wa.heap.size=w7.heap.size+1:=by rw[<-hWa];simp
    have hbWa:Below wq.heap.size wq wa:=hb67.trans (hba.mono hb67.size);refine Ac (i:=15) (by kernel_rfl) rfl rfl (fun K hK=>?_);go_simp;refine hK _ _ (fun _=>hSk _ hbWa) ?_;clear hK K
    try simp only[aP]
    have hGa:=hGq.below hbWa;have hal:An (fun k=>(From (wc.heap.size+1)) k∧(Value.slice sa acc.length sc).ownBlock≠some k) wa [y,z] [iv y.k,iv y.n,bz y.t,.slice a6 y.l.length c6,iv z.k,iv z.n,bz z.t,.slice a7 z.l.length c7]:=
     An.append (l:=[y]) (row:=[iv y.k,iv y.n,bz y.t,.slice a6 y.l.length c6]) (An.one (At.2 ⟨_,rfl,(hx6.below hba).base (fun k h1 _=>by have h2:wq.heap.size<=k:=h1;exact⟨by show wc.heap.size+1<=k;omega,hGq.apart h2⟩)⟩)) (An.one (At.2 ⟨_,rfl,(hy7.below hba).base (fun k h1 _=>by have h3:w6.heap.size<=k:=h1;have h2:wq.heap.size<=k:=(by omega);exact⟨by show wc.heap.size+1<=k;omega,hGq.apart h2⟩)⟩))
    obtain⟨g8,c8,w8,hr8,hG8,hb8,hf8,hs8⟩:=hGa.push (l2:=[y,z]) (ad:=⟨w7.heap.size,0,none⟩) (by simp) (by simp) (World.news_of_block hblka) hal (by simp only[List.length_cons,List.length_nil,List.length_append];omega) (fun k hk=>by have h2:wq.heap.size<=k:=(by omega);exact by show wc.heap.size+1<=k;omega) 2 22;clear hal;have hn8:acc.length + [y,z].length=acc.length+2:=rfl;rw[hn8] at hr8 hG8;refine Ac (i:=16) (by kernel_rfl) rfl rfl (fun K hK=>?_);refine Ay _ _ 22 rfl _ _ rfl rfl _ _ hr8 ?_;refine hK _ _ (fun h=>by cases h) ?_;clear hK K
    try simp only[aP]
    have hbr8:w8.heap[wc.heap.size]?=some (.cells #[iv v.k,iv v.n,bz v.t,.slice sa acc.length sc] 31):=by
     rw[hf8 _ (by omega) hap,hbWa.block _ (by omega)];exact hbrq
    obtain⟨m0,m1,m2,m3,n0,n1,n2,n3⟩:=Aa hbr8;refine Ac (i:=17) (by kernel_rfl) rfl rfl (fun K hK=>?_);go_simp;refine hK _ _ (fun h=>by cases h) ?_;clear hK K
    try simp only[aP]
    refine Ac (i:=18) (by kernel_rfl) rfl rfl (fun K hK=>?_);go_simp;refine hK _ _ (fun h=>by cases h) ?_;clear hK K
    try simp only[aP]
    refine Am (by kernel_rfl) ?_;obtain⟨w9,hW9⟩:∃w9,w8.setCell ⟨wc.heap.size,3,none⟩ (sL g8 0 (acc.length+2) c8)=w9:=⟨_,rfl⟩;have hblk9:w9.heap[wc.heap.size]?=some (.cells #[iv v.k,iv v.n,bz v.t,sL g8 0 (acc.length+2) c8] 31):=by rw[<-hW9];exact E2 hbr8 _
    have hs9:w9.heap.size=w8.heap.size:=by rw[<-hW9];simp[World.setCell]
    have hnew:Hid (Below w3.heap.size w3 w9∧w9.heap[wc.heap.size]?=some (.cells #[iv v.k,iv v.n,bz v.t,.slice (some ⟨g8,0,none⟩) (Bm k x v.l (q+1)).length c8] 31)∧Gv (From (wc.heap.size+1)) w9 (.slice (some ⟨g8,0,none⟩) (Bm k x v.l (q+1)).length c8) (Bm k x v.l (q+1))):=by
     have h1:=hstep.out;have h2:(acc ++ [y,z]).length=(acc).length+2:=by simp
     rw[h1,h2];refine⟨?_,hblk9,?_⟩
     ·rw[<-hW9];exact ((hBq.trans (hbWa.mono hBq.size)).trans ((hb8 (wc.heap.size+1) (by omega) (fun k hk=>hk)).mono (by omega))).setCell (p:=⟨wc.heap.size,3,none⟩) (by show w3.heap.size<=wc.heap.size;omega) _
     ·rw[<-hW9];refine Gv.since hG8 ⟨by simp[World.setCell],fun k h1 _=>Below.heap_setCell _ _ _ _ ?_⟩;show k≠wc.heap.size;have:wc.heap.size+1<=k:=h1;omega
    rw[hW9];clear hG8 hGa hx6 hy7 hb6 hb7 hb8 hba hr8 hf8 hbWa hb67 m0 m1 m2 m3 n0 n1 n2 n3 hW9 hblk9 hbr8 hSk hS0 hC1 hCz hstep hGq hround hc hr;simp only[Exit.inBlock,Exit.then];refine ‹∀(a:Act) (w:World),_->_› _ _ ?_;go_wp2_with fail;go_roundg (v.l.length - (m+2))
    case measure=>omega
    case rel=>exact⟨q+1,m+2,some ⟨g8,0,none⟩,c8,Hm2,by omega,rfl,hlaid.out,by go_num,hnew⟩
   ·have hd:decide (kat k v.l<q)=false:=by simp;omega
    have hstep0:Hid (Bm k x v.l (q+1)=Bm k x v.l q ++ [k,x] ++ [y,z]):=Vg hy2.out hz2.out hqk;have hcp:cmpV k y<0:=Qc t1 hhH.out (by rw[<-hqk];exact hy2.out);have hlaid:Hid (Value.bool true=.bool (decide (kat k v.l<q+1))):=by show _=_;congr 1;symm;simp;omega
    rw[hd];clear hd hqk;go_wp2_with fail;go_region_held3 (fun w'=>w'.cell? ⟨w.heap.size,3,none⟩=some (sL g o v.l.length cap)∧w'.cell? ⟨w.heap.size+1,0,none⟩=some (iv k.k)∧w'.cell? ⟨w.heap.size+1,1,none⟩=some (iv k.n)∧w'.cell? ⟨w.heap.size+1,2,none⟩=some (bz k.t)∧w'.cell? ⟨w.heap.size+1,3,none⟩=some (.slice ak k.l.length ck)∧w'.cell? ⟨g,o+m*4,none⟩=some (iv y.k)∧w'.cell? ⟨g,o+m*4+1,none⟩=some (iv y.n)∧w'.cell? ⟨g,o+m*4+2,none⟩=some (bz y.t)∧w'.cell? ⟨g,o+m*4+3,none⟩=some (.slice ay y.l.length cy)) (go_keep)
     ((go_at_call 35;refine (hCmp _ (Below.refl _ _).drew).mono ?_;rintro e wq ⟨rfl,hbq⟩;replace hbq:=Ad hbq;obtain⟨f9,-⟩:=Ag hbq))
    clear hCmp f9 c0 c1 c2 c3 k0 k1 k2 k3 f0 f1 f2 f3;have hsq:=hbq.size;have hBq:Below w3.heap.size w3 wq:=hBr.trans (hbq.mono hBr.size);have hGq:=hGr.below hbq;have hbrq:wq.heap[wc.heap.size]?=some (.cells #[iv v.k,iv v.n,bz v.t,.slice sa (Bm k x v.l q).length sc] 31):=(hbq.block _ hGlt).trans hbr;clear hGr hbr;generalize cmpV k y=cc at *;generalize Bm k x v.l q=acc at *;have hWl0:wq.heap.size ≥ wc.heap.size+1:=(Array.getElem?_eq_some_iff.1 hbrq).1;obtain⟨-,⟨k0,k1,k2,k3⟩,⟨x0,x1,x2,x3⟩⟩:=hc wq hBq;obtain⟨-,-,-,i3,-⟩:=Aa hbrq;have hSkA:∀ww,Below wq.heap.size wq ww->ww.cell? ⟨wc.heap.size,3,none⟩=some (.slice sa acc.length sc)∧ww.cell? ⟨w.heap.size+1,0,none⟩=some (iv k.k)∧ww.cell? ⟨w.heap.size+1,1,none⟩=some (iv k.n)∧ww.cell? ⟨w.heap.size+1,2,none⟩=some (bz k.t)∧ww.cell? ⟨w.heap.size+1,3,none⟩=some (.slice ak k.l.length ck)∧ww.cell? ⟨w.heap.size+2,0,none⟩=some (iv x.k)∧ww.cell? ⟨w.heap.size+2,1,none⟩=some (iv x.n)∧ww.cell? ⟨w.heap.size+2,2,none⟩=some (bz x.t)∧ww.cell? ⟨w.heap.size+2,3,none⟩=some (.slice ax x.l.length cx):=by
     intro ww hb;obtain⟨f,-⟩:=Ag hb;exact⟨(f _ _ (by omega)).trans i3,(f _ _ (by omega)).trans k0,(f _ _ (by omega)).trans k1,(f _ _ (by omega)).trans k2,(f _ _ (by omega)).trans k3,(f _ _ (by omega)).trans x0,(f _ _ (by omega)).trans x1,(f _ _ (by omega)).trans x2,(f _ _ (by omega)).trans x3⟩
    have hC1A:=hCk wq.drew (hBq.trans ((Af wq 1).mono hBq.size));have hC2A:∀w6A,Below wq.heap.size wq w6A->Calls Tryz.prog 17 #[.agg #[iv x.k,iv x.n,bz x.t,.slice ax x.l.length cx]] w6A fun r w'=>D7 w6A x r w':=fun w6A hb6A=>hCx w6A (hBq.trans (hb6A.mono hBq.size))
    have hap0:(Value.slice sa acc.length sc).ownBlock≠some wc.heap.size:=by
     obtain⟨row,-,hP,-⟩:=hGq;intro e;have:wc.heap.size+1<=wc.heap.size:=hP _ e;omega
    go_wp2_with fail
    refine wpE_begin (S:=fun w'=>w'.cell? ⟨wc.heap.size,3,none⟩=some (.slice sa acc.length sc)∧w'.cell? ⟨w.heap.size+1,0,none⟩=some (iv k.k)∧w'.cell? ⟨w.heap.size+1,1,none⟩=some (iv k.n)∧w'.cell? ⟨w.heap.size+1,2,none⟩=some (bz k.t)∧w'.cell? ⟨w.heap.size+1,3,none⟩=some (.slice ak k.l.length ck)∧w'.cell? ⟨w.heap.size+2,0,none⟩=some (iv x.k)∧w'.cell? ⟨w.heap.size+2,1,none⟩=some (iv x.n)∧w'.cell? ⟨w.heap.size+2,2,none⟩=some (bz x.t)∧w'.cell? ⟨w.heap.size+2,3,none⟩=some (.slice ax x.l.length cx)) (N:=fun j=>decide (j<7)) (by kernel_rfl) ?_;have hS0A:wq.drew.cell? ⟨wc.heap.size,3,none⟩=some (.slice sa acc.length sc)∧wq.drew.cell? ⟨w.heap.size+1,0,none⟩=some (iv k.k)∧wq.drew.cell? ⟨w.heap.size+1,1,none⟩=some (iv k.n)∧wq.drew.cell? ⟨w.heap.size+1,2,none⟩=some (bz k.t)∧wq.drew.cell? ⟨w.heap.size+1,3,none⟩=some (.slice ak k.l.length ck)∧wq.drew.cell? ⟨w.heap.size+2,0,none⟩=some (iv x.k)∧wq.drew.cell? ⟨w.heap.size+2,1,none⟩=some (iv x.n)∧wq.drew.cell? ⟨w.heap.size+2,2,none⟩=some (bz x.t)∧wq.drew.cell? ⟨w.heap.size+2,3,none⟩=some (.slice ax x.l.length cx):=hSkA _ (Below.refl _ _).drew;refine Ab (some 91) [1,7,8,9] 0 (pt wc.heap.size 3) rfl rfl (by kernel_rfl) (fun _ _ _ h=>h) rfl (by intro w hS;(try dsimp only at hS);go_split_ands;go_simp) hS0A ?_
    try simp only[aP]
    refine Ab (some 92) [7,8,9] 1 (.slice sa acc.length sc) rfl rfl (by kernel_rfl) (fun _ _ _ h=>h) rfl (by intro w hS;(try dsimp only at hS);go_split_ands;go_simp) hS0A ?_
    try simp only[aP]
    refine Ab (some 93) [3,5,6,7,8,9] 2 (.agg #[iv k.k,iv k.n,bz k.t,.slice ak k.l.length ck]) rfl rfl (by kernel_rfl) (fun _ _ _ h=>h) rfl (by intro w hS;(try dsimp only at hS);go_split_ands;go_simp) hS0A ?_
    try simp only[aP]
    refine Ab (some 95) [5,6,7,8,9] 4 (.agg #[iv x.k,iv x.n,bz x.t,.slice ax x.l.length cx]) rfl rfl (by kernel_rfl) (fun _ _ _ h=>h) rfl (by intro w hS;(try dsimp only at hS);go_split_ands;go_simp) hS0A ?_
    try simp only[aP]
    refine Ac (i:=3) (by kernel_rfl) rfl rfl (fun K hK=>?_);go_simp;refine hC1A.mono ?_;rintro e w6A ⟨⟨a6A,c6A,rfl,hx6A,-⟩,hb6A⟩;replace hb6A:Below wq.heap.size wq w6A:=Ad hb6A;replace hx6A:IsW (From wq.heap.size) w6A k (.slice a6A k.l.length c6A):=hx6A;refine hK _ _ (fun _=>hSkA _ hb6A) ?_;clear hK K
    try simp only[aP]
    refine Ac (i:=5) (by kernel_rfl) rfl rfl (fun K hK=>?_);go_simp;refine (hC2A w6A hb6A).mono ?_;rintro e w7A ⟨⟨a7A,c7A,rfl,hy7A,-⟩,hb7A⟩;have hs6A:=hb6A.size;have hb67A:Below wq.heap.size wq w7A:=hb6A.trans (hb7A.mono hs6A);replace hx6A:=hx6A.below hb7A;have hs7A:=hb7A.size;refine hK _ _ (fun _=>hSkA _ hb67A) ?_;clear hK K
    try simp only[aP]
    obtain⟨waA,hWaA⟩:∃waA,w7A.alloc (.cells #[iv k.k,iv k.n,bz k.t,.slice a6A k.l.length c6A,iv x.k,iv x.n,bz x.t,.slice a7A x.l.length c7A] 31)=waA:=⟨_,rfl⟩;have hbaA:Below w7A.heap.size w7A waA:=by rw[<-hWaA];exact (Below.refl _ _).alloc (Nat.le_refl _) _
    have hblkaA:waA.heap[w7A.heap.size]?=some (.cells #[iv k.k,iv k.n,bz k.t,.slice a6A k.l.length c6A,iv x.k,iv x.n,bz x.t,.slice a7A x.l.length c7A] 31):=by rw[<-hWaA];exact Ai _ _
    have hsaA:waA.heap.size=w7A.heap.size+1:=by rw[<-hWaA];simp
    have hbWaA:Below wq.heap.size wq waA:=hb67A.trans (hbaA.mono hb67A.size);refine Ac (i:=6) (by kernel_rfl) rfl rfl (fun K hK=>?_);go_simp;refine hK _ _ (fun _=>hSkA _ hbWaA) ?_;clear hK K
    try simp only[aP]
    have hGaA:=hGq.below hbWaA;have halA:An (fun k=>(From (wc.heap.size+1)) k∧(Value.slice sa acc.length sc).ownBlock≠some k) waA [k,x] [iv k.k,iv k.n,bz k.t,.slice a6A k.l.length c6A,iv x.k,iv x.n,bz x.t,.slice a7A x.l.length c7A]:=
     An.append (l:=[k]) (row:=[iv k.k,iv k.n,bz k.t,.slice a6A k.l.length c6A]) (An.one (At.2 ⟨_,rfl,(hx6A.below hbaA).base (fun k h1 _=>by have h2:wq.heap.size<=k:=h1;exact⟨by show wc.heap.size+1<=k;omega,hGq.apart h2⟩)⟩)) (An.one (At.2 ⟨_,rfl,(hy7A.below hbaA).base (fun k h1 _=>by have h3:w6A.heap.size<=k:=h1;have h2:wq.heap.size<=k:=(by omega);exact⟨by show wc.heap.size+1<=k;omega,hGq.apart h2⟩)⟩))
    obtain⟨g8A,c8A,w8A,hr8A,hG8A,hb8A,hf8A,hs8A⟩:=hGaA.push (l2:=[k,x]) (ad:=⟨w7A.heap.size,0,none⟩) (by simp) (by simp) (World.news_of_block hblkaA) halA (by simp only[List.length_cons,List.length_nil];omega) (fun k hk=>by have h2:wq.heap.size<=k:=(by omega);exact by show wc.heap.size+1<=k;omega) 2 22;clear halA;have hn8A:acc.length + [k,x].length=acc.length+2:=rfl;rw[hn8A] at hr8A hG8A;refine Ac (i:=7) (by kernel_rfl) rfl rfl (fun K hK=>?_);refine Ay _ _ 22 rfl _ _ rfl rfl _ _ hr8A ?_;refine hK _ _ (fun h=>by cases h) ?_;clear hK K
    try simp only[aP]
    have hbr8A:w8A.heap[wc.heap.size]?=some (.cells #[iv v.k,iv v.n,bz v.t,.slice sa acc.length sc] 31):=by
     rw[hf8A _ (by omega) hap0,hbWaA.block _ (by omega)];exact hbrq
    obtain⟨m0A,m1A,m2A,m3A,n0A,n1A,n2A,n3A⟩:=Aa hbr8A;refine Ac (i:=8) (by kernel_rfl) rfl rfl (fun K hK=>?_);go_simp;refine hK _ _ (fun h=>by cases h) ?_;clear hK K
    try simp only[aP]
    refine Ac (i:=9) (by kernel_rfl) rfl rfl (fun K hK=>?_);go_simp;refine hK _ _ (fun h=>by cases h) ?_;clear hK K
    try simp only[aP]
    refine Am (by kernel_rfl) ?_;obtain⟨w9A,hW9A⟩:∃w9A,w8A.setCell ⟨wc.heap.size,3,none⟩ (sL g8A 0 (acc.length+2) c8A)=w9A:=⟨_,rfl⟩;have hblk9A:w9A.heap[wc.heap.size]?=some (.cells #[iv v.k,iv v.n,bz v.t,sL g8A 0 (acc.length+2) c8A] 31):=by rw[<-hW9A];exact E2 hbr8A _
    have hs9A:w9A.heap.size=w8A.heap.size:=by rw[<-hW9A];simp[World.setCell]
    have hBB:Below w3.heap.size w3 w9A:=by
     rw[<-hW9A];exact ((hBq.trans (hbWaA.mono hBq.size)).trans ((hb8A (wc.heap.size+1) (by omega) (fun k hk=>hk)).mono (by omega))).setCell (p:=⟨wc.heap.size,3,none⟩) (by show w3.heap.size<=wc.heap.size;omega) _
    have hGB:Gv (From (wc.heap.size+1)) w9A (sL g8A 0 (acc.length+2) c8A) (acc ++ [k,x]):=by
     rw[<-hW9A];refine Gv.since hG8A ⟨by simp[World.setCell],fun k h1 _=>Below.heap_setCell _ _ _ _ ?_⟩;show k≠wc.heap.size;have:wc.heap.size+1<=k:=h1;omega
    have hbrB:=hblk9A;rw[hW9A];clear hG8A hGaA hx6A hy7A hb6A hb7A hb8A hbaA hr8A hf8A hbWaA hb67A m0A m1A m2A m3A n0A n1A n2A n3A hW9A hblk9A hbr8A hSkA hS0A hC1A hC2A hGq hbrq hBq;simp only[Exit.then];refine ‹∀(a:Act) (w:World),_->_› _ _ ?_;have hstep:Hid (Bm k x v.l (q+1)=(acc ++ [k,x]) ++ [y,z]):=hstep0;clear hstep0;have hlacc:(acc ++ [k,x]).length=acc.length+2:=by simp
    rw[<-hlacc] at hGB hbrB ⊢;have hll2:(acc ++ [k,x]).length<=m+4:=by omega
    clear hlacc;generalize acc ++ [k,x]=acc2 at *;have hWl:w9A.heap.size ≥ wc.heap.size+1:=(Array.getElem?_eq_some_iff.1 hbrB).1;obtain⟨⟨-,-,-,j3⟩,-⟩:=hc w9A hBB;obtain⟨-,-,-,i3,-⟩:=Aa hbrB;obtain⟨y',g',o',ay2,cy2,hy',e,-,⟨p0,p1,p2,p3⟩,-,hCy⟩:=hround m w9A (by omega) hBB;simp only[Option.some.injEq,Addr.mk.injEq] at e;obtain⟨rfl,rfl,-⟩:=e;rw[hyy.out] at hy';obtain rfl:=Option.some.inj hy';obtain⟨z',g',o',az,cz,hz',e,-,⟨d0,d1,d2,d3⟩,-,hCz⟩:=hround (m+1) w9A hlt hBB;simp only[Option.some.injEq,Addr.mk.injEq] at e;obtain⟨rfl,rfl,-⟩:=e;rw[hzz.out] at hz';obtain rfl:=Option.some.inj hz';obtain⟨n,Hn⟩:∃n:Nat,Hid (m+1=n):=⟨_,rfl⟩;have hn1:IntKind.i64.wrap ((m:Int)+1)=(n:Int):=by have:=Hn.out;rw[IntKind.wrap_i64];omega
    have hn2:(m:Int)+1=(n:Int):=by have:=Hn.out;omega
    have hn3:IntKind.i64.wrap (n:Int)=(n:Int):=by have:=Hn.out;rw[IntKind.wrap_i64];omega
    have hn4:(n:Int)<(v.l.length:Int):=by have:=Hn.out;omega
    have hn5:(0:Int)<=(n:Int):=by omega
    rw[Hn.out] at d0 d1 d2 d3;have hgW:g<w9A.heap.size:=by omega
    have hSk:∀ww,Below w9A.heap.size w9A ww->ww.cell? ⟨wc.heap.size,3,none⟩=some (sL g8A 0 acc2.length c8A)∧ww.cell? ⟨w.heap.size,3,none⟩=some (sL g o v.l.length cap)∧ww.cell? ⟨g,o+m*4,none⟩=some (iv y.k)∧ww.cell? ⟨g,o+m*4+1,none⟩=some (iv y.n)∧ww.cell? ⟨g,o+m*4+2,none⟩=some (bz y.t)∧ww.cell? ⟨g,o+m*4+3,none⟩=some (.slice ay2 y.l.length cy2)∧ww.cell? ⟨g,o+n*4,none⟩=some (iv z.k)∧ww.cell? ⟨g,o+n*4+1,none⟩=some (iv z.n)∧ww.cell? ⟨g,o+n*4+2,none⟩=some (bz z.t)∧ww.cell? ⟨g,o+n*4+3,none⟩=some (.slice az z.l.length cz):=by
     intro ww hb;obtain⟨f,-⟩:=Ag hb;exact⟨(f _ _ (by omega)).trans i3,(f _ _ (by omega)).trans j3,(f _ _ hgW).trans p0,(f _ _ hgW).trans p1,(f _ _ hgW).trans p2,(f _ _ hgW).trans p3,(f _ _ hgW).trans d0,(f _ _ hgW).trans d1,(f _ _ hgW).trans d2,(f _ _ hgW).trans d3⟩
    have hC1:=hCy w9A.drew (Below.refl _ _).drew;have hap:(sL g8A 0 acc2.length c8A).ownBlock≠some wc.heap.size:=by
     obtain⟨row,-,hP,-⟩:=hGB;intro e;have:wc.heap.size+1<=wc.heap.size:=hP _ e;omega
    clear hltI hCy;go_wp2_with fail;refine wpE_begin (S:=fun w'=>w'.cell? ⟨wc.heap.size,3,none⟩=some (sL g8A 0 acc2.length c8A)∧w'.cell? ⟨w.heap.size,3,none⟩=some (sL g o v.l.length cap)∧w'.cell? ⟨g,o+m*4,none⟩=some (iv y.k)∧w'.cell? ⟨g,o+m*4+1,none⟩=some (iv y.n)∧w'.cell? ⟨g,o+m*4+2,none⟩=some (bz y.t)∧w'.cell? ⟨g,o+m*4+3,none⟩=some (.slice ay2 y.l.length cy2)∧w'.cell? ⟨g,o+n*4,none⟩=some (iv z.k)∧w'.cell? ⟨g,o+n*4+1,none⟩=some (iv z.n)∧w'.cell? ⟨g,o+n*4+2,none⟩=some (bz z.t)∧w'.cell? ⟨g,o+n*4+3,none⟩=some (.slice az z.l.length cz)) (N:=fun j=>decide (j<16)) (by kernel_rfl) ?_;have hS0:w9A.drew.cell? ⟨wc.heap.size,3,none⟩=some (sL g8A 0 acc2.length c8A)∧w9A.drew.cell? ⟨w.heap.size,3,none⟩=some (sL g o v.l.length cap)∧w9A.drew.cell? ⟨g,o+m*4,none⟩=some (iv y.k)∧w9A.drew.cell? ⟨g,o+m*4+1,none⟩=some (iv y.n)∧w9A.drew.cell? ⟨g,o+m*4+2,none⟩=some (bz y.t)∧w9A.drew.cell? ⟨g,o+m*4+3,none⟩=some (.slice ay2 y.l.length cy2)∧w9A.drew.cell? ⟨g,o+n*4,none⟩=some (iv z.k)∧w9A.drew.cell? ⟨g,o+n*4+1,none⟩=some (iv z.n)∧w9A.drew.cell? ⟨g,o+n*4+2,none⟩=some (bz z.t)∧w9A.drew.cell? ⟨g,o+n*4+3,none⟩=some (.slice az z.l.length cz):=hSk _ (Below.refl _ _).drew;refine Ab (some 100) [1,16,17,18] 0 (pt wc.heap.size 3) rfl rfl (by kernel_rfl) (fun _ _ _ h=>h) rfl (by intro w hS;(try dsimp only at hS);go_split_ands;go_simp) hS0 ?_
    try simp only[aP]
    refine Ab (some 101) [16,17,18] 1 (sL g8A 0 acc2.length c8A) rfl rfl (by kernel_rfl) (fun _ _ _ h=>h) rfl (by intro w hS;(try dsimp only at hS);go_split_ands;go_simp) hS0 ?_
    try simp only[aP]
    refine Ab (some 102) [3,5,6,7,14,15,16,17,18] 2 (pt w.heap.size 3) rfl rfl (by kernel_rfl) (fun _ _ _ h=>h) rfl (by intro w hS;(try dsimp only at hS);go_split_ands;go_simp) hS0 ?_
    try simp only[aP]
    refine Ab (some 103) [5,6,7,14,15,16,17,18] 3 (sL g o v.l.length cap) rfl rfl (by kernel_rfl) (fun _ _ _ h=>h) rfl (by intro w hS;(try dsimp only at hS);go_split_ands;go_simp) hS0 ?_
    try simp only[aP]
    refine Ab (some 104) [5,6,7,14,15,16,17,18] 4 (iv m) rfl rfl (by kernel_rfl) (fun _ _ _ h=>h) rfl (by intro w hS;(try dsimp only at hS);go_split_ands;go_simp) hS0 ?_
    try simp only[aP]
    refine Ab (some 105) [6,7,14,15,16,17,18] 5 (pt g (o+m*4)) rfl rfl (by kernel_rfl) (fun _ _ _ h=>h) rfl (by intro w hS;(try dsimp only at hS);go_split_ands;go_simp) hS0 ?_
    try simp only[aP]
    refine Ab (some 106) [7,14,15,16,17,18] 6 (.agg #[iv y.k,iv y.n,bz y.t,.slice ay2 y.l.length cy2]) rfl rfl (by kernel_rfl) (fun _ _ _ h=>h) rfl (by intro w hS;(try dsimp only at hS);go_split_ands;go_simp) hS0 ?_
    try simp only[aP]
    refine Ab (some 108) [9,12,13,14,15,16,17,18] 8 (pt w.heap.size 3) rfl rfl (by kernel_rfl) (fun _ _ _ h=>h) rfl (by intro w hS;(try dsimp only at hS);go_split_ands;go_simp) hS0 ?_
    try simp only[aP]
    refine Ab (some 109) [12,13,14,15,16,17,18] 9 (sL g o v.l.length cap) rfl rfl (by kernel_rfl) (fun _ _ _ h=>h) rfl (by intro w hS;(try dsimp only at hS);go_split_ands;go_simp) hS0 ?_
    try simp only[aP]
    refine Ab (some 110) [11,12,13,14,15,16,17,18] 10 (iv m) rfl rfl (by kernel_rfl) (fun _ _ _ h=>h) rfl (by intro w hS;(try dsimp only at hS);go_split_ands;go_simp) hS0 ?_
    try simp only[aP]
    refine Ab (some 111) [12,13,14,15,16,17,18] 11 (iv n) rfl rfl (by kernel_rfl) (fun _ _ _ h=>h) rfl (by intro w hS;(try dsimp only at hS);go_split_ands;go_simp) hS0 ?_
    try simp only[aP]
    refine Ab (some 112) [13,14,15,16,17,18] 12 (pt g (o+n*4)) rfl rfl (by kernel_rfl) (fun _ _ _ h=>h) rfl (by intro w hS;(try dsimp only at hS);go_split_ands;go_simp) hS0 ?_
    try simp only[aP]
    refine Ab (some 113) [14,15,16,17,18] 13 (.agg #[iv z.k,iv z.n,bz z.t,.slice az z.l.length cz]) rfl rfl (by kernel_rfl) (fun _ _ _ h=>h) rfl (by intro w hS;(try dsimp only at hS);go_split_ands;go_simp) hS0 ?_
    try simp only[aP]
    refine Ac (i:=7) (by kernel_rfl) rfl rfl (fun K hK=>?_);go_simp;refine hC1.mono ?_;rintro e w6 ⟨⟨a6,c6,rfl,hx6,-⟩,hb6⟩;replace hb6:Below w9A.heap.size w9A w6:=Ad hb6;replace hx6:IsW (From w9A.heap.size) w6 y (.slice a6 y.l.length c6):=hx6;refine hK _ _ (fun _=>hSk _ hb6) ?_;clear hK K
    try simp only[aP]
    refine Ac (i:=14) (by kernel_rfl) rfl rfl (fun K hK=>?_);go_simp;refine (hCz w6 hb6).mono ?_;rintro e w7 ⟨⟨a7,c7,rfl,hy7,-⟩,hb7⟩;have hs6:=hb6.size;have hb67:Below w9A.heap.size w9A w7:=hb6.trans (hb7.mono hs6);replace hx6:=hx6.below hb7;have hs7:=hb7.size;refine hK _ _ (fun _=>hSk _ hb67) ?_;clear hK K
    try simp only[aP]
    obtain⟨wa,hWa⟩:∃wa,w7.alloc (.cells #[iv y.k,iv y.n,bz y.t,.slice a6 y.l.length c6,iv z.k,iv z.n,bz z.t,.slice a7 z.l.length c7] 31)=wa:=⟨_,rfl⟩;have hba:Below w7.heap.size w7 wa:=by rw[<-hWa];exact (Below.refl _ _).alloc (Nat.le_refl _) _
    have hblka:wa.heap[w7.heap.size]?=some (.cells #[iv y.k,iv y.n,bz y.t,.slice a6 y.l.length c6,iv z.k,iv z.n,bz z.t,.slice a7 z.l.length c7] 31):=by rw[<-hWa];exact Ai _ _
    have hsa:wa.heap.size=w7.heap.size+1:=by rw[<-hWa];simp
    have hbWa:Below w9A.heap.size w9A wa:=hb67.trans (hba.mono hb67.size);refine Ac (i:=15) (by kernel_rfl) rfl rfl (fun K hK=>?_);go_simp;refine hK _ _ (fun _=>hSk _ hbWa) ?_;clear hK K
    try simp only[aP]
    have hGa:=hGB.below hbWa;have hal:An (fun k=>(From (wc.heap.size+1)) k∧(sL g8A 0 acc2.length c8A).ownBlock≠some k) wa [y,z] [iv y.k,iv y.n,bz y.t,.slice a6 y.l.length c6,iv z.k,iv z.n,bz z.t,.slice a7 z.l.length c7]:=
     An.append (l:=[y]) (row:=[iv y.k,iv y.n,bz y.t,.slice a6 y.l.length c6]) (An.one (At.2 ⟨_,rfl,(hx6.below hba).base (fun k h1 _=>by have h2:w9A.heap.size<=k:=h1;exact⟨by show wc.heap.size+1<=k;omega,hGB.apart h2⟩)⟩)) (An.one (At.2 ⟨_,rfl,(hy7.below hba).base (fun k h1 _=>by have h3:w6.heap.size<=k:=h1;have h2:w9A.heap.size<=k:=(by omega);exact⟨by show wc.heap.size+1<=k;omega,hGB.apart h2⟩)⟩))
    obtain⟨g8,c8,w8,hr8,hG8,hb8,hf8,hs8⟩:=hGa.push (l2:=[y,z]) (ad:=⟨w7.heap.size,0,none⟩) (by simp) (by simp) (World.news_of_block hblka) hal (by simp only[List.length_cons,List.length_nil,List.length_append];omega) (fun k hk=>by have h2:w9A.heap.size<=k:=(by omega);exact by show wc.heap.size+1<=k;omega) 2 22;clear hal;have hn8:acc2.length + [y,z].length=acc2.length+2:=rfl;rw[hn8] at hr8 hG8;refine Ac (i:=16) (by kernel_rfl) rfl rfl (fun K hK=>?_);refine Ay _ _ 22 rfl _ _ rfl rfl _ _ hr8 ?_;refine hK _ _ (fun h=>by cases h) ?_;clear hK K
    try simp only[aP]
    have hbr8:w8.heap[wc.heap.size]?=some (.cells #[iv v.k,iv v.n,bz v.t,sL g8A 0 acc2.length c8A] 31):=by
     rw[hf8 _ (by omega) hap,hbWa.block _ (by omega)];exact hbrB
    obtain⟨m0,m1,m2,m3,n0,n1,n2,n3⟩:=Aa hbr8;refine Ac (i:=17) (by kernel_rfl) rfl rfl (fun K hK=>?_);go_simp;refine hK _ _ (fun h=>by cases h) ?_;clear hK K
    try simp only[aP]
    refine Ac (i:=18) (by kernel_rfl) rfl rfl (fun K hK=>?_);go_simp;refine hK _ _ (fun h=>by cases h) ?_;clear hK K
    try simp only[aP]
    refine Am (by kernel_rfl) ?_;obtain⟨w9,hW9⟩:∃w9,w8.setCell ⟨wc.heap.size,3,none⟩ (sL g8 0 (acc2.length+2) c8)=w9:=⟨_,rfl⟩;have hblk9:w9.heap[wc.heap.size]?=some (.cells #[iv v.k,iv v.n,bz v.t,sL g8 0 (acc2.length+2) c8] 31):=by rw[<-hW9];exact E2 hbr8 _
    have hs9:w9.heap.size=w8.heap.size:=by rw[<-hW9];simp[World.setCell]
    have hnew:Hid (Below w3.heap.size w3 w9∧w9.heap[wc.heap.size]?=some (.cells #[iv v.k,iv v.n,bz v.t,.slice (some ⟨g8,0,none⟩) (Bm k x v.l (q+1)).length c8] 31)∧Gv (From (wc.heap.size+1)) w9 (.slice (some ⟨g8,0,none⟩) (Bm k x v.l (q+1)).length c8) (Bm k x v.l (q+1))):=by
     have h1:=hstep.out;have h2:(acc2 ++ [y,z]).length=(acc2).length+2:=by simp
     rw[h1,h2];refine⟨?_,hblk9,?_⟩
     ·rw[<-hW9];exact ((hBB.trans (hbWa.mono hBB.size)).trans ((hb8 (wc.heap.size+1) (by omega) (fun k hk=>hk)).mono (by omega))).setCell (p:=⟨wc.heap.size,3,none⟩) (by show w3.heap.size<=wc.heap.size;omega) _
     ·rw[<-hW9];refine Gv.since hG8 ⟨by simp[World.setCell],fun k h1 _=>Below.heap_setCell _ _ _ _ ?_⟩;show k≠wc.heap.size;have:wc.heap.size+1<=k:=h1;omega
    rw[hW9];clear hG8 hGa hx6 hy7 hb6 hb7 hb8 hba hr8 hf8 hbWa hb67 m0 m1 m2 m3 n0 n1 n2 n3 hW9 hblk9 hbr8 hSk hS0 hC1 hCz hstep hGB hround hc hr;simp only[Exit.inBlock,Exit.then];refine ‹∀(a:Act) (w:World),_->_› _ _ ?_;go_wp2_with fail;go_roundg (v.l.length - (m+2))
    case measure=>omega
    case rel=>exact⟨q+1,m+2,some ⟨g8,0,none⟩,c8,Hm2,by omega,rfl,hlaid.out,by go_num,hnew⟩
   ·have hd:decide (kat k v.l<q)=true:=by simp;omega
    have hstep:Hid (Bm k x v.l (q+1)=Bm k x v.l q ++ [y,z]):=L3 hy2.out hz2.out hqk;have hlaid:Hid (Value.bool true=.bool (decide (kat k v.l<q+1))):=by show _=_;congr 1;symm;simp;omega
    rw[hd];clear hd hqk;go_wp2_with fail
    go_quiet (fail)
    obtain⟨wq,hwq⟩:∃wq,wr.drewN nq=wq:=⟨_,rfl⟩;have hbq:Below wr.heap.size wr wq:=by rw[<-hwq];exact Af _ _
    rw[hwq];clear hwq hCmp c0 c1 c2 c3 k0 k1 k2 k3 f0 f1 f2 f3;have hsq:=hbq.size;have hBq:Below w3.heap.size w3 wq:=hBr.trans (hbq.mono hBr.size);have hGq:=hGr.below hbq;have hbrq:wq.heap[wc.heap.size]?=some (.cells #[iv v.k,iv v.n,bz v.t,.slice sa (Bm k x v.l q).length sc] 31):=(hbq.block _ hGlt).trans hbr;clear hGr hbr;generalize Bm k x v.l q=acc at *;have hWl:wq.heap.size ≥ wc.heap.size+1:=(Array.getElem?_eq_some_iff.1 hbrq).1;obtain⟨⟨-,-,-,j3⟩,-⟩:=hc wq hBq;obtain⟨-,-,-,i3,-⟩:=Aa hbrq;obtain⟨y',g',o',ay2,cy2,hy',e,-,⟨p0,p1,p2,p3⟩,-,hCy⟩:=hround m wq (by omega) hBq;simp only[Option.some.injEq,Addr.mk.injEq] at e;obtain⟨rfl,rfl,-⟩:=e;rw[hyy.out] at hy';obtain rfl:=Option.some.inj hy';obtain⟨z',g',o',az,cz,hz',e,-,⟨d0,d1,d2,d3⟩,-,hCz⟩:=hround (m+1) wq hlt hBq;simp only[Option.some.injEq,Addr.mk.injEq] at e;obtain⟨rfl,rfl,-⟩:=e;rw[hzz.out] at hz';obtain rfl:=Option.some.inj hz';obtain⟨n,Hn⟩:∃n:Nat,Hid (m+1=n):=⟨_,rfl⟩;have hn1:IntKind.i64.wrap ((m:Int)+1)=(n:Int):=by have:=Hn.out;rw[IntKind.wrap_i64];omega
    have hn2:(m:Int)+1=(n:Int):=by have:=Hn.out;omega
    have hn3:IntKind.i64.wrap (n:Int)=(n:Int):=by have:=Hn.out;rw[IntKind.wrap_i64];omega
    have hn4:(n:Int)<(v.l.length:Int):=by have:=Hn.out;omega
    have hn5:(0:Int)<=(n:Int):=by omega
    rw[Hn.out] at d0 d1 d2 d3;have hgW:g<wq.heap.size:=by omega
    have hSk:∀ww,Below wq.heap.size wq ww->ww.cell? ⟨wc.heap.size,3,none⟩=some (.slice sa acc.length sc)∧ww.cell? ⟨w.heap.size,3,none⟩=some (sL g o v.l.length cap)∧ww.cell? ⟨g,o+m*4,none⟩=some (iv y.k)∧ww.cell? ⟨g,o+m*4+1,none⟩=some (iv y.n)∧ww.cell? ⟨g,o+m*4+2,none⟩=some (bz y.t)∧ww.cell? ⟨g,o+m*4+3,none⟩=some (.slice ay2 y.l.length cy2)∧ww.cell? ⟨g,o+n*4,none⟩=some (iv z.k)∧ww.cell? ⟨g,o+n*4+1,none⟩=some (iv z.n)∧ww.cell? ⟨g,o+n*4+2,none⟩=some (bz z.t)∧ww.cell? ⟨g,o+n*4+3,none⟩=some (.slice az z.l.length cz):=by
     intro ww hb;obtain⟨f,-⟩:=Ag hb;exact⟨(f _ _ (by omega)).trans i3,(f _ _ (by omega)).trans j3,(f _ _ hgW).trans p0,(f _ _ hgW).trans p1,(f _ _ hgW).trans p2,(f _ _ hgW).trans p3,(f _ _ hgW).trans d0,(f _ _ hgW).trans d1,(f _ _ hgW).trans d2,(f _ _ hgW).trans d3⟩
    have hC1:=hCy wq.drew (Below.refl _ _).drew;have hap:(Value.slice sa acc.length sc).ownBlock≠some wc.heap.size:=by
     obtain⟨row,-,hP,-⟩:=hGq;intro e;have:wc.heap.size+1<=wc.heap.size:=hP _ e;omega
    clear hltI hCy;go_wp2_with fail;refine wpE_begin (S:=fun w'=>w'.cell? ⟨wc.heap.size,3,none⟩=some (.slice sa acc.length sc)∧w'.cell? ⟨w.heap.size,3,none⟩=some (sL g o v.l.length cap)∧w'.cell? ⟨g,o+m*4,none⟩=some (iv y.k)∧w'.cell? ⟨g,o+m*4+1,none⟩=some (iv y.n)∧w'.cell? ⟨g,o+m*4+2,none⟩=some (bz y.t)∧w'.cell? ⟨g,o+m*4+3,none⟩=some (.slice ay2 y.l.length cy2)∧w'.cell? ⟨g,o+n*4,none⟩=some (iv z.k)∧w'.cell? ⟨g,o+n*4+1,none⟩=some (iv z.n)∧w'.cell? ⟨g,o+n*4+2,none⟩=some (bz z.t)∧w'.cell? ⟨g,o+n*4+3,none⟩=some (.slice az z.l.length cz)) (N:=fun j=>decide (j<16)) (by kernel_rfl) ?_;have hS0:wq.drew.cell? ⟨wc.heap.size,3,none⟩=some (.slice sa acc.length sc)∧wq.drew.cell? ⟨w.heap.size,3,none⟩=some (sL g o v.l.length cap)∧wq.drew.cell? ⟨g,o+m*4,none⟩=some (iv y.k)∧wq.drew.cell? ⟨g,o+m*4+1,none⟩=some (iv y.n)∧wq.drew.cell? ⟨g,o+m*4+2,none⟩=some (bz y.t)∧wq.drew.cell? ⟨g,o+m*4+3,none⟩=some (.slice ay2 y.l.length cy2)∧wq.drew.cell? ⟨g,o+n*4,none⟩=some (iv z.k)∧wq.drew.cell? ⟨g,o+n*4+1,none⟩=some (iv z.n)∧wq.drew.cell? ⟨g,o+n*4+2,none⟩=some (bz z.t)∧wq.drew.cell? ⟨g,o+n*4+3,none⟩=some (.slice az z.l.length cz):=hSk _ (Below.refl _ _).drew;refine Ab (some 100) [1,16,17,18] 0 (pt wc.heap.size 3) rfl rfl (by kernel_rfl) (fun _ _ _ h=>h) rfl (by intro w hS;(try dsimp only at hS);go_split_ands;go_simp) hS0 ?_
    try simp only[aP]
    refine Ab (some 101) [16,17,18] 1 (.slice sa acc.length sc) rfl rfl (by kernel_rfl) (fun _ _ _ h=>h) rfl (by intro w hS;(try dsimp only at hS);go_split_ands;go_simp) hS0 ?_
    try simp only[aP]
    refine Ab (some 102) [3,5,6,7,14,15,16,17,18] 2 (pt w.heap.size 3) rfl rfl (by kernel_rfl) (fun _ _ _ h=>h) rfl (by intro w hS;(try dsimp only at hS);go_split_ands;go_simp) hS0 ?_
    try simp only[aP]
    refine Ab (some 103) [5,6,7,14,15,16,17,18] 3 (sL g o v.l.length cap) rfl rfl (by kernel_rfl) (fun _ _ _ h=>h) rfl (by intro w hS;(try dsimp only at hS);go_split_ands;go_simp) hS0 ?_
    try simp only[aP]
    refine Ab (some 104) [5,6,7,14,15,16,17,18] 4 (iv m) rfl rfl (by kernel_rfl) (fun _ _ _ h=>h) rfl (by intro w hS;(try dsimp only at hS);go_split_ands;go_simp) hS0 ?_
    try simp only[aP]
    refine Ab (some 105) [6,7,14,15,16,17,18] 5 (pt g (o+m*4)) rfl rfl (by kernel_rfl) (fun _ _ _ h=>h) rfl (by intro w hS;(try dsimp only at hS);go_split_ands;go_simp) hS0 ?_
    try simp only[aP]
    refine Ab (some 106) [7,14,15,16,17,18] 6 (.agg #[iv y.k,iv y.n,bz y.t,.slice ay2 y.l.length cy2]) rfl rfl (by kernel_rfl) (fun _ _ _ h=>h) rfl (by intro w hS;(try dsimp only at hS);go_split_ands;go_simp) hS0 ?_
    try simp only[aP]
    refine Ab (some 108) [9,12,13,14,15,16,17,18] 8 (pt w.heap.size 3) rfl rfl (by kernel_rfl) (fun _ _ _ h=>h) rfl (by intro w hS;(try dsimp only at hS);go_split_ands;go_simp) hS0 ?_
    try simp only[aP]
    refine Ab (some 109) [12,13,14,15,16,17,18] 9 (sL g o v.l.length cap) rfl rfl (by kernel_rfl) (fun _ _ _ h=>h) rfl (by intro w hS;(try dsimp only at hS);go_split_ands;go_simp) hS0 ?_
    try simp only[aP]
    refine Ab (some 110) [11,12,13,14,15,16,17,18] 10 (iv m) rfl rfl (by kernel_rfl) (fun _ _ _ h=>h) rfl (by intro w hS;(try dsimp only at hS);go_split_ands;go_simp) hS0 ?_
    try simp only[aP]
    refine Ab (some 111) [12,13,14,15,16,17,18] 11 (iv n) rfl rfl (by kernel_rfl) (fun _ _ _ h=>h) rfl (by intro w hS;(try dsimp only at hS);go_split_ands;go_simp) hS0 ?_
    try simp only[aP]
    refine Ab (some 112) [13,14,15,16,17,18] 12 (pt g (o+n*4)) rfl rfl (by kernel_rfl) (fun _ _ _ h=>h) rfl (by intro w hS;(try dsimp only at hS);go_split_ands;go_simp) hS0 ?_
    try simp only[aP]
    refine Ab (some 113) [14,15,16,17,18] 13 (.agg #[iv z.k,iv z.n,bz z.t,.slice az z.l.length cz]) rfl rfl (by kernel_rfl) (fun _ _ _ h=>h) rfl (by intro w hS;(try dsimp only at hS);go_split_ands;go_simp) hS0 ?_
    try simp only[aP]
    refine Ac (i:=7) (by kernel_rfl) rfl rfl (fun K hK=>?_);go_simp;refine hC1.mono ?_;rintro e w6 ⟨⟨a6,c6,rfl,hx6,-⟩,hb6⟩;replace hb6:Below wq.heap.size wq w6:=Ad hb6;replace hx6:IsW (From wq.heap.size) w6 y (.slice a6 y.l.length c6):=hx6;refine hK _ _ (fun _=>hSk _ hb6) ?_;clear hK K
    try simp only[aP]
    refine Ac (i:=14) (by kernel_rfl) rfl rfl (fun K hK=>?_);go_simp;refine (hCz w6 hb6).mono ?_;rintro e w7 ⟨⟨a7,c7,rfl,hy7,-⟩,hb7⟩;have hs6:=hb6.size;have hb67:Below wq.heap.size wq w7:=hb6.trans (hb7.mono hs6);replace hx6:=hx6.below hb7;have hs7:=hb7.size;refine hK _ _ (fun _=>hSk _ hb67) ?_;clear hK K
    try simp only[aP]
    obtain⟨wa,hWa⟩:∃wa,w7.alloc (.cells #[iv y.k,iv y.n,bz y.t,.slice a6 y.l.length c6,iv z.k,iv z.n,bz z.t,.slice a7 z.l.length c7] 31)=wa:=⟨_,rfl⟩;have hba:Below w7.heap.size w7 wa:=by rw[<-hWa];exact (Below.refl _ _).alloc (Nat.le_refl _) _
    have hblka:wa.heap[w7.heap.size]?=some (.cells #[iv y.k,iv y.n,bz y.t,.slice a6 y.l.length c6,iv z.k,iv z.n,bz z.t,.slice a7 z.l.length c7] 31):=by rw[<-hWa];exact Ai _ _
    have hsa:wa.heap.size=w7.heap.size+1:=by rw[<-hWa];simp
    have hbWa:Below wq.heap.size wq wa:=hb67.trans (hba.mono hb67.size);refine Ac (i:=15) (by kernel_rfl) rfl rfl (fun K hK=>?_);go_simp;refine hK _ _ (fun _=>hSk _ hbWa) ?_;clear hK K
    try simp only[aP]
    have hGa:=hGq.below hbWa;have hal:An (fun k=>(From (wc.heap.size+1)) k∧(Value.slice sa acc.length sc).ownBlock≠some k) wa [y,z] [iv y.k,iv y.n,bz y.t,.slice a6 y.l.length c6,iv z.k,iv z.n,bz z.t,.slice a7 z.l.length c7]:=
     An.append (l:=[y]) (row:=[iv y.k,iv y.n,bz y.t,.slice a6 y.l.length c6]) (An.one (At.2 ⟨_,rfl,(hx6.below hba).base (fun k h1 _=>by have h2:wq.heap.size<=k:=h1;exact⟨by show wc.heap.size+1<=k;omega,hGq.apart h2⟩)⟩)) (An.one (At.2 ⟨_,rfl,(hy7.below hba).base (fun k h1 _=>by have h3:w6.heap.size<=k:=h1;have h2:wq.heap.size<=k:=(by omega);exact⟨by show wc.heap.size+1<=k;omega,hGq.apart h2⟩)⟩))
    obtain⟨g8,c8,w8,hr8,hG8,hb8,hf8,hs8⟩:=hGa.push (l2:=[y,z]) (ad:=⟨w7.heap.size,0,none⟩) (by simp) (by simp) (World.news_of_block hblka) hal (by simp only[List.length_cons,List.length_nil,List.length_append];omega) (fun k hk=>by have h2:wq.heap.size<=k:=(by omega);exact by show wc.heap.size+1<=k;omega) 2 22;clear hal;have hn8:acc.length + [y,z].length=acc.length+2:=rfl;rw[hn8] at hr8 hG8;refine Ac (i:=16) (by kernel_rfl) rfl rfl (fun K hK=>?_);refine Ay _ _ 22 rfl _ _ rfl rfl _ _ hr8 ?_;refine hK _ _ (fun h=>by cases h) ?_;clear hK K
    try simp only[aP]
    have hbr8:w8.heap[wc.heap.size]?=some (.cells #[iv v.k,iv v.n,bz v.t,.slice sa acc.length sc] 31):=by
     rw[hf8 _ (by omega) hap,hbWa.block _ (by omega)];exact hbrq
    obtain⟨m0,m1,m2,m3,n0,n1,n2,n3⟩:=Aa hbr8;refine Ac (i:=17) (by kernel_rfl) rfl rfl (fun K hK=>?_);go_simp;refine hK _ _ (fun h=>by cases h) ?_;clear hK K
    try simp only[aP]
    refine Ac (i:=18) (by kernel_rfl) rfl rfl (fun K hK=>?_);go_simp;refine hK _ _ (fun h=>by cases h) ?_;clear hK K
    try simp only[aP]
    refine Am (by kernel_rfl) ?_;obtain⟨w9,hW9⟩:∃w9,w8.setCell ⟨wc.heap.size,3,none⟩ (sL g8 0 (acc.length+2) c8)=w9:=⟨_,rfl⟩;have hblk9:w9.heap[wc.heap.size]?=some (.cells #[iv v.k,iv v.n,bz v.t,sL g8 0 (acc.length+2) c8] 31):=by rw[<-hW9];exact E2 hbr8 _
    have hs9:w9.heap.size=w8.heap.size:=by rw[<-hW9];simp[World.setCell]
    have hnew:Hid (Below w3.heap.size w3 w9∧w9.heap[wc.heap.size]?=some (.cells #[iv v.k,iv v.n,bz v.t,.slice (some ⟨g8,0,none⟩) (Bm k x v.l (q+1)).length c8] 31)∧Gv (From (wc.heap.size+1)) w9 (.slice (some ⟨g8,0,none⟩) (Bm k x v.l (q+1)).length c8) (Bm k x v.l (q+1))):=by
     have h1:=hstep.out;have h2:(acc ++ [y,z]).length=(acc).length+2:=by simp
     rw[h1,h2];refine⟨?_,hblk9,?_⟩
     ·rw[<-hW9];exact ((hBq.trans (hbWa.mono hBq.size)).trans ((hb8 (wc.heap.size+1) (by omega) (fun k hk=>hk)).mono (by omega))).setCell (p:=⟨wc.heap.size,3,none⟩) (by show w3.heap.size<=wc.heap.size;omega) _
     ·rw[<-hW9];refine Gv.since hG8 ⟨by simp[World.setCell],fun k h1 _=>Below.heap_setCell _ _ _ _ ?_⟩;show k≠wc.heap.size;have:wc.heap.size+1<=k:=h1;omega
    rw[hW9];clear hG8 hGa hx6 hy7 hb6 hb7 hb8 hba hr8 hf8 hbWa hb67 m0 m1 m2 m3 n0 n1 n2 n3 hW9 hblk9 hbr8 hSk hS0 hC1 hCz hstep hGq hround hc hr;simp only[Exit.inBlock,Exit.then];refine ‹∀(a:Act) (w:World),_->_› _ _ ?_;go_wp2_with fail;go_roundg (v.l.length - (m+2))
    case measure=>omega
    case rel=>exact⟨q+1,m+2,some ⟨g8,0,none⟩,c8,Hm2,by omega,rfl,hlaid.out,by go_num,hnew⟩
  ·have hltI:¬(m:Int)+1<(v.l.length:Int):=by omega
   obtain⟨⟨f0,f1,f2,f3⟩,-,-⟩:=hc wr hBr;have hend0:=S3 (k:=k) (x:=x) (l:=v.l) (q:=q) (by have:=Hm.out;omega);by_cases hqk:kat k v.l<q
   ·have hd:decide (kat k v.l<q)=true:=by simp[hqk]
    rw[if_pos hqk] at hend0;have hend:Hid (spl v.l (2*kat k v.l) (2*kat k v.l) [k,x]=Bm k x v.l q):=hend0;rw[hd];clear hd hqk hend0;generalize Bm k x v.l q=acc at *;have hlu:u.l.length=acc.length:=by rw[huk.out.2.2.2,hend.out]
    have hu8:IsW (From (wc.heap.size+1)) wr u (.slice sa u.l.length sc):=by
     obtain⟨q1,q2,q3,q4⟩:=huk.out;refine⟨by rw[q3];exact hvr.out.1,by rw[q1];exact hvr.out.2.1,by rw[q2];exact hvr.out.2.2,?_⟩;rw[hlu,q4,hend.out];exact hGr.vs
    have hL:=Dt hu8 huw;rw[huk.out.1,huk.out.2.1,huk.out.2.2.1,hlu,<-hfin.out] at hL;obtain⟨o,HO⟩:∃o,Hid (putV v k x=o):=⟨_,rfl⟩;rw[HO.out] at hL;obtain⟨i0,i1,i2,i3,-⟩:=Aa hbr;have hq1:¬Lob (From (wc.heap.size+1)) wr.heap.size (w.heap.size+3):=fun h=>by have:wc.heap.size+1<=w.heap.size+3:=h.1;omega
    have hq2:∀k,Lob (From (wc.heap.size+1)) wr.heap.size k->w.heap.size<=k:=fun k h=>by have:wc.heap.size+1<=k:=h.1;omega
    clear hGr hu8 huk hround hfin hCk hCx;clear hc;go_wp2_with fail;refine hL.mono ?_;rintro e wl ⟨⟨al,cl,rfl,hl9⟩,hbl⟩;clear hL;have hb3l:Below w3.heap.size w3 wl:=hBr.trans (hbl.mono hBr.size);obtain⟨r0,r1,r2,r3,s0,s1,s2,s3,hz⟩:=hr wl hb3l;have hres:=Br.kept hl9 (hB3.trans (hb3l.mono hB3.size)) (g:=w.heap.size+3) (by omega) hq1 hq2;clear hr hl9;go_wp2_with fail;exact bodyPost_ret (v:=.tuple #[.agg #[iv o.1.k,iv o.1.n,.string ⟨o.1.t.toArray⟩,.slice al o.1.l.length cl],iv o.2]) (by simp[results,Tryz.results112,go_sem,hz,r0,r1,r2,r3]) rfl (by rw[HO.out];exact hres)
   ·have hd:decide (kat k v.l<q)=false:=by simp;omega
    rw[if_neg hqk] at hend0;have hend1:Hid (spl v.l (2*kat k v.l) (2*kat k v.l) [k,x]=Bm k x v.l q ++ [k,x]):=hend0;rw[hd];clear hd hqk hend0;generalize Bm k x v.l q=acc at *;have hWl0:wr.heap.size ≥ wc.heap.size+1:=(Array.getElem?_eq_some_iff.1 hbr).1;obtain⟨-,⟨k0,k1,k2,k3⟩,⟨x0,x1,x2,x3⟩⟩:=hc wr hBr;obtain⟨-,-,-,i3,-⟩:=Aa hbr;have hSkA:∀ww,Below wr.heap.size wr ww->ww.cell? ⟨wc.heap.size,3,none⟩=some (.slice sa acc.length sc)∧ww.cell? ⟨w.heap.size+1,0,none⟩=some (iv k.k)∧ww.cell? ⟨w.heap.size+1,1,none⟩=some (iv k.n)∧ww.cell? ⟨w.heap.size+1,2,none⟩=some (bz k.t)∧ww.cell? ⟨w.heap.size+1,3,none⟩=some (.slice ak k.l.length ck)∧ww.cell? ⟨w.heap.size+2,0,none⟩=some (iv x.k)∧ww.cell? ⟨w.heap.size+2,1,none⟩=some (iv x.n)∧ww.cell? ⟨w.heap.size+2,2,none⟩=some (bz x.t)∧ww.cell? ⟨w.heap.size+2,3,none⟩=some (.slice ax x.l.length cx):=by
     intro ww hb;obtain⟨f,-⟩:=Ag hb;exact⟨(f _ _ (by omega)).trans i3,(f _ _ (by omega)).trans k0,(f _ _ (by omega)).trans k1,(f _ _ (by omega)).trans k2,(f _ _ (by omega)).trans k3,(f _ _ (by omega)).trans x0,(f _ _ (by omega)).trans x1,(f _ _ (by omega)).trans x2,(f _ _ (by omega)).trans x3⟩
    have hC1A:=hCk wr.drew (hBr.trans ((Af wr 1).mono hBr.size));have hC2A:∀w6A,Below wr.heap.size wr w6A->Calls Tryz.prog 17 #[.agg #[iv x.k,iv x.n,bz x.t,.slice ax x.l.length cx]] w6A fun r w'=>D7 w6A x r w':=fun w6A hb6A=>hCx w6A (hBr.trans (hb6A.mono hBr.size))
    have hap0:(Value.slice sa acc.length sc).ownBlock≠some wc.heap.size:=by
     obtain⟨row,-,hP,-⟩:=hGr;intro e;have:wc.heap.size+1<=wc.heap.size:=hP _ e;omega
    go_wp2_with fail
    refine wpE_begin (S:=fun w'=>w'.cell? ⟨wc.heap.size,3,none⟩=some (.slice sa acc.length sc)∧w'.cell? ⟨w.heap.size+1,0,none⟩=some (iv k.k)∧w'.cell? ⟨w.heap.size+1,1,none⟩=some (iv k.n)∧w'.cell? ⟨w.heap.size+1,2,none⟩=some (bz k.t)∧w'.cell? ⟨w.heap.size+1,3,none⟩=some (.slice ak k.l.length ck)∧w'.cell? ⟨w.heap.size+2,0,none⟩=some (iv x.k)∧w'.cell? ⟨w.heap.size+2,1,none⟩=some (iv x.n)∧w'.cell? ⟨w.heap.size+2,2,none⟩=some (bz x.t)∧w'.cell? ⟨w.heap.size+2,3,none⟩=some (.slice ax x.l.length cx)) (N:=fun j=>decide (j<7)) (by kernel_rfl) ?_;have hS0A:wr.drew.cell? ⟨wc.heap.size,3,none⟩=some (.slice sa acc.length sc)∧wr.drew.cell? ⟨w.heap.size+1,0,none⟩=some (iv k.k)∧wr.drew.cell? ⟨w.heap.size+1,1,none⟩=some (iv k.n)∧wr.drew.cell? ⟨w.heap.size+1,2,none⟩=some (bz k.t)∧wr.drew.cell? ⟨w.heap.size+1,3,none⟩=some (.slice ak k.l.length ck)∧wr.drew.cell? ⟨w.heap.size+2,0,none⟩=some (iv x.k)∧wr.drew.cell? ⟨w.heap.size+2,1,none⟩=some (iv x.n)∧wr.drew.cell? ⟨w.heap.size+2,2,none⟩=some (bz x.t)∧wr.drew.cell? ⟨w.heap.size+2,3,none⟩=some (.slice ax x.l.length cx):=hSkA _ (Below.refl _ _).drew;refine Ab (some 120) [1,7,8,9] 0 (pt wc.heap.size 3) rfl rfl (by kernel_rfl) (fun _ _ _ h=>h) rfl (by intro w hS;(try dsimp only at hS);go_split_ands;go_simp) hS0A ?_
    try simp only[aP]
    refine Ab (some 121) [7,8,9] 1 (.slice sa acc.length sc) rfl rfl (by kernel_rfl) (fun _ _ _ h=>h) rfl (by intro w hS;(try dsimp only at hS);go_split_ands;go_simp) hS0A ?_
    try simp only[aP]
    refine Ab (some 122) [3,5,6,7,8,9] 2 (.agg #[iv k.k,iv k.n,bz k.t,.slice ak k.l.length ck]) rfl rfl (by kernel_rfl) (fun _ _ _ h=>h) rfl (by intro w hS;(try dsimp only at hS);go_split_ands;go_simp) hS0A ?_
    try simp only[aP]
    refine Ab (some 124) [5,6,7,8,9] 4 (.agg #[iv x.k,iv x.n,bz x.t,.slice ax x.l.length cx]) rfl rfl (by kernel_rfl) (fun _ _ _ h=>h) rfl (by intro w hS;(try dsimp only at hS);go_split_ands;go_simp) hS0A ?_
    try simp only[aP]
    refine Ac (i:=3) (by kernel_rfl) rfl rfl (fun K hK=>?_);go_simp;refine hC1A.mono ?_;rintro e w6A ⟨⟨a6A,c6A,rfl,hx6A,-⟩,hb6A⟩;replace hb6A:Below wr.heap.size wr w6A:=Ad hb6A;replace hx6A:IsW (From wr.heap.size) w6A k (.slice a6A k.l.length c6A):=hx6A;refine hK _ _ (fun _=>hSkA _ hb6A) ?_;clear hK K
    try simp only[aP]
    refine Ac (i:=5) (by kernel_rfl) rfl rfl (fun K hK=>?_);go_simp;refine (hC2A w6A hb6A).mono ?_;rintro e w7A ⟨⟨a7A,c7A,rfl,hy7A,-⟩,hb7A⟩;have hs6A:=hb6A.size;have hb67A:Below wr.heap.size wr w7A:=hb6A.trans (hb7A.mono hs6A);replace hx6A:=hx6A.below hb7A;have hs7A:=hb7A.size;refine hK _ _ (fun _=>hSkA _ hb67A) ?_;clear hK K
    try simp only[aP]
    obtain⟨waA,hWaA⟩:∃waA,w7A.alloc (.cells #[iv k.k,iv k.n,bz k.t,.slice a6A k.l.length c6A,iv x.k,iv x.n,bz x.t,.slice a7A x.l.length c7A] 31)=waA:=⟨_,rfl⟩;have hbaA:Below w7A.heap.size w7A waA:=by rw[<-hWaA];exact (Below.refl _ _).alloc (Nat.le_refl _) _
    have hblkaA:waA.heap[w7A.heap.size]?=some (.cells #[iv k.k,iv k.n,bz k.t,.slice a6A k.l.length c6A,iv x.k,iv x.n,bz x.t,.slice a7A x.l.length c7A] 31):=by rw[<-hWaA];exact Ai _ _
    have hsaA:waA.heap.size=w7A.heap.size+1:=by rw[<-hWaA];simp
    have hbWaA:Below wr.heap.size wr waA:=hb67A.trans (hbaA.mono hb67A.size);refine Ac (i:=6) (by kernel_rfl) rfl rfl (fun K hK=>?_);go_simp;refine hK _ _ (fun _=>hSkA _ hbWaA) ?_;clear hK K
    try simp only[aP]
    have hGaA:=hGr.below hbWaA;have halA:An (fun k=>(From (wc.heap.size+1)) k∧(Value.slice sa acc.length sc).ownBlock≠some k) waA [k,x] [iv k.k,iv k.n,bz k.t,.slice a6A k.l.length c6A,iv x.k,iv x.n,bz x.t,.slice a7A x.l.length c7A]:=
     An.append (l:=[k]) (row:=[iv k.k,iv k.n,bz k.t,.slice a6A k.l.length c6A]) (An.one (At.2 ⟨_,rfl,(hx6A.below hbaA).base (fun k h1 _=>by have h2:wr.heap.size<=k:=h1;exact⟨by show wc.heap.size+1<=k;omega,hGr.apart h2⟩)⟩)) (An.one (At.2 ⟨_,rfl,(hy7A.below hbaA).base (fun k h1 _=>by have h3:w6A.heap.size<=k:=h1;have h2:wr.heap.size<=k:=(by omega);exact⟨by show wc.heap.size+1<=k;omega,hGr.apart h2⟩)⟩))
    obtain⟨g8A,c8A,w8A,hr8A,hG8A,hb8A,hf8A,hs8A⟩:=hGaA.push (l2:=[k,x]) (ad:=⟨w7A.heap.size,0,none⟩) (by simp) (by simp) (World.news_of_block hblkaA) halA (by simp only[List.length_cons,List.length_nil];omega) (fun k hk=>by have h2:wr.heap.size<=k:=(by omega);exact by show wc.heap.size+1<=k;omega) 2 22;clear halA;have hn8A:acc.length + [k,x].length=acc.length+2:=rfl;rw[hn8A] at hr8A hG8A;refine Ac (i:=7) (by kernel_rfl) rfl rfl (fun K hK=>?_);refine Ay _ _ 22 rfl _ _ rfl rfl _ _ hr8A ?_;refine hK _ _ (fun h=>by cases h) ?_;clear hK K
    try simp only[aP]
    have hbr8A:w8A.heap[wc.heap.size]?=some (.cells #[iv v.k,iv v.n,bz v.t,.slice sa acc.length sc] 31):=by
     rw[hf8A _ (by omega) hap0,hbWaA.block _ (by omega)];exact hbr
    obtain⟨m0A,m1A,m2A,m3A,n0A,n1A,n2A,n3A⟩:=Aa hbr8A;refine Ac (i:=8) (by kernel_rfl) rfl rfl (fun K hK=>?_);go_simp;refine hK _ _ (fun h=>by cases h) ?_;clear hK K
    try simp only[aP]
    refine Ac (i:=9) (by kernel_rfl) rfl rfl (fun K hK=>?_);go_simp;refine hK _ _ (fun h=>by cases h) ?_;clear hK K
    try simp only[aP]
    refine Am (by kernel_rfl) ?_;obtain⟨w9A,hW9A⟩:∃w9A,w8A.setCell ⟨wc.heap.size,3,none⟩ (sL g8A 0 (acc.length+2) c8A)=w9A:=⟨_,rfl⟩;have hblk9A:w9A.heap[wc.heap.size]?=some (.cells #[iv v.k,iv v.n,bz v.t,sL g8A 0 (acc.length+2) c8A] 31):=by rw[<-hW9A];exact E2 hbr8A _
    have hs9A:w9A.heap.size=w8A.heap.size:=by rw[<-hW9A];simp[World.setCell]
    have hBB:Below w3.heap.size w3 w9A:=by
     rw[<-hW9A];exact ((hBr.trans (hbWaA.mono hBr.size)).trans ((hb8A (wc.heap.size+1) (by omega) (fun k hk=>hk)).mono (by omega))).setCell (p:=⟨wc.heap.size,3,none⟩) (by show w3.heap.size<=wc.heap.size;omega) _
    have hGB:Gv (From (wc.heap.size+1)) w9A (sL g8A 0 (acc.length+2) c8A) (acc ++ [k,x]):=by
     rw[<-hW9A];refine Gv.since hG8A ⟨by simp[World.setCell],fun k h1 _=>Below.heap_setCell _ _ _ _ ?_⟩;show k≠wc.heap.size;have:wc.heap.size+1<=k:=h1;omega
    have hbrB:=hblk9A;rw[hW9A];clear hG8A hGaA hx6A hy7A hb6A hb7A hb8A hbaA hr8A hf8A hbWaA hb67A m0A m1A m2A m3A n0A n1A n2A n3A hW9A hblk9A hbr8A hSkA hS0A hC1A hC2A hGr hbr hBr;have hend:Hid (spl v.l (2*kat k v.l) (2*kat k v.l) [k,x]=acc ++ [k,x]):=hend1;clear hend1;have hlacc:(acc ++ [k,x]).length=acc.length+2:=by simp
    rw[<-hlacc] at hGB hbrB ⊢;have hll2:(acc ++ [k,x]).length<=m+4:=by omega
    clear hlacc;generalize acc ++ [k,x]=acc2 at *;have hlu:u.l.length=acc2.length:=by rw[huk.out.2.2.2,hend.out]
    have hu8:IsW (From (wc.heap.size+1)) w9A u (sL g8A 0 u.l.length c8A):=by
     obtain⟨q1,q2,q3,q4⟩:=huk.out;refine⟨by rw[q3];exact hvr.out.1,by rw[q1];exact hvr.out.2.1,by rw[q2];exact hvr.out.2.2,?_⟩;rw[hlu,q4,hend.out];exact hGB.vs
    have hL:=Dt hu8 huw;rw[huk.out.1,huk.out.2.1,huk.out.2.2.1,hlu,<-hfin.out] at hL;obtain⟨o,HO⟩:∃o,Hid (putV v k x=o):=⟨_,rfl⟩;rw[HO.out] at hL;obtain⟨i0,i1,i2,i3,-⟩:=Aa hbrB;have hq1:¬Lob (From (wc.heap.size+1)) w9A.heap.size (w.heap.size+3):=fun h=>by have:wc.heap.size+1<=w.heap.size+3:=h.1;omega
    have hq2:∀k,Lob (From (wc.heap.size+1)) w9A.heap.size k->w.heap.size<=k:=fun k h=>by have:wc.heap.size+1<=k:=h.1;omega
    clear hGB hu8 huk hround hfin hCk hCx;clear hc;simp only[Exit.then];refine ‹∀(a:Act) (w:World),_->_› _ _ ?_;go_wp2_with fail;refine hL.mono ?_;rintro e wl ⟨⟨al,cl,rfl,hl9⟩,hbl⟩;clear hL;have hb3l:Below w3.heap.size w3 wl:=hBB.trans (hbl.mono hBB.size);obtain⟨r0,r1,r2,r3,s0,s1,s2,s3,hz⟩:=hr wl hb3l;have hres:=Br.kept hl9 (hB3.trans (hb3l.mono hB3.size)) (g:=w.heap.size+3) (by omega) hq1 hq2;clear hr hl9;go_wp2_with fail;exact bodyPost_ret (v:=.tuple #[.agg #[iv o.1.k,iv o.1.n,.string ⟨o.1.t.toArray⟩,.slice al o.1.l.length cl],iv o.2]) (by simp[results,Tryz.results112,go_sem,hz,r0,r1,r2,r3]) rfl (by rw[HO.out];exact hres)
theorem Rl{B:Nat->Prop}{v k x:V}{ao ak ax:Option Addr}{cap ck cx:Nat}{w:World}(hv:IsW B w v (.slice ao v.l.length cap))(hk:IsW B w k (.slice ak k.l.length ck))(hx:IsW B w x (.slice ax x.l.length cx))(hwv:wt v<=200000)(hwk:wt k<=200000)(hwx:wt x<=200000)(ht:Et v) :
  Calls Tryz.prog 112 #[.agg #[iv v.k,iv v.n,bz v.t,.slice ao v.l.length cap],.agg #[iv k.k,iv k.n,bz k.t,.slice ak k.l.length ck],.agg #[iv x.k,iv x.n,bz x.t,.slice ax x.l.length cx]] w fun r w'=>Br w (putV v k x) r w':=by
 by_cases h5:v.k=5
 ·rcases hh:hit k v.l with _ | _
  ·by_cases h64:64<=v.l.length / 2
   ·exact Rk hv hk hx hwv hwk hwx ht h5 hh h64
   ·exact Uv hv hk hx hwv hwk hwx ht h5 hh h64
  ·exact Uu hv hk hx hwv hwk hwx ht h5 hh
 ·by_cases h4:v.k=4∧k.k=1
  ·by_cases hn:0<=k.n∧k.n<v.l.length
   ·exact Rj hv hk hx hwv hwk hwx h4.1 h4.2 hn
   ·exact Ri hv hk hx hwv hwk hwx h4.1 h4.2 hn
  ·exact Rh hv hk hx hwv hwk hwx h4 h5
end
end Go.Proofs.YtnijcolomoobnaaGreatDoor
