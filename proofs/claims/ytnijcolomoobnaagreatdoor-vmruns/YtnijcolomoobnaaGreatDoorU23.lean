/- Texts of ours, joined. -/
import Derived.Test.YtnijcolomoobnaaGreatDoorU17
set_option linter.unusedVariables false
set_option linter.unusedSimpArgs false
set_option maxRecDepth 100000
set_option maxHeartbeats 16000000
namespace Go.Proofs.YtnijcolomoobnaaGreatDoor
section
open Go.RowKit
attribute [local go_sem ↓] Go.wp_at_zero Go.wp_at_succ
theorem Uw{B:Nat->Prop}{v k:V}{ao ak:Option Addr}{cap ck:Nat}{w:World}(hv:IsW B w v (.slice ao v.l.length cap))(hk:IsW B w k (.slice ak k.l.length ck))(hwv:wt v<=200000)(ht:Et v) :
  Calls Tryz.prog 113 #[.agg #[iv v.k,iv v.n,bz v.t,.slice ao v.l.length cap],.agg #[iv k.k,iv k.n,bz k.t,.slice ak k.l.length ck]] w fun r w'=>Br w (delV v k) r w':=by
 obtain⟨ao',cap',e,c1,c2⟩:=hv.vs.slice;simp only[Value.slice.injEq] at e;obtain⟨rfl,-,rfl⟩:=e;have hwts:=Bw v;have hlv:=A4 v.l;obtain⟨w0,w1,w2,hW,hW1,hW2,hs0,hs1,hs2,hB2,hc,hr⟩:=Fc w v (.slice ao v.l.length cap) k (.slice ak k.l.length ck);obtain⟨a0,a1,a2,a3,b0,b1,b2,b3⟩:=hc w2 (Below.refl _ _);by_cases h5:v.k=5
 ·have hk5:(v.k != 5)=false:=by simp[h5]
  obtain⟨t1,t2⟩:=ht h5;have hfin:Hid (delV v k=(.mk v.k v.n v.t (delL k v.l),0)):=Vf h5 t1 t2;obtain⟨wz,w4,hWz,hW4,hb24,hs4,hsz,hblk4,⟨y0,y1,y2,y3⟩,⟨z0,z1,z2,z3⟩⟩:=Cg w2 (iv v.k) (iv v.n) (bz v.t) sZ;rw[hs2] at hW4 hblk4 y0 y1 y2 y3 z0 z1 z2 z3;have hround:∀(q:Nat) (wr:World),q<v.l.length->Below w2.heap.size w2 wr ->
    ∃x g o ax cx,v.l[q]?=some x∧ao=some ⟨g,o,none⟩∧g<w.heap.size ∧
     (wr.cell? ⟨g,o+q*4,none⟩=some (iv x.k)∧wr.cell? ⟨g,o+q*4+1,none⟩=some (iv x.n)∧wr.cell? ⟨g,o+q*4+2,none⟩=some (bz x.t)∧wr.cell? ⟨g,o+q*4+3,none⟩=some (.slice ax x.l.length cx)) ∧
     (∀w2,Below wr.heap.size wr w2->Calls Tryz.prog 15 #[.agg #[iv x.k,iv x.n,bz x.t,.slice ax x.l.length cx],.agg #[iv k.k,iv k.n,bz k.t,.slice ak k.l.length ck]] w2 fun r w'=>r=.returned (.bool (cmpV x k == 0))∧Below w2.heap.size w2 w') ∧
     (∀w2,Below wr.heap.size wr w2->Calls Tryz.prog 17 #[.agg #[iv x.k,iv x.n,bz x.t,.slice ax x.l.length cx]] w2 fun r w'=>D7 w2 x r w'):=by
   intro q wr h1 hBr;have hx:v.l[q]?=some v.l[q]:=List.getElem?_eq_getElem h1;have hBw:Below w.heap.size w wr:=hB2.trans (hBr.mono hB2.size);obtain⟨g,o,ax,cx,e,_,hg,c0,c1,c2,c3,hw⟩:=hv.vs.get hx;obtain⟨f,-⟩:=Ag hBw;have:=Df hx;exact⟨v.l[q],g,o,ax,cx,hx,e,hg,⟨(f _ _ hg).trans c0,(f _ _ hg).trans c1,(f _ _ hg).trans c2,(f _ _ hg).trans c3⟩,fun w2 hb2=>Dk ((hw.below hBw).below hb2) ((hk.below hBw).below hb2),fun w2 hb2=>Az _ _ _ B w2 (Nat.lt_succ_self _) (by omega) ((hw.below hBw).below hb2)⟩
  have hvr:Hid (v.t.length<=maxLen∧InR v.k∧InR v.n):=⟨hv.txt,hv.kr,hv.nr⟩;have hb44:Hid (Below w2.heap.size w2 w4):=hb24;clear hv hk h5;go_enter Tryz.func113,Tryz.ntmps113;go_wp2_with fail;clear hWz hW4 y0 y1 y2 y3 z0 z1 z2 z3 hsz hb24 a0 a1 a2 a3 b0 b1 b2 b3
  go_loopg [7] v.l.length (fun g i wr=>∃(q m:Nat) (sa:Option Addr) (sc:Nat),Hid (m=2*q)∧m<=v.l.length∧g=v.l.length - m∧i=iv m∧Hid (Below w2.heap.size w2 wr∧wr.heap[w.heap.size+3]?=some (.cells #[iv v.k,iv v.n,bz v.t,.slice sa (delL k (v.l.take m)).length sc] 31)∧Gv (From (w.heap.size+4)) wr (.slice sa (delL k (v.l.take m)).length sc) (delL k (v.l.take m))))
  case atStart=>exact⟨0,0,none,0,rfl,Nat.zero_le _,rfl,rfl,hb44.out,by simpa [delL] using hblk4,by simpa [delL] using Gv.nil _ _⟩
  case round=>
   obtain⟨q,m,sa,sc,Hm,hm,rfl,rfl,HR⟩:=hrel;have hBr:Below w2.heap.size w2 wr:=HR.out.1;have hbr:=HR.out.2.1;have hGr:=HR.out.2.2;have hlm:(v.l.take m).length=m:=by simp;omega
   have hld:=L0 k (v.l.take m);have hwd:=L1 k (v.l.take m);have hG3r:w.heap.size+3<wr.heap.size:=(Array.getElem?_eq_some_iff.1 hbr).1;obtain⟨f0,f1,f2,f3,k0,k1,k2,k3⟩:=hc wr hBr;by_cases hlt:m+1<v.l.length
   ·obtain⟨x,g,o,ax,cx,hx,rfl,hg,⟨c0,c1,c2,c3⟩,hSame,hCx⟩:=hround m wr (by omega) hBr;have hgr:g<wr.heap.size:=by omega
    have hltI:(m:Int)+1<(v.l.length:Int):=by omega
    have hltI2:(m:Int)<(v.l.length:Int):=by omega
    have hm0:(0:Int)<=(m:Int):=by omega
    have hx':Hid (v.l[m]?=some x):=hx;have hgb:w.heap.size<wr.heap.size:=by omega
    have hgb':w.heap.size+1<wr.heap.size:=by omega
    obtain⟨acc,Hacc⟩:∃acc,Hid (delL k (v.l.take m)=acc):=⟨_,rfl⟩;have hstep:Hid (∀y,v.l[m+1]?=some y->delL k (v.l.take (m+2))=acc ++ (if cmpV x k=0 then [] else [x,y])):=by
     intro y hy;rw[<-Hacc.out,<-Gz k x y (v.l.take m) (by have:=Hm.out;omega)];rw[show m+2=m+1+1 by omega,List.take_add_one,List.take_add_one,hx'.out,hy];simp
    have hacl:acc.length<=m:=by rw[<-Hacc.out];omega
    rw[Hacc.out] at hbr hGr;clear hx HR hld hwd Hacc;go_wp2_with fail;go_region_held3 (fun w'=>w'.cell? ⟨w.heap.size,3,none⟩=some (sL g o v.l.length cap)∧w'.cell? ⟨w.heap.size+1,0,none⟩=some (iv k.k)∧w'.cell? ⟨w.heap.size+1,1,none⟩=some (iv k.n)∧w'.cell? ⟨w.heap.size+1,2,none⟩=some (bz k.t)∧w'.cell? ⟨w.heap.size+1,3,none⟩=some (.slice ak k.l.length ck)∧w'.cell? ⟨g,o+m*4,none⟩=some (iv x.k)∧w'.cell? ⟨g,o+m*4+1,none⟩=some (iv x.n)∧w'.cell? ⟨g,o+m*4+2,none⟩=some (bz x.t)∧w'.cell? ⟨g,o+m*4+3,none⟩=some (.slice ax x.l.length cx)) (go_keep)
     ((go_at_call 15;refine (hSame _ (Below.refl _ _).drew).mono ?_;rintro e w3 ⟨rfl,hb3⟩;replace hb3:=Ad hb3;obtain⟨f9,-⟩:=Ag hb3))
    clear hSame f9 c0 c1 c2 c3 k0 k1 k2 k3 f0 f1 f2 f3;have hB3:Below w2.heap.size w2 w3:=hBr.trans (hb3.mono hBr.size);have hs3:=hb3.size;have hG3:=hGr.below hb3;replace hbr:w3.heap[w.heap.size+3]?=some (.cells #[iv v.k,iv v.n,bz v.t,.slice sa acc.length sc] 31):=(hb3.block _ hG3r).trans hbr;have Hm2:Hid (m+2=2*(q+1)):=by have:=Hm.out;show _=_;omega
    obtain⟨y,g',o',ay,cy,hy,e,-,⟨d0,d1,d2,d3⟩,-,hCy⟩:=hround (m+1) w3 hlt hB3;simp only[Option.some.injEq,Addr.mk.injEq] at e;obtain⟨rfl,rfl,-⟩:=e;by_cases hz:cmpV x k=0
    ·have hd:(cmpV x k == 0)=true:=by simp[hz]
     have hnew:Hid (Below w2.heap.size w2 w3∧w3.heap[w.heap.size+3]?=some (.cells #[iv v.k,iv v.n,bz v.t,.slice sa (delL k (v.l.take (m+2))).length sc] 31)∧Gv (From (w.heap.size+4)) w3 (.slice sa (delL k (v.l.take (m+2))).length sc) (delL k (v.l.take (m+2)))):=by
      have h1:=hstep.out y hy;rw[if_pos hz,List.append_nil] at h1;rw[h1];exact⟨hB3,hbr,hG3⟩
     rw[hd];clear hd hround hc hr hG3 hGr hbr hstep hCx hCy d0 d1 d2 d3;go_wp2_with fail;go_roundg (v.l.length - (m+2))
     case measure=>omega
     case rel=>exact⟨q+1,m+2,sa,sc,Hm2,by omega,rfl,by go_num,hnew⟩
    ·have hd:(cmpV x k == 0)=false:=by simp[hz]
     obtain⟨-,-,-,j3,-⟩:=hc w3 hB3;obtain⟨i0,i1,i2,i3,-⟩:=Aa hbr;obtain⟨x2,g2,o2,ax2,cx2,hx2,e,-,⟨p0,p1,p2,p3⟩,-,hCx2⟩:=hround m w3 (by omega) hB3;simp only[Option.some.injEq,Addr.mk.injEq] at e;obtain⟨rfl,rfl,-⟩:=e;rw[hx'.out] at hx2;obtain rfl:=Option.some.inj hx2;obtain⟨n,Hn⟩:∃n:Nat,Hid (m+1=n):=⟨_,rfl⟩;have hn1:IntKind.i64.wrap ((m:Int)+1)=(n:Int):=by have:=Hn.out;rw[IntKind.wrap_i64];omega
     have hn2:(m:Int)+1=(n:Int):=by have:=Hn.out;omega
     have hn3:IntKind.i64.wrap (n:Int)=(n:Int):=by have:=Hn.out;rw[IntKind.wrap_i64];omega
     have hn4:(n:Int)<(v.l.length:Int):=by have:=Hn.out;omega
     have hn5:(0:Int)<=(n:Int):=by omega
     rw[Hn.out] at d0 d1 d2 d3;have hg3:g<w3.heap.size:=by omega
     have hSk:∀ww,Below w3.heap.size w3 ww->ww.cell? ⟨w.heap.size+3,3,none⟩=some (.slice sa acc.length sc)∧ww.cell? ⟨w.heap.size,3,none⟩=some (sL g o v.l.length cap)∧ww.cell? ⟨g,o+m*4,none⟩=some (iv x.k)∧ww.cell? ⟨g,o+m*4+1,none⟩=some (iv x.n)∧ww.cell? ⟨g,o+m*4+2,none⟩=some (bz x.t)∧ww.cell? ⟨g,o+m*4+3,none⟩=some (.slice ax2 x.l.length cx2)∧ww.cell? ⟨g,o+n*4,none⟩=some (iv y.k)∧ww.cell? ⟨g,o+n*4+1,none⟩=some (iv y.n)∧ww.cell? ⟨g,o+n*4+2,none⟩=some (bz y.t)∧ww.cell? ⟨g,o+n*4+3,none⟩=some (.slice ay y.l.length cy):=by
      intro ww hb;obtain⟨f,-⟩:=Ag hb;exact⟨(f _ _ (by omega)).trans i3,(f _ _ (by omega)).trans j3,(f _ _ hg3).trans p0,(f _ _ hg3).trans p1,(f _ _ hg3).trans p2,(f _ _ hg3).trans p3,(f _ _ hg3).trans d0,(f _ _ hg3).trans d1,(f _ _ hg3).trans d2,(f _ _ hg3).trans d3⟩
     have hC1:=hCx2 w3.drew (Below.refl _ _).drew;have hap:(Value.slice sa acc.length sc).ownBlock≠some (w.heap.size+3):=by
      obtain⟨row,-,hP,-⟩:=hG3;intro e;have:w.heap.size+4<=w.heap.size+3:=hP _ e;omega
     rw[hd];clear hd hround hc hr hGr hCx2 hltI i0 i1 i2;go_wp2_with fail;refine wpE_begin (S:=fun w'=>w'.cell? ⟨w.heap.size+3,3,none⟩=some (.slice sa acc.length sc)∧w'.cell? ⟨w.heap.size,3,none⟩=some (sL g o v.l.length cap)∧w'.cell? ⟨g,o+m*4,none⟩=some (iv x.k)∧w'.cell? ⟨g,o+m*4+1,none⟩=some (iv x.n)∧w'.cell? ⟨g,o+m*4+2,none⟩=some (bz x.t)∧w'.cell? ⟨g,o+m*4+3,none⟩=some (.slice ax2 x.l.length cx2)∧w'.cell? ⟨g,o+n*4,none⟩=some (iv y.k)∧w'.cell? ⟨g,o+n*4+1,none⟩=some (iv y.n)∧w'.cell? ⟨g,o+n*4+2,none⟩=some (bz y.t)∧w'.cell? ⟨g,o+n*4+3,none⟩=some (.slice ay y.l.length cy)) (N:=fun j=>decide (j<16)) (by kernel_rfl) ?_;have hS0:w3.drew.cell? ⟨w.heap.size+3,3,none⟩=some (.slice sa acc.length sc)∧w3.drew.cell? ⟨w.heap.size,3,none⟩=some (sL g o v.l.length cap)∧w3.drew.cell? ⟨g,o+m*4,none⟩=some (iv x.k)∧w3.drew.cell? ⟨g,o+m*4+1,none⟩=some (iv x.n)∧w3.drew.cell? ⟨g,o+m*4+2,none⟩=some (bz x.t)∧w3.drew.cell? ⟨g,o+m*4+3,none⟩=some (.slice ax2 x.l.length cx2)∧w3.drew.cell? ⟨g,o+n*4,none⟩=some (iv y.k)∧w3.drew.cell? ⟨g,o+n*4+1,none⟩=some (iv y.n)∧w3.drew.cell? ⟨g,o+n*4+2,none⟩=some (bz y.t)∧w3.drew.cell? ⟨g,o+n*4+3,none⟩=some (.slice ay y.l.length cy):=hSk _ (Below.refl _ _).drew;refine Ab (some 35) [1,16,17,18] 0 (pt (w.heap.size+3) 3) rfl rfl (by kernel_rfl) (fun _ _ _ h=>h) rfl (by intro w hS;(try dsimp only at hS);go_split_ands;go_simp) hS0 ?_
     try simp only[aP]
     refine Ab (some 36) [16,17,18] 1 (.slice sa acc.length sc) rfl rfl (by kernel_rfl) (fun _ _ _ h=>h) rfl (by intro w hS;(try dsimp only at hS);go_split_ands;go_simp) hS0 ?_
     try simp only[aP]
     refine Ab (some 37) [3,5,6,7,14,15,16,17,18] 2 (pt w.heap.size 3) rfl rfl (by kernel_rfl) (fun _ _ _ h=>h) rfl (by intro w hS;(try dsimp only at hS);go_split_ands;go_simp) hS0 ?_
     try simp only[aP]
     refine Ab (some 38) [5,6,7,14,15,16,17,18] 3 (sL g o v.l.length cap) rfl rfl (by kernel_rfl) (fun _ _ _ h=>h) rfl (by intro w hS;(try dsimp only at hS);go_split_ands;go_simp) hS0 ?_
     try simp only[aP]
     refine Ab (some 39) [5,6,7,14,15,16,17,18] 4 (iv m) rfl rfl (by kernel_rfl) (fun _ _ _ h=>h) rfl (by intro w hS;(try dsimp only at hS);go_split_ands;go_simp) hS0 ?_
     try simp only[aP]
     refine Ab (some 40) [6,7,14,15,16,17,18] 5 (pt g (o+m*4)) rfl rfl (by kernel_rfl) (fun _ _ _ h=>h) rfl (by intro w hS;(try dsimp only at hS);go_split_ands;go_simp) hS0 ?_
     try simp only[aP]
     refine Ab (some 41) [7,14,15,16,17,18] 6 (.agg #[iv x.k,iv x.n,bz x.t,.slice ax2 x.l.length cx2]) rfl rfl (by kernel_rfl) (fun _ _ _ h=>h) rfl (by intro w hS;(try dsimp only at hS);go_split_ands;go_simp) hS0 ?_
     try simp only[aP]
     refine Ab (some 43) [9,12,13,14,15,16,17,18] 8 (pt w.heap.size 3) rfl rfl (by kernel_rfl) (fun _ _ _ h=>h) rfl (by intro w hS;(try dsimp only at hS);go_split_ands;go_simp) hS0 ?_
     try simp only[aP]
     refine Ab (some 44) [12,13,14,15,16,17,18] 9 (sL g o v.l.length cap) rfl rfl (by kernel_rfl) (fun _ _ _ h=>h) rfl (by intro w hS;(try dsimp only at hS);go_split_ands;go_simp) hS0 ?_
     try simp only[aP]
     refine Ab (some 45) [11,12,13,14,15,16,17,18] 10 (iv m) rfl rfl (by kernel_rfl) (fun _ _ _ h=>h) rfl (by intro w hS;(try dsimp only at hS);go_split_ands;go_simp) hS0 ?_
     try simp only[aP]
     refine Ab (some 46) [12,13,14,15,16,17,18] 11 (iv n) rfl rfl (by kernel_rfl) (fun _ _ _ h=>h) rfl (by intro w hS;(try dsimp only at hS);go_split_ands;go_simp) hS0 ?_
     try simp only[aP]
     refine Ab (some 47) [13,14,15,16,17,18] 12 (pt g (o+n*4)) rfl rfl (by kernel_rfl) (fun _ _ _ h=>h) rfl (by intro w hS;(try dsimp only at hS);go_split_ands;go_simp) hS0 ?_
     try simp only[aP]
     refine Ab (some 48) [14,15,16,17,18] 13 (.agg #[iv y.k,iv y.n,bz y.t,.slice ay y.l.length cy]) rfl rfl (by kernel_rfl) (fun _ _ _ h=>h) rfl (by intro w hS;(try dsimp only at hS);go_split_ands;go_simp) hS0 ?_
     try simp only[aP]
     refine Ac (i:=7) (by kernel_rfl) rfl rfl (fun K hK=>?_);go_simp;refine hC1.mono ?_;rintro e w6 ⟨⟨a6,c6,rfl,hx6,-⟩,hb6⟩;replace hb6:Below w3.heap.size w3 w6:=Ad hb6;replace hx6:IsW (From w3.heap.size) w6 x (.slice a6 x.l.length c6):=hx6;refine hK _ _ (fun _=>hSk _ hb6) ?_;clear hK K
     try simp only[aP]
     refine Ac (i:=14) (by kernel_rfl) rfl rfl (fun K hK=>?_);go_simp;refine (hCy w6 hb6).mono ?_;rintro e w7 ⟨⟨a7,c7,rfl,hy7,-⟩,hb7⟩;have hs6:=hb6.size;have hb67:Below w3.heap.size w3 w7:=hb6.trans (hb7.mono hs6);replace hx6:=hx6.below hb7;have hs7:=hb7.size;refine hK _ _ (fun _=>hSk _ hb67) ?_;clear hK K
     try simp only[aP]
     obtain⟨wa,hWa⟩:∃wa,w7.alloc (.cells #[iv x.k,iv x.n,bz x.t,.slice a6 x.l.length c6,iv y.k,iv y.n,bz y.t,.slice a7 y.l.length c7] 31)=wa:=⟨_,rfl⟩;have hba:Below w7.heap.size w7 wa:=by rw[<-hWa];exact (Below.refl _ _).alloc (Nat.le_refl _) _
     have hblka:wa.heap[w7.heap.size]?=some (.cells #[iv x.k,iv x.n,bz x.t,.slice a6 x.l.length c6,iv y.k,iv y.n,bz y.t,.slice a7 y.l.length c7] 31):=by rw[<-hWa];exact Ai _ _
     have hsa:wa.heap.size=w7.heap.size+1:=by rw[<-hWa];simp
     have hbWa:Below w3.heap.size w3 wa:=hb67.trans (hba.mono hb67.size);refine Ac (i:=15) (by kernel_rfl) rfl rfl (fun K hK=>?_);go_simp;refine hK _ _ (fun _=>hSk _ hbWa) ?_;clear hK K
     try simp only[aP]
     have hGa:=hG3.below hbWa;have hal:An (fun k=>(From (w.heap.size+4)) k∧(Value.slice sa acc.length sc).ownBlock≠some k) wa [x,y] [iv x.k,iv x.n,bz x.t,.slice a6 x.l.length c6,iv y.k,iv y.n,bz y.t,.slice a7 y.l.length c7]:=
      An.append (l:=[x]) (row:=[iv x.k,iv x.n,bz x.t,.slice a6 x.l.length c6]) (An.one (At.2 ⟨_,rfl,(hx6.below hba).base (fun k h1 _=>by have h2:w3.heap.size<=k:=h1;exact⟨by show w.heap.size+4<=k;omega,hG3.apart h2⟩)⟩)) (An.one (At.2 ⟨_,rfl,(hy7.below hba).base (fun k h1 _=>by have h3:w6.heap.size<=k:=h1;have h2:w3.heap.size<=k:=(by omega);exact⟨by show w.heap.size+4<=k;omega,hG3.apart h2⟩)⟩))
     obtain⟨g8,c8,w8,hr8,hG8,hb8,hf8,hs8⟩:=hGa.push (l2:=[x,y]) (ad:=⟨w7.heap.size,0,none⟩) (by simp) (by simp) (World.news_of_block hblka) hal (by simp only[List.length_cons,List.length_nil];omega) (fun k hk=>by have h2:w3.heap.size<=k:=(by omega);exact by show w.heap.size+4<=k;omega) 2 22;clear hal;have hn8:acc.length + [x,y].length=acc.length+2:=rfl;rw[hn8] at hr8 hG8;refine Ac (i:=16) (by kernel_rfl) rfl rfl (fun K hK=>?_);refine Ay _ _ 22 rfl _ _ rfl rfl _ _ hr8 ?_;refine hK _ _ (fun h=>by cases h) ?_;clear hK K
     try simp only[aP]
     have hbr8:w8.heap[w.heap.size+3]?=some (.cells #[iv v.k,iv v.n,bz v.t,.slice sa acc.length sc] 31):=by
      rw[hf8 _ (by omega) hap,hbWa.block _ (by omega)];exact hbr
     obtain⟨m0,m1,m2,m3,n0,n1,n2,n3⟩:=Aa hbr8;refine Ac (i:=17) (by kernel_rfl) rfl rfl (fun K hK=>?_);go_simp;refine hK _ _ (fun h=>by cases h) ?_;clear hK K
     try simp only[aP]
     refine Ac (i:=18) (by kernel_rfl) rfl rfl (fun K hK=>?_);go_simp;refine hK _ _ (fun h=>by cases h) ?_;clear hK K
     try simp only[aP]
     refine Am (by kernel_rfl) ?_;obtain⟨w9,hW9⟩:∃w9,w8.setCell ⟨w.heap.size+3,3,none⟩ (sL g8 0 (acc.length+2) c8)=w9:=⟨_,rfl⟩;have hblk9:w9.heap[w.heap.size+3]?=some (.cells #[iv v.k,iv v.n,bz v.t,sL g8 0 (acc.length+2) c8] 31):=by rw[<-hW9];exact E2 hbr8 _
     have hs9:w9.heap.size=w8.heap.size:=by rw[<-hW9];simp[World.setCell]
     have hnew:Hid (Below w2.heap.size w2 w9∧w9.heap[w.heap.size+3]?=some (.cells #[iv v.k,iv v.n,bz v.t,.slice (some ⟨g8,0,none⟩) (delL k (v.l.take (m+2))).length c8] 31)∧Gv (From (w.heap.size+4)) w9 (.slice (some ⟨g8,0,none⟩) (delL k (v.l.take (m+2))).length c8) (delL k (v.l.take (m+2)))):=by
      have h1:=hstep.out y hy;rw[if_neg hz] at h1;have h2:(acc ++ [x,y]).length=acc.length+2:=by simp
      rw[h1,h2];refine⟨?_,hblk9,?_⟩
      ·rw[<-hW9];exact ((hB3.trans (hbWa.mono (by omega))).trans ((hb8 (w.heap.size+4) (by omega) (fun k hk=>hk)).mono (by omega))).setCell (p:=⟨w.heap.size+3,3,none⟩) (by show w2.heap.size<=w.heap.size+3;omega) _
      ·rw[<-hW9];refine Gv.since hG8 ⟨by simp[World.setCell],fun k h1 _=>Below.heap_setCell _ _ _ _ ?_⟩;show k≠w.heap.size+3;have:w.heap.size+4<=k:=h1;omega
     rw[hW9];clear hG8 hGa hx6 hy7 hb6 hb7 hb8 hba hr8 hf8 hbWa hb67 m0 m1 m2 m3 n0 n1 n2 n3 hW9 hblk9 hbr8 hSk hS0 hC1 hCx hCy hstep hG3;simp only[Exit.inBlock,Exit.then];refine ‹∀(a:Act) (w:World),_->_› _ _ ?_;go_wp2_with fail;go_roundg (v.l.length - (m+2))
     case measure=>omega
     case rel=>exact⟨q+1,m+2,some ⟨g8,0,none⟩,c8,Hm2,by omega,rfl,by go_num,hnew⟩
   ·have hltI:¬(m:Int)+1<(v.l.length:Int):=by omega
    obtain rfl:m=v.l.length:=by have:=Hm.out;omega
    rw[List.take_length] at hbr hGr;obtain⟨r0,r1,r2,r3,s0,s1,s2,s3,hz⟩:=hr wr hBr;obtain⟨i0,i1,i2,i3,-⟩:=Aa hbr;have hres:=Br.kept (o:=(.mk v.k v.n v.t (delL k v.l),0)) (w:=w) (w3:=wr) (ao:=sa) (cap:=sc) (Q:=From (w.heap.size+4)) ⟨hvr.out.1,hvr.out.2.1,hvr.out.2.2,hGr.vs⟩ (hB2.trans (hBr.mono hB2.size)) (g:=w.heap.size+2) (by omega) (by show ¬(w.heap.size+4<=w.heap.size+2);omega) (fun k h=>by have:w.heap.size+4<=k:=h;omega);clear hr hc hround hGr HR k0 k1 k2 k3 f0 f1 f2;go_wp2_with fail;exact bodyPost_ret (v:=.tuple #[.agg #[iv v.k,iv v.n,bz v.t,.slice sa (delL k v.l).length sc],iv 0]) (by simp[results,Tryz.results113,go_sem,hz,r0,r1,r2,r3]) rfl (by rw[hfin.out];exact hres)
 ·have hk5:(v.k != 5)=true:=by simp[h5]
  have hfin:delV v k=(V.zero,40):=by unfold delV;rw[if_pos h5]
  obtain⟨r0,r1,r2,r3,s0,s1,s2,s3,hz⟩:=hr w2 (Below.refl _ _);have hres:=Bk (e:=40) (Aj hB2 (g:=w.heap.size+2) (by omega) (iv 0) (iv 0) (.string ⟨#[]⟩) sZ);rw[<-hfin] at hres;clear hr hc hv hk hfin;go_enter Tryz.func113,Tryz.ntmps113;go_wp2_with fail;exact bodyPost_ret (v:=.tuple #[.agg #[iv 0,iv 0,.string ⟨#[]⟩,sZ],iv 40]) (by simp[results,Tryz.results113,go_sem,hz,r0,r1,r2,r3]) rfl hres
end
end Go.Proofs.YtnijcolomoobnaaGreatDoor
