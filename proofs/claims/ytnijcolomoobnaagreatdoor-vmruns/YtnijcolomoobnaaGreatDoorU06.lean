/- Texts of ours, joined. -/
import Derived.Test.YtnijcolomoobnaaGreatDoorU02
import Derived.Test.YtnijcolomoobnaaGreatDoorU01
import Derived.Deep.CutRange
import Derived.Deep.RegionHeld3
import Derived.Deep.DrawnRows
import Derived.Test.YtnijcolomoobnaaGreatDoorU03
import Derived.Deep.AppendLies
set_option linter.unusedVariables false
set_option linter.unusedSimpArgs false
set_option maxRecDepth 100000
set_option maxHeartbeats 16000000
namespace Go.Proofs.YtnijcolomoobnaaGreatDoor
section
open Go.RowKit
attribute [local go_sem ↓] Go.wp_at_zero Go.wp_at_succ
def Jk(N:Nat)(w:World)(v:V)(r:Ending)(w':World):Prop:=(∃ao cap,r=.returned (.agg #[iv v.k,iv v.n,bz v.t,.slice ao v.l.length cap])∧IsW (From w.heap.size) w' v (.slice ao v.l.length cap)∧Wf (From w.heap.size) N w' (.slice ao v.l.length cap))∧Below w.heap.size w w'
theorem L6(n:Nat)(hn:n<=1000000):∃arr0:Array Value,arr0.size=n*4∧∀w:World,(Instr.makeSlice 22 (iv n) (iv n)).run Tryz.prog w=.ok (sL w.heap.size 0 n n) (w.alloc (.cells arr0 31)):=by
 have h:(Tryz.prog.info? 31).map (fun i=>(i.zero,i.size,i.bytes))=some (some (.agg #[iv 0,iv 0,.string ⟨#[]⟩,sZ]),4,56):=by kernel_rfl
 rcases hi:Tryz.prog.info? 31 with _ | i
 ·rw[hi] at h;cases h
 ·rw[hi] at h;simp only[Option.map_some,Option.some.injEq,Prod.mk.injEq] at h;obtain⟨hz,hs,hb⟩:=h;refine⟨madeCells (Value.agg #[iv 0,iv 0,.string ⟨#[]⟩,sZ]).cells (n*i.size),by rw[size_madeCells,hs],fun w=>?_⟩;have:=run_make (P:=Tryz.prog) w 22 31 i _ Tryz.underlying22 hi hz .i64 .i64 n n (by omega) (by omega) (by rw[hb];omega) (by omega);simpa using this
theorem Dl:∀(N:Nat) (v:V) (sl:Value) (B:Nat->Prop) (w:World),wt v<N->wt v<=1000000->IsW B w v sl ->
  Calls Tryz.prog 32 #[.agg #[iv v.k,iv v.n,bz v.t,sl]] w fun r w'=>Jk N w v r w':=by
 intro N;induction N with
 | zero=>intro v sl B w h;omega
 | succ N ih=>
  intro v sl B w hN hbig hv;obtain⟨ao,cap,rfl,hc1,hc2⟩:=hv.vs.slice;have hwt:=Bw v;have hlen:=A4 v.l;obtain⟨w0,hW,hb0,hsz,d0,d1,d2,d3⟩:=Aw w v (.slice ao v.l.length cap);have hcl:=fun w=>Ev v.t w (by omega)
  obtain⟨arr0,harr,hmk⟩:=L6 v.l.length (by omega);obtain⟨w1,hW1,hb1,hsz1,hr⟩:=G5 w0;rw[hsz] at hr;have hB1:Below w.heap.size w w1:=hb0.trans (hb1.mono (by omega));obtain⟨f1,-⟩:=Ag hb1;rw[<-f1 w.heap.size _ (by omega)] at d0 d1 d2 d3;have hgb:w.heap.size<w1.heap.size:=by omega
  have hgb1:w.heap.size<w1.heap.size+1:=by omega
  obtain⟨w2,hW2,hb2,hsz2,hr2⟩:=G5 w1;have k0:w2.cell? ⟨w.heap.size,0,none⟩=some (iv v.k):=((Ag hb2).1 _ _ hgb).trans d0;have k1:w2.cell? ⟨w.heap.size,1,none⟩=some (iv v.n):=((Ag hb2).1 _ _ hgb).trans d1;have k2:w2.cell? ⟨w.heap.size,2,none⟩=some (bz v.t):=((Ag hb2).1 _ _ hgb).trans d2;have hs1:w1.heap.size=w.heap.size+2:=by omega
  have hs2:w2.heap.size=w.heap.size+3:=by omega
  rw[hs1] at hr2;clear hsz1 hsz2;have n0:=World.new_ne w1 ⟨w.heap.size,0,none⟩ d0;have n1:=World.new_ne w1 ⟨w.heap.size,1,none⟩ d1;have n2:=World.new_ne w1 ⟨w.heap.size,2,none⟩ d2;clear f1;have IH:Hid (∀(v:V) (sl:Value) (B:Nat->Prop) (w:World),wt v<N->wt v<=1000000->IsW B w v sl->Calls Tryz.prog 32 #[.agg #[iv v.k,iv v.n,bz v.t,sl]] w fun r w'=>Jk N w v r w'):=ih;clear ih;go_enter Tryz.func32,Tryz.ntmps32;go_wp2_with fail
  go_cut [3] from 3 to 14 (fun p wc=>∃g3,p=pt g3 0∧w1.heap.size<=g3∧wc.heap[g3]?=some (.cells #[iv v.k,iv v.n,bz v.t,sZ] 31 (0,0))∧Below w1.heap.size w1 wc)
  case first=>
   go_region_held3 (fun w'=>w'.cell? ⟨w.heap.size,0,none⟩=some (iv v.k)∧w'.cell? ⟨w.heap.size,1,none⟩=some (iv v.n)∧w'.cell? ⟨w.heap.size,2,none⟩=some (bz v.t)) (first | go_keep | exact⟨e0,e1,e2⟩)
    ((go_at_call 67;refine (hcl _).mono ?_;rintro e w5 ⟨rfl,hb5⟩;(first
     |(have hb6:Below w1.heap.size w1 w5:=Ad hb5;obtain⟨f5,-⟩:=Ag hb6;have e0:w5.cell? ⟨w.heap.size,0,none⟩=some (iv v.k):=(f5 _ _ hgb).trans d0;have e1:w5.cell? ⟨w.heap.size,1,none⟩=some (iv v.n):=(f5 _ _ hgb).trans d1;have e2:w5.cell? ⟨w.heap.size,2,none⟩=some (bz v.t):=(f5 _ _ hgb).trans d2;clear f5;have m0:=World.new_ne w5 _ e0;have m1:=World.new_ne w5 _ e1;have m2:=World.new_ne w5 _ e2)
     |(have hb7:Below w2.heap.size w2 w5:=Ad hb5;have hb6:Below w1.heap.size w1 w5:=hb2.trans (hb7.mono hb2.size);obtain⟨f5,-⟩:=Ag hb6;have e0:w5.cell? ⟨w.heap.size,0,none⟩=some (iv v.k):=(f5 _ _ hgb).trans d0;have e1:w5.cell? ⟨w.heap.size,1,none⟩=some (iv v.n):=(f5 _ _ hgb).trans d1;have e2:w5.cell? ⟨w.heap.size,2,none⟩=some (bz v.t):=(f5 _ _ hgb).trans d2;clear f5;obtain⟨y0,y1,y2,y3,z0,z1,z2,z3,hz5⟩:=hr2 w5 hb7))))
   all_goals (go_wp2_with fail;go_meet)
   ·exact⟨_,rfl,by have:=hb6.size;omega,Ai _ _,hb6.trans (((Below.refl _ _).alloc (Nat.le_refl _) _).mono hb6.size)⟩
   ·exact⟨_,rfl,by omega,E0 (by rw[<-hs1];exact E1 hW2 hb7) _ _ _ _,Aj hb6 (by omega) _ _ _ _⟩
  case rest=>
   obtain⟨g3,rfl,hg3,hbox,hBc⟩:=hcut;clear hW2 hb2 hs2 hr2 k0 k1 k2 n0 n1 n2 hcl;have hBcs:=hBc.size;have hg3lt:g3<wc.heap.size:=(Array.getElem?_eq_some_iff.1 hbox).1;have e3:wc.cell? ⟨w.heap.size,3,none⟩=some (.slice ao v.l.length cap):=((Ag hBc).1 _ _ hgb).trans d3;obtain⟨b0,b1,b2,b3,z0,z1,z2,z3⟩:=Aa hbox;clear d0 d1 d2 d3;by_cases hnil:v.l=[]
   ·obtain⟨r0,r1,r2,r3,s0,s1,s2,s3,hz⟩:=hr wc hBc;have hl0:v.l.length=0:=by rw[hnil];rfl
    have hfin:Jk (N+1) w v (.returned (.agg #[iv v.k,iv v.n,bz v.t,sZ])) (Cx wc (w.heap.size+1) (iv v.k) (iv v.n) (bz v.t) sZ):=by
     refine⟨⟨none,0,by rw[hl0],⟨hv.txt,hv.kr,hv.nr,?_⟩,by rw[hl0];exact Wf.nil (by unfold maxLen;omega)⟩,Aj (hB1.trans (hBc.mono (by omega))) (by omega) _ _ _ _⟩;rw[hl0,hnil];exact Al.nil
    clear hr hv IH hmk hnil;rw[hl0] at e3;go_wp2_with fail
    go_loopg [26] 0 (fun g i wr=>g=0∧i=iv 0∧wr=wc)
    case atStart=>exact⟨rfl,rfl,rfl⟩
    case round=>
     obtain⟨rfl,rfl,rfl⟩:=hrel;go_wp2_with fail;exact bodyPost_ret (v:=.agg #[iv v.k,iv v.n,bz v.t,sZ]) (by simp[results,Tryz.results32,go_sem,hz,r0,r1,r2,r3]) rfl hfin
   ·have hpos:0<v.l.length:=by
     cases h:v.l with
     | nil=>exact absurd h hnil
     | cons a r=>simp
    have hposI:(0:Int)<(v.l.length:Int):=by omega
    obtain⟨wm,hWm⟩:∃wm,wc.alloc (.cells arr0 31)=wm:=⟨_,rfl⟩;have hbm:Below wc.heap.size wc wm:=by rw[<-hWm];exact (Below.refl _ _).alloc (Nat.le_refl _) _
    have hboxm:wm.heap[g3]?=some (.cells #[iv v.k,iv v.n,bz v.t,sZ] 31 (0,0)):=(hbm.block g3 hg3lt).trans hbox;obtain⟨-,-,-,m3,-,-,-,mz3⟩:=Aa hboxm;have hFm:Du (From (wc.heap.size+1)) wm wc.heap.size v.l.length []:=by
     have h0:=Du.new (B:=From (wc.heap.size+1)) (w:=wc) harr;rw[hWm] at h0;exact h0
    have hWm':C1 (From (wc.heap.size+1)) N wm wc.heap.size v.l.length 0:=by
     have h0:=C1.new (P:=From (wc.heap.size+1)) (N:=N) (w:=wc) harr;rw[hWm] at h0;exact h0
    obtain⟨wn,hWn⟩:∃wn,wm.setCell ⟨g3,3,none⟩ (sL wc.heap.size 0 v.l.length v.l.length)=wn:=⟨_,rfl⟩;have hF0:Du (From (wc.heap.size+1)) wn wc.heap.size v.l.length []:=by
     rw[<-hWn];exact hFm.since ⟨by simp[World.setCell],fun k h1 h2=>Below.heap_setCell _ _ _ _ (by show k≠g3;have:wc.heap.size+1<=k:=h1;omega)⟩ (Below.heap_setCell _ _ _ _ (by show wc.heap.size≠g3;omega))
    have hW0':C1 (From (wc.heap.size+1)) N wn wc.heap.size v.l.length 0:=by
     rw[<-hWn];exact hWm'.since ⟨by simp[World.setCell],fun k h1 h2=>Below.heap_setCell _ _ _ _ (by show k≠g3;have:wc.heap.size+1<=k:=h1;omega)⟩ (Below.heap_setCell _ _ _ _ (by show wc.heap.size≠g3;omega))
    have hbox1:wn.heap[g3]?=some (.cells #[iv v.k,iv v.n,bz v.t,sL wc.heap.size 0 v.l.length v.l.length] 31 (0,0)):=by
     rw[<-hWn];exact E2 hboxm _
    have hBn:Below w1.heap.size w1 wn:=by
     rw[<-hWn];exact (hBc.trans (hbm.mono hBcs)).setCell (p:=⟨g3,3,none⟩) hg3 _
    have hwn:wn.cell? ⟨w.heap.size,3,none⟩=some (.slice ao v.l.length cap):=((Ag hBn).1 _ _ hgb).trans (by rw[<-(Ag hBc).1 _ _ hgb];exact e3);have hne:w.heap.size≠g3:=by omega
    generalize hG:wc.heap.size=G at *;have hgg:g3≠G:=by omega
    have hGw:w.heap.size+2<=G:=by omega
    have hround:∀(q:Nat) (wr:World),q<v.l.length->Below w1.heap.size w1 wr->G<wr.heap.size ->
      ∃x g o ax cx wx,v.l[q]?=some x∧ao=some ⟨g,o,none⟩∧g<wr.heap.size∧wr.cell? ⟨g,o+q*4,none⟩=some (iv x.k)∧wr.cell? ⟨g,o+q*4+1,none⟩=some (iv x.n)∧wr.cell? ⟨g,o+q*4+2,none⟩=some (bz x.t)∧wr.cell? ⟨g,o+q*4+3,none⟩=some (.slice ax x.l.length cx) ∧
       wr.alloc (.cells #[iv x.k,iv x.n,bz x.t,.slice ax x.l.length cx] 31)=wx∧Below wr.heap.size wr wx∧wx.heap.size=wr.heap.size+1∧wx.cell? ⟨wr.heap.size,0,none⟩=some (iv x.k)∧wx.cell? ⟨wr.heap.size,1,none⟩=some (iv x.n)∧wx.cell? ⟨wr.heap.size,2,none⟩=some (bz x.t)∧wx.cell? ⟨wr.heap.size,3,none⟩=some (.slice ax x.l.length cx) ∧
       ∀w2,Below wx.heap.size wx w2->Calls Tryz.prog 32 #[.agg #[iv x.k,iv x.n,bz x.t,.slice ax x.l.length cx]] w2 fun r w'=>Jk N w2 x r w':=by
     intro q wr hq hB hGr;have hx:v.l[q]?=some v.l[q]:=List.getElem?_eq_getElem hq;have hBw:Below w.heap.size w wr:=hB1.trans (hB.mono (by omega));obtain⟨g,o,ax,cx,e,_,hg,c0,c1,c2,c3,hw⟩:=(hv.vs.below hBw).get hx;obtain⟨wx,hWx,hbx,hsx,x0,x1,x2,x3⟩:=Aw wr v.l[q] (.slice ax v.l[q].l.length cx);refine⟨v.l[q],g,o,ax,cx,wx,hx,e,hg,c0,c1,c2,c3,hWx,hbx,hsx,x0,x1,x2,x3,fun w2 hb2=>?_⟩;have:=Df hx;exact IH.out _ _ B w2 (by omega) (by omega) ((hw.below hbx).below hb2)
    have hvr:Hid (v.t.length<=maxLen∧InR v.k∧InR v.n):=⟨hv.txt,hv.kr,hv.nr⟩;clear harr hv IH hBc hbox hnil hg3lt hFm hWm' hboxm hbm b0 b1 b2 b3 z0 z1 z2 z3;go_wp2_with fail
    go_loopg [26] v.l.length (fun g i wr=>∃q:Nat,q<=v.l.length∧g=v.l.length - q∧i=iv q∧Hid (Below w1.heap.size w1 wr∧wr.heap[g3]?=some (.cells #[iv v.k,iv v.n,bz v.t,sL G 0 v.l.length v.l.length] 31 (0,0))∧Du (From (G+1)) wr G v.l.length (v.l.take q)∧C1 (From (G+1)) N wr G v.l.length q))
    case atStart=>exact⟨0,Nat.zero_le _,rfl,rfl,hBn,hbox1,hF0,hW0'⟩
    case round=>
     obtain⟨q,hq,rfl,rfl,HR⟩:=hrel;have hBr:Below w1.heap.size w1 wr:=HR.out.1;have hbr:=HR.out.2.1;have hFr:=HR.out.2.2.1;have hWr:=HR.out.2.2.2;have hGr:=hFr.lt;have hg3r:g3<wr.heap.size:=(Array.getElem?_eq_some_iff.1 hbr).1;obtain⟨t0,t1,t2,t3,-⟩:=Aa hbr;clear e3 hbox1 hBn hF0 hW0' hwn hWn hWm m3 mz3;by_cases hlt:q<v.l.length
     ·obtain⟨x,g,o,ax,cx,wx,hx,rfl,hg,c0,c1,c2,c3,hWx,hbx,hsx,x0,x1,x2,x3,hcall⟩:=hround q wr hlt hBr hGr;have hltI:(q:Int)<(v.l.length:Int):=by omega
      have hq0:(0:Int)<=(q:Int):=by omega
      have hx':Hid (v.l[q]?=some x):=hx;have tx3:wx.cell? ⟨g3,3,none⟩=some (sL G 0 v.l.length v.l.length):=((Ag hbx).1 _ _ hg3r).trans t3;have hlr:wr.heap.size<wx.heap.size:=by omega
      have hg3x:g3<wx.heap.size:=by omega
      have hgr:wr.heap.size≠G:=by omega
      clear hround hx hr HR t0 t1 t2;go_wp2_with fail;go_region_held3 (fun w'=>w'.cell? ⟨g3,3,none⟩=some (sL G 0 v.l.length v.l.length)∧w'.cell? ⟨wr.heap.size,0,none⟩=some (iv x.k)∧w'.cell? ⟨wr.heap.size,1,none⟩=some (iv x.n)∧w'.cell? ⟨wr.heap.size,2,none⟩=some (bz x.t)∧w'.cell? ⟨wr.heap.size,3,none⟩=some (.slice ax x.l.length cx)) (first | exact⟨k0,k1,k2,k3,k4⟩ | exact⟨(Db hgg).trans k0,(Db hgr).trans k1,(Db hgr).trans k2,(Db hgr).trans k3,(Db hgr).trans k4⟩ | go_keep)
       ((go_at_call 32;refine (hcall _ (Below.refl _ _).drew).mono ?_;rintro e w6 ⟨⟨ay,cy,rfl,hx6,hz6⟩,hb6⟩;replace hb6:Below wx.heap.size wx w6:=Ad hb6;have k0:=((Ag hb6).1 _ 3 hg3x).trans tx3;have k1:=((Ag hb6).1 _ 0 hlr).trans x0;have k2:=((Ag hb6).1 _ 1 hlr).trans x1;have k3:=((Ag hb6).1 _ 2 hlr).trans x2;have k4:=((Ag hb6).1 _ 3 hlr).trans x3;have hF6:=(hFr.below hbx).below hb6;obtain⟨y0,y1,y2,y3,m0,m1,m2,m3,s0,s1,s2,s3⟩:=hF6.cells hlt))
      have hlq:(v.l.take q).length=q:=by simp;omega
      have hnew:Hid (Below w1.heap.size w1 (set4At w6 G (q*4) (iv x.k) (iv x.n) (bz x.t) (.slice ay x.l.length cy))∧(set4At w6 G (q*4) (iv x.k) (iv x.n) (bz x.t) (.slice ay x.l.length cy)).heap[g3]?=some (.cells #[iv v.k,iv v.n,bz v.t,sL G 0 v.l.length v.l.length] 31 (0,0))∧Du (From (G+1)) (set4At w6 G (q*4) (iv x.k) (iv x.n) (bz x.t) (.slice ay x.l.length cy)) G v.l.length (v.l.take (q+1))∧C1 (From (G+1)) N (set4At w6 G (q*4) (iv x.k) (iv x.n) (bz x.t) (.slice ay x.l.length cy)) G v.l.length (q+1)):=by
       have hbs:=hBr.size;refine⟨Ct (hBr.trans ((hbx.trans (hb6.mono hbx.size)).mono hBr.size)) (by omega) _ _ _ _ _,?_,?_,?_⟩
       ·rw[Bu hgg,hb6.block g3 (by omega),hbx.block g3 (by omega)];exact hbr
       ·have hst:=hF6.step (by show ¬(G+1<=G);omega) (by rw[hlq];exact hlt) (At.2 ⟨_,rfl,hx6.base (B':=From (G+1)) (fun k h1 h2=>by show G+1<=k;have:wx.drew.heap.size<=k:=h1;have e:wx.drew.heap.size=wx.heap.size:=rfl;omega)⟩);rw[hlq] at hst;rw[List.take_add_one,hx'.out];exact hst
       ·exact ((hWr.below hbx).below hb6).step (by show ¬(G+1<=G);omega) hlt (hz6.base (fun k h1 h2=>by show G+1<=k;have:wx.drew.heap.size<=k:=h1;have e:wx.drew.heap.size=wx.heap.size:=rfl;omega))
      clear hcall hF6 hx6 hz6 hWr k0 k1 k2 k3 k4 m0 m1 m2 m3 s0 s1 s2 s3 hb6;go_wp2_with fail;go_roundg (v.l.length - (q+1))
      case measure=>omega
      case rel=>exact⟨q+1,by omega,rfl,by go_num,hnew⟩
     ·have hltI:¬(q:Int)<(v.l.length:Int):=by omega
      obtain⟨r0,r1,r2,r3,s0,s1,s2,s3,hz⟩:=hr wr (by exact hBr);have hqe:q=v.l.length:=by omega
      have hfin:Jk (N+1) w v (.returned (.agg #[iv v.k,iv v.n,bz v.t,sL G 0 v.l.length v.l.length])) (Cx wr (w.heap.size+1) (iv v.k) (iv v.n) (bz v.t) (sL G 0 v.l.length v.l.length)):=by
       refine⟨⟨some ⟨G,0,none⟩,v.l.length,rfl,⟨hvr.out.1,hvr.out.2.1,hvr.out.2.2,?_⟩,?_⟩,Aj (hB1.trans (hBr.mono (by omega))) (by omega) _ _ _ _⟩
       rotate_left
       ·rw[hqe] at hWr;have h1:=hWr.done (P':=From G) (by omega) (fun k hk _=>by show G<=k;have:G+1<=k:=hk;omega) (Nat.le_refl _);exact (h1.since (Ba (by show ¬(G<=w.heap.size+1);omega) _ _ _ _)).base (fun k hk _=>by show w.heap.size<=k;have:G<=k:=hk;omega)
       have h1:=hFr.done (B':=From G) (by simp;omega) (fun k hk _=>by show G<=k;have:G+1<=k:=hk;omega) (Nat.le_refl _) (by unfold maxLen;omega);rw[hqe,List.take_length] at h1;exact (h1.since (Ba (by show ¬(G<=w.heap.size+1);omega) _ _ _ _)).base (fun k hk _=>by show w.heap.size<=k;have:G<=k:=hk;omega)
      clear hround hr HR hFr hWr hqe;go_wp2_with fail;exact bodyPost_ret (v:=.agg #[iv v.k,iv v.n,bz v.t,sL G 0 v.l.length v.l.length]) (by simp[results,Tryz.results32,go_sem,hz,r0,r1,r2,r3]) rfl hfin
def cutA(a:Option Addr)(lo cap:Nat):Option Addr:=if cap=lo then a else a.map (·.add (lo*4))
theorem Wz(wx:World):(sizeOf (Tryz.prog.elem 22)).run Tryz.prog wx=.ok 4 wx:=by kernel_rfl
theorem W0:Tryz.prog.underlying 22=some (.slice (Tryz.prog.elem 22)):=by kernel_rfl
theorem F5(a:Option Addr)(len cap hi:Nat)(h:hi<=cap)(wx:World) :
  (Instr.slice 22 (.slice a len cap) none (some (iv (hi:Int))) none).run Tryz.prog wx=.ok (.slice a hi cap) wx:=by
 rw[run_slice_h (P:=Tryz.prog) wx 22 a len cap W0 .i64 hi (by omega) (by omega),Wz];cases a <;> simp[Result.andThen,sliced,Addr.add]
theorem Hv(a:Option Addr)(len cap lo:Nat)(h1:lo<=len)(wx:World) :
  (Instr.slice 22 (.slice a len cap) (some (iv (lo:Int))) none none).run Tryz.prog wx=.ok (.slice (cutA a lo cap) (len - lo) (cap - lo)) wx:=by
 rw[run_slice_l (P:=Tryz.prog) wx 22 a len cap W0 .i64 lo (by omega) (by omega),Wz];rfl
theorem Al.take{B:Nat->Prop}{w:World}{l:List V}{ao:Option Addr}{n cap:Nat}(h:Al B w l (.slice ao n cap)){q:Nat}(hq:q<=l.length):Al B w (l.take q) (.slice ao q cap):=by
 obtain⟨row,⟨h1,h2⟩,h3⟩:=h;have e:(l.take q).length=q:=by simp;omega
 have hall:=h3;rw[<-List.take_append_drop q l] at hall;obtain⟨r1,r2,hr,k1,k2⟩:=An.split hall;have hr1:=k1.len;rw[e] at hr1;refine⟨r1,⟨by rw[e];exact hr1,?_⟩,k1⟩;rcases h2 with⟨e0 | ⟨a0,cap0,e0,hcm⟩,h0⟩ | ⟨g,o,cap',e0,c1,c2,hB,hg,hc⟩
 ·simp only[Value.slice.injEq] at e0;obtain⟨rfl,_,rfl⟩:=e0;exact Or.inl ⟨Or.inl (by rw[show q=0 by omega]),by rw[e];omega⟩
 ·simp only[Value.slice.injEq] at e0;obtain⟨rfl,_,rfl⟩:=e0;exact Or.inl ⟨Or.inr ⟨a0,cap,by rw[show q=0 by omega],hcm⟩,by rw[e];omega⟩
 ·simp only[Value.slice.injEq] at e0;obtain⟨rfl,_,rfl⟩:=e0;exact Or.inr ⟨g,o,cap,by rw[e],by rw[e];omega,c2,hB,hg,fun j u hj=>hc j u (by rw[hr,List.getElem?_append_left (by have:=(List.getElem?_eq_some_iff.1 hj).1;omega)];exact hj)⟩
theorem Al.drop{B:Nat->Prop}{w:World}{l:List V}{ao:Option Addr}{n cap:Nat}(h:Al B w l (.slice ao n cap)){q:Nat}(hq:q<=l.length):Al B w (l.drop q) (.slice (cutA ao q cap) (l.length - q) (cap - q)):=by
 obtain⟨row,⟨h1,h2⟩,h3⟩:=h;have e:(l.drop q).length=l.length - q:=by simp
 have hall:=h3;rw[<-List.take_append_drop q l] at hall;obtain⟨r1,r2,hr,k1,k2⟩:=An.split hall;have hr1:=k1.len;have hr2:=k2.len;have e1:(l.take q).length=q:=by simp;omega
 rw[e1] at hr1;refine⟨r2,⟨hr2,?_⟩,k2⟩;rcases h2 with⟨e0 | ⟨a0,cap0,e0,hcm⟩,h0⟩ | ⟨g,o,cap',e0,c1,c2,hB,hg,hc⟩
 rotate_left
 ·simp only[Value.slice.injEq] at e0;obtain⟨rfl,_,rfl⟩:=e0;refine Or.inl ⟨Or.inr ?_,by rw[e];omega⟩;unfold cutA;rw[show l.length - q=0 by omega];split
  ·exact⟨a0,_,rfl,by omega⟩
  ·exact⟨_,_,rfl,by omega⟩
 rotate_left
 ·simp only[Value.slice.injEq] at e0;obtain⟨rfl,_,rfl⟩:=e0;refine Or.inl ⟨Or.inl ?_,by rw[e];omega⟩;unfold cutA;rw[show l.length - q=0 by omega,show 0 - q=0 by omega];split <;> rfl
 ·simp only[Value.slice.injEq] at e0;obtain⟨rfl,_,rfl⟩:=e0;unfold cutA;by_cases hcap:cap=q
  ·rw[if_pos hcap];refine Or.inr ⟨g,o,cap - q,by rw[e],by rw[e];omega,by omega,hB,hg,fun j u hj=>?_⟩;have:=(List.getElem?_eq_some_iff.1 hj).1;omega
  ·rw[if_neg hcap];refine Or.inr ⟨g,o+q*4,cap - q,?_,by rw[e];omega,by omega,hB,hg,fun j u hj=>?_⟩
   ·rw[e];by_cases h0:q=0
    ·simp[Addr.add,h0]
    ·have:¬q*4=0:=by omega
     simp[Addr.add,this]
   ·have:=hc (q*4+j) u (by rw[hr,List.getElem?_append_right (by omega),hr1];simpa using hj);rw[Nat.add_assoc];exact this
theorem E4{B:Nat->Prop}{v:V}{ao ax:Option Addr}{cap cx f t:Nat}{xs:List V}{w:World}(hv:IsW B w v (.slice ao v.l.length cap))(hx:Al B w xs (.slice ax xs.length cx))(hf:f<=v.l.length)(ht:t<=v.l.length)(hsum:(spl v.l f t xs).length<=1000000) :
  Calls Tryz.prog 97 #[.agg #[iv v.k,iv v.n,bz v.t,.slice ao v.l.length cap],iv f,iv t,.slice ax xs.length cx] w fun r w'=>(∃ao' cap',r=.returned (.agg #[iv v.k,iv v.n,bz v.t,.slice ao' (spl v.l f t xs).length cap'])∧Al (Up B w.heap.size) w' (spl v.l f t xs) (.slice ao' (spl v.l f t xs).length cap'))∧Below w.heap.size w w':=by
 obtain⟨ao',cap',e,c1,c2⟩:=hv.vs.slice;simp only[Value.slice.injEq] at e;obtain⟨rfl,-,rfl⟩:=e;obtain⟨w0,hW,hb0,hsz,d0,d1,d2,d3⟩:=Aw w v (.slice ao v.l.length cap);obtain⟨w1,hW1,hb1,hsz1,hr⟩:=G5 w0;rw[hsz] at hr;have hs1:w1.heap.size=w.heap.size+2:=by omega
 have hB1:Below w.heap.size w w1:=hb0.trans (hb1.mono (by omega));obtain⟨f1,-⟩:=Ag hb1;rw[<-f1 w.heap.size _ (by omega)] at d0 d1 d2 d3;clear f1 hsz1;have q1:=F5 ao v.l.length cap f (by omega);have q2:=Hv ao v.l.length cap t ht;have hbox1:w1.heap[w.heap.size]?=some (.cells #[iv v.k,iv v.n,bz v.t,.slice ao v.l.length cap] 31):=by
  rw[hb1.block _ (by omega),<-hW];exact Ai _ _
 obtain⟨wa,hWa⟩:∃wa,w1.alloc (.cells #[.slice ao f cap,.slice ax xs.length cx,.slice (cutA ao t cap) (v.l.length - t) (cap - t)] 22)=wa:=⟨_,rfl⟩;have hba:Below w1.heap.size w1 wa:=by rw[<-hWa];exact (Below.refl _ _).alloc (Nat.le_refl _) _
 have hblk:wa.heap[w.heap.size+2]?=some (.cells #[.slice ao f cap,.slice ax xs.length cx,.slice (cutA ao t cap) (v.l.length - t) (cap - t)] 22):=by rw[<-hWa,<-hs1];exact Ai _ _
 have hsa:wa.heap.size=w.heap.size+3:=by rw[<-hWa];simp[hs1]
 have hBa:Below w.heap.size w wa:=hB1.trans (hba.mono hB1.size);have hL:∀w2,Below wa.heap.size wa w2->Calls Tryz.prog 66 #[sL (w.heap.size+2) 0 3 3] w2 fun r w'=>(∃ao' cap',r=.returned (.slice ao' (spl v.l f t xs).length cap')∧Al (fun k=>(B k∧k<w.heap.size)∨wa.heap.size<=k) w' (spl v.l f t xs) (.slice ao' (spl v.l f t xs).length cap'))∧Below w2.heap.size w2 w':=by
  intro w2 hb2;have hblk2:=(hb2.block _ (by omega)).trans hblk;have e1:(v.l.take f).length=f:=by simp;omega
  have e2:(v.l.drop t).length=v.l.length - t:=by simp
  have hbw:Below w.heap.size w w2:=hBa.trans (hb2.mono hBa.size);have hC:=Nu (B:=Lob B w.heap.size) (L:=fun q=>match q with | 0=>v.l.take f | 1=>xs | _=>v.l.drop t) (a:=fun q=>match q with | 0=>ao | 1=>ax | _=>cutA ao t cap) (c:=fun q=>match q with | 0=>cap | 1=>cx | _=>cap - t) (g0:=w.heap.size+2) (w:=w2) ?_ (by have:=hb2.size;omega) ?_ (by simpa [A5,spl] using hsum)
  ·have hcat:A5 (fun q=>match q with | 0=>v.l.take f | 1=>xs | _=>v.l.drop t) 3=spl v.l f t xs:=by simp[A5,spl]
   rw[hcat] at hC;refine hC.mono fun e w' h=>?_
   obtain⟨⟨x,y,h1,h2⟩,h3⟩:=h;refine⟨⟨x,y,h1,h2.base fun k hk _=>?_⟩,h3⟩;rcases hk with hk | hk
   ·exact Or.inl hk.1
   ·exact Or.inr (by have:=hb2.size;omega)
  ·intro q hq;rw[cell_block hblk2];have:q=0∨q=1∨q=2:=by omega
   rcases this with rfl | rfl | rfl
   ·simp[e1]
   ·simp
   ·simp
  ·intro q hq;have:q=0∨q=1∨q=2:=by omega
   rcases this with rfl | rfl | rfl
   ·have:=((hv.vs.base (B':=Lob B w.heap.size) (fun k h1 h2=>⟨h1,h2⟩)).below hbw).take hf;simp only[e1];exact this
   ·exact (hx.base (B':=Lob B w.heap.size) (fun k h1 h2=>⟨h1,h2⟩)).below hbw
   ·have:=((hv.vs.base (B':=Lob B w.heap.size) (fun k h1 h2=>⟨h1,h2⟩)).below hbw).drop ht;simp only[e2];exact this
 have ka3:wa.cell? ⟨w.heap.size,3,none⟩=some (.slice ao v.l.length cap):=((Ag hba).1 _ _ (by omega)).trans d3;clear hv hx;go_enter Tryz.func97,Tryz.ntmps97;go_wp2_with fail;refine wpE_begin (S:=fun w'=>w'.cell? ⟨w.heap.size,3,none⟩=some (.slice ao v.l.length cap)) (N:=fun j=>decide (j<12)) (by kernel_rfl) ?_;have hS0:w1.drew.cell? ⟨w.heap.size,3,none⟩=some (.slice ao v.l.length cap):=d3;refine B1 (W:=fun j=>[1,3,9,10,12].contains j) (i:=0) (v:=pt w.heap.size 3) rfl (by kernel_rfl) (by kernel_rfl) (by kernel_rfl) (by kernel_rfl) (fun j hj=>by simp at hj;show j<13;omega) (fun _ _ _ h=>h) rfl (fun w' hS=>by go_simp) hS0 ?_
 try simp only[aP]
 refine B1 (W:=fun j=>[3,9,10,12].contains j) (i:=1) (v:=.slice ao v.l.length cap) rfl (by kernel_rfl) (by kernel_rfl) (by kernel_rfl) (by kernel_rfl) (fun j hj=>by simp at hj;show j<13;omega) (fun _ _ _ h=>h) rfl (fun w' hS=>by go_simp) hS0 ?_
 try simp only[aP]
 refine B1 (W:=fun j=>[3,9,10,12].contains j) (i:=2) (v:=iv f) rfl (by kernel_rfl) (by kernel_rfl) (by kernel_rfl) (by kernel_rfl) (fun j hj=>by simp at hj;show j<13;omega) (fun _ _ _ h=>h) rfl (fun w' hS=>by go_simp) hS0 ?_
 try simp only[aP]
 refine B1 (W:=fun j=>[9,10,12].contains j) (i:=3) (v:=.slice ao f cap) rfl (by kernel_rfl) (by kernel_rfl) (by kernel_rfl) (by kernel_rfl) (fun j hj=>by simp at hj;show j<13;omega) (fun _ _ _ h=>h) rfl (fun w' hS=>by go_simp) hS0 ?_
 try simp only[aP]
 refine B1 (W:=fun j=>[9,10,12].contains j) (i:=4) (v:=.slice ax xs.length cx) rfl (by kernel_rfl) (by kernel_rfl) (by kernel_rfl) (by kernel_rfl) (fun j hj=>by simp at hj;show j<13;omega) (fun _ _ _ h=>h) rfl (fun w' hS=>by go_simp) hS0 ?_
 try simp only[aP]
 refine B1 (W:=fun j=>[6,8,9,10,12].contains j) (i:=5) (v:=pt w.heap.size 3) rfl (by kernel_rfl) (by kernel_rfl) (by kernel_rfl) (by kernel_rfl) (fun j hj=>by simp at hj;show j<13;omega) (fun _ _ _ h=>h) rfl (fun w' hS=>by go_simp) hS0 ?_
 try simp only[aP]
 refine B1 (W:=fun j=>[8,9,10,12].contains j) (i:=6) (v:=.slice ao v.l.length cap) rfl (by kernel_rfl) (by kernel_rfl) (by kernel_rfl) (by kernel_rfl) (fun j hj=>by simp at hj;show j<13;omega) (fun _ _ _ h=>h) rfl (fun w' hS=>by go_simp) hS0 ?_
 try simp only[aP]
 refine B1 (W:=fun j=>[8,9,10,12].contains j) (i:=7) (v:=iv t) rfl (by kernel_rfl) (by kernel_rfl) (by kernel_rfl) (by kernel_rfl) (fun j hj=>by simp at hj;show j<13;omega) (fun _ _ _ h=>h) rfl (fun w' hS=>by go_simp) hS0 ?_
 try simp only[aP]
 refine B1 (W:=fun j=>[9,10,12].contains j) (i:=8) (v:=.slice (cutA ao t cap) (v.l.length - t) (cap - t)) rfl (by kernel_rfl) (by kernel_rfl) (by kernel_rfl) (by kernel_rfl) (fun j hj=>by simp at hj;show j<13;omega) (fun _ _ _ h=>h) rfl (fun w' hS=>by go_simp) hS0 ?_
 try simp only[aP]
 refine Ac (i:=9) (by kernel_rfl) rfl rfl (fun K hK=>?_);go_simp;refine hK _ _ (fun _=>ka3) ?_;clear hK K
 try simp only[aP]
 refine Ac (i:=10) (by kernel_rfl) rfl rfl (fun K hK=>?_);go_simp;refine (hL _ (Below.refl _ _).drew).mono ?_;rintro e w5 ⟨⟨a5,c5,rfl,h5⟩,hb5⟩;replace hb5:Below wa.heap.size wa w5:=Ad hb5;have k5:w5.heap[w.heap.size]?=some (.cells #[iv v.k,iv v.n,bz v.t,.slice ao v.l.length cap] 31):=(hb5.block _ (by omega)).trans ((hba.block _ (by omega)).trans hbox1);obtain⟨b0,b1,b2,b3,z0,z1,z2,z3⟩:=Aa k5;refine hK _ _ (fun _=>b3) ?_;clear hK K
 try simp only[aP]
 refine Ac (i:=11) (by kernel_rfl) rfl rfl (fun K hK=>?_);go_simp;refine hK _ _ (fun _=>b3) ?_;clear hK K
 try simp only[aP]
 refine Ac (i:=12) (by kernel_rfl) rfl rfl (fun K hK=>?_);go_simp;refine hK _ _ (fun h=>by cases h) ?_;clear hK K
 try simp only[aP]
 refine Am (by kernel_rfl) ?_;have hw1:Below w1.heap.size w1 w5:=hba.trans (hb5.mono hba.size);have hBw5:Below w.heap.size w w5:=hB1.trans (hw1.mono (by omega));obtain⟨r0,r1,r2,r3,s0,s1,s2,s3,hz⟩:=hr w5 hw1;have hsz5:=hb5.size;obtain⟨w6,hW6⟩:∃w6,w5.setCell ⟨w.heap.size,3,none⟩ (.slice a5 (spl v.l f t xs).length c5)=w6:=⟨_,rfl⟩;have k6:w6.heap[w.heap.size]?=some (.cells #[iv v.k,iv v.n,bz v.t,.slice a5 (spl v.l f t xs).length c5] 31):=by rw[<-hW6];exact E2 k5 _
 have hB6:Below w.heap.size w w6:=by rw[<-hW6];exact hBw5.setCell (p:=⟨w.heap.size,3,none⟩) (Nat.le_refl _) _
 have hs6:w6.heap.size=w5.heap.size:=by rw[<-hW6];simp[World.setCell]
 have ho6:∀k,k≠w.heap.size->w6.heap[k]?=w5.heap[k]?:=fun k hk=>by rw[<-hW6];exact Below.heap_setCell _ _ _ _ hk
 have hc6:∀o,w6.cell? ⟨w.heap.size+1,o,none⟩=w5.cell? ⟨w.heap.size+1,o,none⟩:=fun o=>World.cell?_of_block (ho6 (w.heap.size+1) (by omega))
 have hf6:∀o,w6.frozen? ⟨w.heap.size+1,o,none⟩=w5.frozen? ⟨w.heap.size+1,o,none⟩:=fun o=>World.frozen?_of_block (ho6 (w.heap.size+1) (by omega))
 rw[<-hc6] at r0 r1 r2 r3;rw[<-hf6] at s0 s1 s2 s3;have h6:Al (fun k=>(B k∧k<w.heap.size)∨wa.heap.size<=k) w6 (spl v.l f t xs) (.slice a5 (spl v.l f t xs).length c5):=h5.since ⟨by omega,fun k h1 _=>ho6 k (by omega)⟩;obtain⟨q0,q1',q2',q3,-⟩:=Aa k6;have hz6:w.heap.size+1<w6.heap.size:=by omega
 have hfin:Al (Up B w.heap.size) (Cx w6 (w.heap.size+1) (iv v.k) (iv v.n) (bz v.t) (.slice a5 (spl v.l f t xs).length c5)) (spl v.l f t xs) (.slice a5 (spl v.l f t xs).length c5):=(h6.since (Ba (by show ¬((B (w.heap.size+1)∧w.heap.size+1<w.heap.size)∨wa.heap.size<=w.heap.size+1);omega) _ _ _ _)).base (fun k hk _=>by
  rcases hk with hk | hk
  ·exact Or.inl hk
  ·exact Or.inr (by omega))
 rw[hW6];clear hr h5 h6 hL q1 q2 b0 b1 b2 b3 z0 z1 z2 z3 k5 hc6 hf6 ho6 hW6;simp only[Exit.then];refine ‹∀(a:Act) (w:World),_->_› _ _ ?_;go_wp2_with fail;exact bodyPost_ret (v:=.agg #[iv v.k,iv v.n,bz v.t,.slice a5 (spl v.l f t xs).length c5]) (by simp[results,Tryz.results97,go_sem,hz6,r0,r1,r2,r3]) rfl ⟨⟨a5,c5,rfl,hfin⟩,Aj hB6 (by omega) _ _ _ _⟩
end
section
open Go.RowKit
def Gv(P:Nat->Prop)(w:World)(sl:Value)(acc:List V):Prop:=∃row,w.ownsRow 0 31 4 sl acc.length row∧(∀k,sl.ownBlock=some k->P k)∧An (fun k=>P k∧sl.ownBlock≠some k) w acc row
theorem Gv.nil(P:Nat->Prop)(w:World):Gv P w sZ []:=⟨[],⟨rfl,Or.inl ⟨rfl,rfl⟩⟩,fun k h=>by simp[Value.ownBlock] at h,by rw[An]⟩
theorem Gv.since{P:Nat->Prop}{w w':World}{sl:Value}{acc:List V}(h:Gv P w sl acc)(s:Since P w w'):Gv P w' sl acc:=by
 obtain⟨row,h1,h0,h2⟩:=h;refine⟨row,⟨h1.1,?_⟩,h0,h2.since (s.mono (fun k hk=>hk.1))⟩;rcases h1.2 with h3 | ⟨g,cap,cur,h3,h4,h5,h6⟩
 ·exact Or.inl h3
 ·exact Or.inr ⟨g,cap,cur,h3,h4,by rw[s.block g (h0 g (by rw[h3];rfl)) (Array.getElem?_eq_some_iff.1 h5).1];exact h5,h6⟩
theorem Gv.below{P:Nat->Prop}{w w':World}{sl:Value}{acc:List V}(h:Gv P w sl acc)(hb:Below w.heap.size w w'):Gv P w' sl acc:=h.since (Since.of_below hb)
theorem Gv.slice{P:Nat->Prop}{w:World}{sl:Value}{acc:List V}(h:Gv P w sl acc):∃ao cap,sl=.slice ao acc.length cap∧acc.length<=cap∧cap<=9223372036854775807:=by
 obtain⟨row,h1,_⟩:=h;obtain⟨ao,cap,e,a,b⟩:=Ds h1;exact⟨ao,cap,e,a,by unfold maxLen at b;omega⟩
theorem Gv.vs{P:Nat->Prop}{w:World}{sl:Value}{acc:List V}(h:Gv P w sl acc):Al P w acc sl:=by
 obtain⟨row,h1,h0,h2⟩:=h;refine⟨row,⟨h1.1,?_⟩,h2.base (fun k hk _=>hk.1)⟩;rcases h1.2 with⟨h3,h4⟩ | ⟨g,cap,cur,h3,h4,h5,h6,h7,h8,h9⟩
 ·exact Or.inl ⟨Or.inl h3,h4⟩
 ·refine Or.inr ⟨g,0,cap,h3,h6,h7,h0 g (by rw[h3];rfl),(Array.getElem?_eq_some_iff.1 h5).1,fun j u hj=>?_⟩;rw[cell_block h5,Nat.zero_add];rw[<-h9,List.getElem?_take] at hj;split at hj
  ·simpa using hj
  ·cases hj
theorem Gv.apart{P:Nat->Prop}{w:World}{sl:Value}{acc:List V}(h:Gv P w sl acc){k:Nat}(hk:w.heap.size<=k):sl.ownBlock≠some k:=by
 obtain⟨row,h1,_⟩:=h;intro e;have:=(h1.lt k e).2;omega
theorem Gv.base{P P':Nat->Prop}{w:World}{sl:Value}{acc:List V}(h:Gv P w sl acc)(hb:∀k,P k->k<w.heap.size->P' k):Gv P' w sl acc:=by
 obtain⟨row,h1,h0,h2⟩:=h;exact⟨row,h1,fun k hk=>hb k (h0 k hk) (h1.lt k hk).2,h2.base (fun k hk hl=>⟨hb k hk.1 hl,hk.2⟩)⟩
theorem Gv.cells{P:Nat->Prop}{w:World}{ao:Option Addr}{cap n:Nat}{acc:List V}(h:Gv P w (.slice ao n cap) acc){i:Nat}(hi:i<acc.length):∃g y0 y1 y2 y3,ao=some ⟨g,0,none⟩∧P g∧g<w.heap.size∧w.cell? ⟨g,i*4,none⟩=some y0∧w.cell? ⟨g,i*4+1,none⟩=some y1∧w.cell? ⟨g,i*4+2,none⟩=some y2∧w.cell? ⟨g,i*4+3,none⟩=some y3 ∧
  w.frozen? ⟨g,i*4,none⟩=false∧w.frozen? ⟨g,i*4+1,none⟩=false∧w.frozen? ⟨g,i*4+2,none⟩=false∧w.frozen? ⟨g,i*4+3,none⟩=false:=by
 obtain⟨row,h1,h0,h2⟩:=h;rcases h1.2 with⟨e,h0⟩ | ⟨g,cap',cur,e,hb,hg,hn,_,hs,ht⟩
 ·omega
 ·simp only[Value.slice.injEq] at e;obtain⟨rfl,_,rfl⟩:=e;refine⟨g,cur[i*4]'(by omega),cur[i*4+1]'(by omega),cur[i*4+2]'(by omega),cur[i*4+3]'(by omega),rfl,h0 g rfl,(Array.getElem?_eq_some_iff.1 hg).1,?_,?_,?_,?_,A7 hg _,A7 hg _,A7 hg _,A7 hg _⟩
  all_goals (rw[cell_block hg];exact Array.getElem?_eq_getElem _)
theorem An.len_take{B:Nat->Prop}{w:World}{l:List V}{row:List Value}(h:An B w l row){i:Nat}(hi:i<=l.length):An B w (l.take i) (row.take (i*4))∧An B w (l.drop i) (row.drop (i*4)):=by
 have hall:=h;rw[<-List.take_append_drop i l] at hall;obtain⟨r1,r2,hr,k1,k2⟩:=An.split hall;have hr1:=k1.len;have e:(l.take i).length=i:=by simp;omega
 rw[e] at hr1;subst hr;rw[List.take_left' hr1,List.drop_left' hr1];exact⟨k1,k2⟩
theorem Qd(cur:Array Value)(j:Nat)(x0 x1 x2 x3:Value)(hj:j+4<=cur.size):((((cur.setIfInBounds j x0).setIfInBounds (j+1) x1).setIfInBounds (j+2) x2).setIfInBounds (j+3) x3).toList=cur.toList.take j ++ [x0,x1,x2,x3] ++ cur.toList.drop (j+4):=by
 apply List.ext_getElem?;intro k;simp only[Array.toList_setIfInBounds,List.append_assoc];by_cases hk:k<j
 ·rw[List.getElem?_append_left (by simp;omega),List.getElem?_take,if_pos hk,List.getElem?_set_ne (by omega),List.getElem?_set_ne (by omega),List.getElem?_set_ne (by omega),List.getElem?_set_ne (by omega)]
 ·have hl:(cur.toList.take j).length=j:=by simp;omega
  rw[List.getElem?_append_right (by omega),hl];by_cases hk4:k<j+4
  ·rw[List.getElem?_append_left (by simp;omega)];have hcases:k=j∨k=j+1∨k=j+2∨k=j+3:=by omega
   rcases hcases with rfl | rfl | rfl | rfl
   ·rw[List.getElem?_set_ne (by omega),List.getElem?_set_ne (by omega),List.getElem?_set_ne (by omega),List.getElem?_set_self (by simp;omega)];simp
   ·rw[List.getElem?_set_ne (by omega),List.getElem?_set_ne (by omega),List.getElem?_set_self (by simp;omega)];simp
   ·rw[List.getElem?_set_ne (by omega),List.getElem?_set_self (by simp;omega)];simp
   ·rw[List.getElem?_set_self (by simp;omega)];simp
  ·rw[List.getElem?_append_right (by simp;omega),List.getElem?_drop,List.getElem?_set_ne (by omega),List.getElem?_set_ne (by omega),List.getElem?_set_ne (by omega),List.getElem?_set_ne (by omega)];congr 1;simp;omega
theorem S9(c X:List Value)(j n:Nat)(hX:X.length=4)(h1:j+4<=n)(h2:n<=c.length):(c.take j ++ X ++ c.drop (j+4)).take n=(c.take n).take j ++ X ++ (c.take n).drop (j+4):=by
 have hl:(c.take j ++ X).length=j+4:=by simp;omega
 rw[List.take_append,hl,List.take_of_length_le (by omega),List.take_take,Nat.min_eq_left (by omega),List.drop_take]
theorem Gv.set{P:Nat->Prop}{w:World}{g cap n:Nat}{acc:List V}(h:Gv P w (sL g 0 n cap) acc){i:Nat}(hi:i<acc.length){x:V}{x0 x1 x2 x3:Value}(hx:IsV (fun k=>P k∧k≠g) w x [x0,x1,x2,x3]) :
  Gv P (set4At w g (i*4) x0 x1 x2 x3) (sL g 0 n cap) (acc.take i ++ [x] ++ acc.drop (i+1)):=by
 have hob:∀k,(sL g 0 n cap).ownBlock≠some k->k≠g:=fun k hk e=>hk (by rw[e];rfl)
 have hob':∀k,k≠g->(sL g 0 n cap).ownBlock≠some k:=fun k hk e=>hk (by simpa [Value.ownBlock] using e.symm)
 obtain⟨row,h1,hP,h2⟩:=h;have hs:Since (fun k=>P k∧(sL g 0 n cap).ownBlock≠some k) w (set4At w g (i*4) x0 x1 x2 x3):=Bi (fun h=>hob g h.2 rfl) _ _ _ _ _;have hll:(acc.take i ++ [x] ++ acc.drop (i+1)).length=acc.length:=by simp;omega
 rcases h1.2 with⟨e,h0⟩ | ⟨g',cap',cur,e,hb,hg,hn,hm,hsz,ht⟩
 ·omega
 ·simp only[Value.slice.injEq,Option.some.injEq,Addr.mk.injEq,and_true] at e;obtain⟨rfl,rfl,rfl⟩:=e;have hle:acc.length*4<=cap*4:=Nat.mul_le_mul_right _ hn;have hlist:=Qd cur (i*4) x0 x1 x2 x3 (by omega);have hrow:((((cur.setIfInBounds (i*4) x0).setIfInBounds (i*4+1) x1).setIfInBounds (i*4+2) x2).setIfInBounds (i*4+3) x3).toList.take (acc.length*4)=row.take (i*4) ++ [x0,x1,x2,x3] ++ row.drop ((i+1)*4):=by
   rw[hlist,S9 _ _ _ _ rfl (by omega) (by simp;omega),ht,show i*4+4=(i+1)*4 by omega]
  obtain⟨a1,a2⟩:=h2.len_take (i:=i) (by omega);obtain⟨b1,b2⟩:=h2.len_take (i:=i+1) (by omega);refine⟨row.take (i*4) ++ [x0,x1,x2,x3] ++ row.drop ((i+1)*4),⟨?_,Or.inr ⟨g,cap,_,by rw[hll],hb,Ax (Ax (Ax (Ax hg _ _) _ _) _ _) _ _,by omega,hm,by simp[hsz],by rw[hll];exact hrow⟩⟩,hP,((a1.since hs).append (An.one ((hx.base (fun k hk _=>⟨hk.1,hob' k hk.2⟩)).since hs))).append (b2.since hs)⟩;have:=h1.1;simp;omega
theorem Gv.push{P:Nat->Prop}{w:World}{sl:Value}{acc:List V}(h:Gv P w sl acc){l2:List V}{nrow:List Value}{ad:Addr}(hpos:0<l2.length)(hl:nrow.length=l2.length*4)(hnews:∀(j:Nat) (u:Value),nrow[j]?=some u->w.cell? (ad.add j)=some u)(hall2:An (fun k=>P k∧sl.ownBlock≠some k) w l2 nrow)(hn:acc.length+l2.length<=1000000)(hm:∀k,w.heap.size<=k->P k)(c:Nat)(ty:TypeId) :
  ∃g cap w',(Builtin.append_ #[22,22] ty #[sl,.slice (some ad) l2.length c]).run Tryz.prog w=.ok (sL g 0 (acc.length+l2.length) cap) w'∧Gv P w' (sL g 0 (acc.length+l2.length) cap) (acc ++ l2)∧(∀m,m<=w.heap.size->(∀k,P k->m<=k)->Below m w w')∧(∀k,k<w.heap.size->sl.ownBlock≠some k->w'.heap[k]?=w.heap[k]?)∧w.heap.size<=w'.heap.size:=by
 obtain⟨row,hown,hP,hall⟩:=h;obtain⟨i,hi,hz,hs,hb⟩:=Em Dh;obtain⟨g,cap,w',hr,ho,hg,hat,hlt⟩:=run_append_lies (P:=Tryz.prog) w 22 ty 0 31 i _ 4 56 Tryz.underlying22 hi hz hs hb rfl (by decide) sl acc.length row hown ad l2.length c nrow hl hnews hall2.ones hpos (by unfold maxLen;omega) (by omega) (Nat.zero_le _) _ rfl;have hne:∀k,P k∧sl.ownBlock≠some k->k<w.heap.size->k≠g:=by
  intro k hk hl he;subst he;rcases hat with h | h
  ·exact hk.2 h
  ·omega
 have hlow:∀k,(P k∧sl.ownBlock≠some k)->k<w.heap.size->P k∧(sL g 0 (acc.length+l2.length) cap).ownBlock≠some k∧(P k∧sl.ownBlock≠some k):=fun k h1 h2=>⟨h1.1,fun e=>hne k h1 h2 (by simpa [Value.ownBlock] using e.symm),h1⟩
 have hsince:Since (fun k=>P k∧(sL g 0 (acc.length+l2.length) cap).ownBlock≠some k∧(P k∧sl.ownBlock≠some k)) w w':=⟨hg.size,fun k h1 h2=>hg.block k h2 (fun e=>h1.2.2.2 e.symm)⟩;refine⟨g,cap,w',hr,⟨row ++ nrow,by simpa using ho,?_,?_⟩,fun m hm1 hm2=>(Below.refl _ _).grown hg hm1 (fun k hk=>hm2 k (hP k hk)),fun k h1 h2=>hg.block k h1 (fun e=>h2 e.symm),hg.size⟩
 ·intro k hk;have hk':g=k:=by simpa [Value.ownBlock] using hk
  rw[<-hk'];rcases hat with h | h
  ·exact hP g h
  ·exact hm g (by omega)
 ·exact (((hall.base hlow).since hsince).append ((hall2.base hlow).since hsince)).base (fun k h _=>⟨h.1,h.2.1⟩)
end
end Go.Proofs.YtnijcolomoobnaaGreatDoor
