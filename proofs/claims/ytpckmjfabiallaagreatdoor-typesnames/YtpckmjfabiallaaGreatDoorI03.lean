/- Texts of ours, joined. -/
import Derived.Test.YtpckmjfabiallaaGreatDoorI01
import Derived.Deep.RegionHeld3
import Derived.Deep.AppendLies
import Derived.Deep.CutRange
set_option linter.unusedVariables false
set_option linter.unusedSimpArgs false
set_option maxRecDepth 100000
set_option maxHeartbeats 16000000
namespace Go.Proofs.YtpckmjfabiallaaGreatDoor
variable{B':Nat->Prop}{T:TypeId}{b d f g ga ge gp j m p pl sz:Nat}{cs xs:List Value}{sl v:Value}{w w' w1:World}{x:List UInt8}
open List
open Tryz
section
open Go.RowKit
theorem Ab1(a:Value)(t:Value)(m p:Value)(w:World):(Instr.field 93 (.agg #[a,t,m,p]) 0).run prog w=.ok a w:=by kernel_rfl
theorem Wb(a:Value)(t:Value)(m p:Value)(w:World):(Instr.field 93 (.agg #[a,t,m,p]) 1).run prog w=.ok t w:=by kernel_rfl
theorem Ar5(a:Value)(t:Value)(m p:Value)(w:World):(Instr.field 93 (.agg #[a,t,m,p]) 2).run prog w=.ok m w:=by kernel_rfl
theorem Rn(a:Value)(t:Value)(m p:Value)(w:World):(Instr.field 93 (.agg #[a,t,m,p]) 3).run prog w=.ok p w:=by kernel_rfl
theorem pgiveUp_any{t:Lx.Tok}{r:List Lx.Tok}(h:Ps b ga (t :: r) w)(er:Nat) :
  AA 69 #[pt b 0,iv er] w λ e w'=>e=.panicked (Bj t.place er)/\Below w w w':=by
 have hn:=Cc h;have a3:=Rn;go_enter func69,ntmps69;go_wp2_with (go_at_call 43;refine hn.mono ?_;rintro e w1 ⟨rfl,a0⟩);exact⟨rfl,rfl,by assumption⟩
theorem Al{k:Nat}{o:Obj}(h:k<w):(w.alloc o).heap[k]?=w.heap[k]?:=((AF w w).alloc (AD _) o).block k h
abbrev tokB(t:Lx.Tok):Obj:=.cells #[iv t.kind,.string ⟨t.text.toArray⟩,iv t.num,iv t.place] 93
theorem ptake_any{t:Lx.Tok}{r:List Lx.Tok}(h:Ps b ga (t :: r) w)(hk:t.kind≠5) :
  AA 70 #[pt b 0] w λ e w'=>e=.returned (.agg #[iv t.kind,.string ⟨t.text.toArray⟩,iv t.num,iv t.place])/\Ps b ga r w'/\Fo b w w w':=by
 have hb:=h.there;have hg:=h.gl;have a9:=h.ne;have a4:=h.few;simp only[length_cons] at a4;obtain⟨o,c,c0,ab,a8,f0,x0,x1,x2,x3,a3⟩:=h.cells;replace a3:=(show Aside _ from a3 hk);obtain⟨o',c',a0,_⟩:=h.mem;have a6:w.heap[b]?=some (.cells #[sL ga o (r.length+1) c] 55 (0,0)):=by
  have:=cell_of_one a0;rw[c0] at this;simp at this;rw[a0];simp[this]
 have a7:0<r.length:=by
  match r,h.good.tail hk with
  | u :: v,_=>simp
 have aa:¬c=1:=by omega
 unfold maxLen at a8;clear h a0;go_enter func70,ntmps70;go_wp2;have a5:Fo b w w (((w.setCell b (sL ga (o+4) r.length (c - 1))).alloc (tokB t)).alloc (tokB t)):=((Fo.set 0 _).alloc (by simp[World.setCell]) _).alloc (by simp[World.setCell]) _;refine bodyPost_ret (v:=.agg #[iv t.kind,.string ⟨t.text.toArray⟩,iv t.num,iv t.place]) (by simp[results,results70,go_sem]) rfl ⟨rfl,a3.out _ ?_ a5,a5⟩;rw[Al (by simp[World.setCell];omega),Al (by simpa [World.setCell] using hb)];simp[World.setCell,Array.getElem?_modify,a6]
theorem Gw{l:List Lx.Tok}(h:Ps b ga l w)(x:Lx.B) :
  AA 106 #[pt b 0,.string ⟨x.toArray⟩] w λ e w'=>e=.returned (.bool (Px.sees (cls x) x l))/\Below w w w':=by
 obtain⟨t,r,rfl,a4⟩:=h.head;have hn:=Cc h;rw[<-Zz a4 (Am0 x)];by_cases hx:t.text=x
 .have a6:=Z3 t.text;by_cases hk:t.kind=3
  .have a0:isB x t=false:=by simp[isB,hk]
   rw[a0];have a5:((t.kind:Int) != 3)=false:=by simp;omega
   subst hx;clear hk a0 a4 h;go_enter func106,ntmps106;go_wp2_with (go_at_call 43;refine hn.mono ?_;rintro e w1 ⟨rfl,a3⟩);go_ret;exact⟨rfl,by first | exact a3.alloc a3.size _ | exact Below.alloc (by assumption) (Below.size (by assumption)) _⟩
  .have a0:isB x t=true:=by simp[isB,hk,hx]
   rw[a0];have a5:((t.kind:Int) != 3)=true:=by simp;omega
   subst hx;clear hk a0 a4 h;go_enter func106,ntmps106;go_wp2_with (go_at_call 43;refine hn.mono ?_;rintro e w1 ⟨rfl,a3⟩);go_ret;exact⟨rfl,by first | exact a3.alloc a3.size _ | exact Below.alloc (by assumption) (Below.size (by assumption)) _⟩
 .have a0:isB x t=false:=by simp[isB,hx]
  rw[a0];have a6:=Z2 hx;clear a0 a4 h;go_enter func106,ntmps106;go_wp2_with (go_at_call 43;refine hn.mono ?_;rintro e w1 ⟨rfl,a3⟩);go_ret;exact⟨rfl,by first | exact a3.alloc a3.size _ | exact Below.alloc (by assumption) (Below.size (by assumption)) _⟩
theorem Nm{l:List Lx.Tok}{x:Lx.B}(h:Ps b ga l w)(hx:x≠[])(hs:Px.sees (cls x) x l=true):∃t r,l=t :: r/\t.kind≠5:=by
 obtain⟨t,r,rfl,h1,_⟩:=Px.sees_head hs;exact⟨t,r,rfl,by have:=Am1 hx;omega⟩
theorem Ay{l:List Lx.Tok}(h:Ps b ga l w)(x:Lx.B)(hx:x≠[])(hs:Px.sees (cls x) x l=true) :
  AA 68 #[pt b 0,.string ⟨x.toArray⟩] w λ e w'=>e=.returned (.bool true)/\Ps b ga l.tail w'/\Fo b w w w':=by
 have hi:=Gw h x;rw[hs] at hi;obtain⟨t,r,rfl,hk⟩:=Nm h hx hs;clear hs hx;go_enter func68,ntmps68;go_wp2_with fail;refine hi.mono ?_;rintro e w1 ⟨rfl,a0⟩;have h1:=h.below a0;go_wp2_with fail;refine (ptake_any h1 hk).mono ?_;rintro e w2 ⟨rfl,h2,a3⟩;go_wp2;go_ret;exact⟨rfl,h2,(AU a0).call a3 a0.size⟩
theorem A7{l:List Lx.Tok}(h:Ps b ga l w)(x:Lx.B)(hs:Px.sees (cls x) x l=false) :
  AA 68 #[pt b 0,.string ⟨x.toArray⟩] w λ e w'=>e=.returned (.bool false)/\Ps b ga l w'/\Below w w w':=by
 have hi:=Gw h x;rw[hs] at hi;clear hs;go_enter func68,ntmps68;go_wp2_with fail;refine hi.mono ?_;rintro e w1 ⟨rfl,a0⟩;have h1:=h.below a0;go_wp2;go_ret;exact⟨rfl,h1,a0⟩
theorem Xx{l:List Lx.Tok}(h:Ps b ga l w)(x:Lx.B)(hx:x≠[])(hs:Px.sees (cls x) x l=true) :
  AA 41 #[pt b 0,.string ⟨x.toArray⟩] w λ e w'=>e=.returned (.tuple #[])/\Ps b ga l.tail w'/\Fo b w w w':=by
 have hi:=Ay h x hx hs;clear hs hx;go_enter func41,ntmps41;go_wp2_with fail;refine hi.mono ?_;rintro e w1 ⟨rfl,h1,a0⟩;go_wp2
 go_end0
 exact⟨rfl,h1,a0⟩
theorem Ab2{l:List Lx.Tok}(h:Ps b ga l w)(x:Lx.B)(hs:Px.sees (cls x) x l=false) :
  AA 41 #[pt b 0,.string ⟨x.toArray⟩] w λ e w'=>e=.panicked (Bj (Px.place l) 31)/\Fo b w w w':=by
 have hi:=A7 h x hs;obtain⟨t,r,rfl,_⟩:=h.head;clear hs;go_enter func41,ntmps41;go_wp2_with fail;refine hi.mono ?_;rintro e w1 ⟨rfl,h1,a0⟩;go_wp2_with fail;refine (pgiveUp_any h1 31).mono ?_;rintro e w2 ⟨rfl,a3⟩;exact⟨rfl,rfl,(AU a0).below a3 a0.size⟩
theorem pneed_any{l:List Lx.Tok}(h:Ps b ga l w)(k:Nat)(x:Lx.B)(hx:x≠[])(hk:cls x=k) :
  AA 41 #[pt b 0,.string ⟨x.toArray⟩] w λ e w'=>Ct b ga w (Px.needK k x l) (λ _ v _=>v=.tuple #[]) e w':=by
 subst hk;unfold Px.needK;rcases hs:Px.sees (cls x) x l with _ | _
 .refine (Ab2 h x hs).mono ?_;rintro e w1 ⟨rfl,hf⟩;exact⟨rfl,hf⟩
 .refine (Xx h x hx hs).mono ?_;rintro e w1 ⟨rfl,h1,hf⟩;exact⟨_,rfl,rfl,h1,hf⟩
theorem My(x:Lx.B):Px.reserved x=((x == [118,101,114,115,105,111,110]) || ((x == [115,116,97,116,101]) || ((x == [102,110]) || ((x == [111,110]) || ((x == [108,101,116]) || ((x == [115,101,116]) || ((x == [100,101,108]) || ((x == [105,102]) || ((x == [101,108,115,101]) || ((x == [102,111,114]) || ((x == [116,111]) || ((x == [114,101,116]) || ((x == [116,114,117,101]) || ((x == [102,97,108,115,101]) || ((x == [105,110,116]) || ((x == [98,111,111,108]) || (x == [116,101,120,116]))))))))))))))))):=by
 simp only[Px.reserved,Px.words,contains_cons,contains_nil,Bool.or_false]
theorem E0(x:Lx.B)(w:World):AA 126 #[.string ⟨x.toArray⟩] w λ r w'=>r=.returned (.bool (Px.reserved x))/\w'=w:=by
 have a0:Aside (Px.reserved x=_):=My x;go_enter func126,ntmps126;go_wp2
 all_goals
  rename_i hz hy
  first
  | exact absurd (hy.symm.trans hz) Bool.false_ne_true
  |(have h1:Px.reserved x=true:=(by rw[a0.out];simp only[hy,Bool.true_or,Bool.or_true]);go_ret;exact⟨ret_bool h1.symm,rfl⟩)
  |(have h1:Px.reserved x=false:=(by rw[a0.out];simp only[*,Bool.false_or]);go_ret;exact⟨ret_bool h1.symm,rfl⟩)
theorem Ro{l:List Lx.Tok}(h:Ps b ga l w) :
  AA 42 #[pt b 0] w λ e w'=>Ct b ga w (Px.number l) (λ n v _=>v=iv n) e w':=by
 obtain⟨t,r,rfl,_⟩:=h.head;have hn:=Cc h;have a7:=Ab1;have a3:=Ar5;simp only[Px.number];by_cases hk:t.kind=2
 .rw[if_pos hk];have a6:((t.kind:Int) != 2)=false:=by simp;omega
  have a5:t.kind≠5:=by omega
  clear hk;go_enter func42,ntmps42;go_wp2_with fail;refine hn.mono ?_;rintro e w1 ⟨rfl,a0⟩;have h1:=h.below a0;go_wp2_with fail;refine (ptake_any h1 a5).mono ?_;rintro e w2 ⟨rfl,h2,a3⟩;go_wp2;go_ret;exact⟨_,rfl,rfl,h2,(AU a0).call a3 a0.size⟩
 .rw[if_neg hk];have a6:((t.kind:Int) != 2)=true:=by simp;omega
  clear hk;go_enter func42,ntmps42;go_wp2_with fail;refine hn.mono ?_;rintro e w1 ⟨rfl,a0⟩;have h1:=h.below a0;go_wp2_with fail;refine (pgiveUp_any h1 31).mono ?_;rintro e w2 ⟨rfl,a4⟩;exact⟨rfl,rfl,(AU a0).below a4 a0.size⟩
abbrev zeroTok:Obj:=.cells #[iv 0,sE,iv 0,iv 0] 93
def Bc1(t:Lx.Tok)(v:Value):Prop:=v=.agg #[iv t.kind,.string ⟨t.text.toArray⟩,iv t.num,iv t.place]
theorem Gx{l:List Lx.Tok}(h:Ps b ga l w) :
  AA 107 #[pt b 0] w λ e w'=>Ct b ga w (Px.name l) (λ t v _=>Bc1 t v) e w':=by
 obtain⟨t,r,rfl,_⟩:=h.head;have h0:=h.alloc zeroTok;have hn:=Cc h0;have a5:Below w w (w.alloc zeroTok):=(AF _ _).alloc (AD _) _;have a8:=heap_new w zeroTok;have ah:(w.alloc zeroTok).heap.size=w.heap.size+1:=by simp
 have ad:w≠b:=by have:=h.there;omega
 have a9:w≠ga:=by have:=h.gl;omega
 simp only[Px.name];by_cases hk:t.kind=1/\Px.reserved t.text=false
 .rw[if_pos hk];obtain⟨a6,a4⟩:=hk;have af:((t.kind:Int) != 1)=false:=by simp;omega
  have ag:t.kind≠5:=by omega
  have hR:=E0 t.text;rw[a4] at hR;clear a6 a4;go_enter func107,ntmps107;go_wp2_with fail;generalize w.alloc zeroTok=w0 at *;refine hn.mono ?_;rintro e w1 ⟨rfl,a0⟩;have h1:=(h0.below a0).alloc (tokB t);have a3:Below w w (w1.alloc (tokB t)):=(a5.trans (a0.mono a5.size)).alloc (by have:=a5.size;have:=a0.size;omega) _;have ae:(w1.alloc (tokB t)).heap[w.heap.size]?=zeroTok:=by
   rw[Al (by have:=a0.size;omega),a0.block _ (by omega)];exact a8
  have ai:w.heap.size<(w1.alloc (tokB t)).heap.size:=by have:=a0.size;simp;omega
  clear hn a8 a0 h0;go_wp2_with fail;refine (hR _).mono ?_;rintro e w2 ⟨rfl,rfl⟩;generalize w1.alloc (tokB t)=w2 at *;go_wp2_with fail;refine (ptake_any h1 ag).mono ?_;rintro e w3 ⟨rfl,h3,a7⟩;have ab:w3.heap[w.heap.size]?=zeroTok:=(a7.block _ ai ad).trans ae;have aj:w<w3.heap.size:=by have:=a7.size;omega
  obtain⟨e0,e1,e2,e3,k0,k1,k2,k3⟩:=cells_of4 ab;have hf:Fo b w w w3:=(AU a3).call a7 (by omega);clear ab ae hR a7;go_wp2;exact bodyPost_ret (v:=.agg #[iv t.kind,.string ⟨t.text.toArray⟩,iv t.num,iv t.place]) (by simp[results,results107,go_sem,e0,e1,e2,e3]) rfl ⟨_,rfl,rfl,h3.set4 ad a9 _ _ _ _,hf.set4 (AD _) _ _ _ _⟩
 .rw[if_neg hk];by_cases a6:t.kind=1
  .have af:((t.kind:Int) != 1)=false:=by simp;omega
   have a4:Px.reserved t.text=true:=by
    rcases hr:Px.reserved t.text with _ | _
    .exact absurd ⟨a6,hr⟩ hk
    .rfl
   have hR:=E0 t.text;rw[a4] at hR;clear a6 a4 hk;go_enter func107,ntmps107;go_wp2_with fail;generalize w.alloc zeroTok=w0 at *;refine hn.mono ?_;rintro e w1 ⟨rfl,a0⟩;have h1:=(h0.below a0).alloc (tokB t);have a3:Below w w (w1.alloc (tokB t)):=(a5.trans (a0.mono a5.size)).alloc (by have:=a5.size;have:=a0.size;omega) _;clear hn a8 a0 h0;go_wp2_with fail;refine (hR _).mono ?_;rintro e w2 ⟨rfl,rfl⟩;generalize w1.alloc (tokB t)=w2 at *;go_wp2_with fail;refine (pgiveUp_any h1 31).mono ?_;rintro e w3 ⟨rfl,aa⟩;exact⟨rfl,rfl,(AU a3).below aa a3.size⟩
  .have af:((t.kind:Int) != 1)=true:=by simp;omega
   clear a6 hk;go_enter func107,ntmps107;go_wp2_with fail;generalize w.alloc zeroTok=w0 at *;refine hn.mono ?_;rintro e w1 ⟨rfl,a0⟩;have h1:=(h0.below a0).alloc (tokB t);have a3:Below w w (w1.alloc (tokB t)):=(a5.trans (a0.mono a5.size)).alloc (by have:=a5.size;have:=a0.size;omega) _;clear hn a8 a0 h0;go_wp2_with fail;generalize w1.alloc (tokB t)=w2 at *;refine (pgiveUp_any h1 31).mono ?_;rintro e w3 ⟨rfl,aa⟩;exact⟨rfl,rfl,(AU a3).below aa a3.size⟩
theorem pwithin_ok{l:List Lx.Tok}(h:Ps b ga l w)(d m:Nat)(hd:d<=m) :
  AA 136 #[pt b 0,iv d,iv m] w λ e w'=>e=.returned (.tuple #[])/\w'=w:=by
 have a0:¬((m:Int)<(d:Int)):=by omega
 go_enter func136,ntmps136;go_wp2
 go_end0
 exact⟨rfl,rfl⟩
theorem pwithin_bad{l:List Lx.Tok}(h:Ps b ga l w)(d m:Nat)(hd:m<d) :
  AA 136 #[pt b 0,iv d,iv m] w λ e w'=>e=.panicked (Bj (Px.place l) 32)/\Fo b w w w':=by
 obtain⟨t,r,rfl,_⟩:=h.head;have a3:((m:Int)<(d:Int)):=by omega
 go_enter func136,ntmps136;go_wp2_with fail;refine (pgiveUp_any h 32).mono ?_;rintro e w2 ⟨rfl,a0⟩;exact⟨rfl,rfl,AU a0⟩
def anyOf(ws:List Lx.B)(l:List Lx.Tok):Bool:=ws.any λ x=>Px.sees (cls x) x l
theorem T3{l:List Lx.Tok}(h:Ps b ga l w)(ws:List Lx.B)(g:Nat)(hg:g<w)(hw:ws.length<=100)(hc:∀(i:Nat) (x:Lx.B),ws[i]?=x->w.cell? ⟨g,i,none⟩=some (.string ⟨x.toArray⟩)) :
  AA 190 #[sL g 0 ws.length ws.length,.func (.func 106) #[pt b 0] #[]] w λ e w'=>(∃z:Int,e=.returned (iv z)/\decide (0<=z)=anyOf ws l)/\Below w w w':=by
 obtain⟨ans,a4⟩:∃ans,Aside (ans=anyOf ws l):=⟨_,rfl⟩;rw[<-a4.out];go_enter func190,ntmps190;go_wp2_with fail
 go_loopg [8] ws.length (λ m ix wr=>∃q:Nat,q<=ws.length/\m=ws.length - q/\ix=iv q/\Below w w wr/\Aside (ans=anyOf (ws.drop q) l))
 case atStart=>exact⟨0,AO _,rfl,rfl,AF _ _,a4⟩
 case round=>
  obtain⟨q,hq,rfl,rfl,hB,a5⟩:=hrel;by_cases hlt:q<ws.length
  .obtain⟨x,hx⟩:∃x,ws[q]?=some x:=⟨ws[q],AN hlt⟩;have a8:wr.cell? ⟨g,q,none⟩=some (.string ⟨x.toArray⟩):=(hB.cell (p:=⟨g,q,none⟩) hg).trans (hc q x hx);have a6:(q:Int)<(ws.length:Int):=by omega
   have a9:g<wr:=by have:=hB.size;omega
   have hi:=Gw (h.keep (hB.block b h.there) (hB.block ga h.gl) hB.size) x;have hd:ws.drop q=x :: ws.drop (q+1):=by
    rw[drop_eq_getElem_cons hlt];have:=AN hlt;rw[hx] at this;simp at this;rw[<-this]
   have a3:Aside (ans=(Px.sees (cls x) x l || anyOf (ws.drop (q+1)) l)):=by
    show _=_;rw[a5.out,hd];rfl
   clear a5 hd hx hc a4;rcases hs:Px.sees (cls x) x l with _ | _
   .rw[hs] at hi;have a0:Aside (ans=anyOf (ws.drop (q+1)) l):=by
     show _=_;rw[a3.out,hs,Bool.false_or]
    clear a3 hs;go_wp2_with fail;refine hi.mono ?_;rintro e w2 ⟨rfl,a7⟩;go_wp2_with fail;go_roundg (ws.length - (q+1))
    case measure=>omega
    case rel=>exact⟨q+1,by omega,rfl,by go_num,hB.trans (a7.mono hB.size),a0⟩
   .rw[hs] at hi;have a0:Aside (ans=true):=by
     show _=_;rw[a3.out,hs,Bool.true_or]
    clear a3 hs;go_wp2_with fail;refine hi.mono ?_;rintro e w2 ⟨rfl,a7⟩;go_wp2;go_ret;exact⟨⟨_,rfl,by rw[a0.out];simp⟩,hB.trans (a7.mono hB.size)⟩
  .have a6:¬(q:Int)<(ws.length:Int):=by omega
   have a0:Aside (ans=false):=by
    show _=_;rw[a5.out,drop_eq_nil_of_le (by omega)];rfl
   clear a5 a4;go_wp2;go_ret;exact⟨⟨_,rfl,by rw[a0.out];rfl⟩,hB⟩
theorem Mz{l:List Lx.Tok}(h:Ps b ga l w)(ws:List Lx.B)(g:Nat)(hg:g<w)(hw:ws.length<=100)(hc:∀(i:Nat) (x:Lx.B),ws[i]?=x->w.cell? ⟨g,i,none⟩=some (.string ⟨x.toArray⟩)) :
  AA 161 #[sL g 0 ws.length ws.length,.func (.func 106) #[pt b 0] #[]] w λ e w'=>e=.returned (.bool (anyOf ws l))/\Below w w w':=by
 have hi:=T3 h ws g hg hw hc;clear hc h;go_enter func161,ntmps161;go_wp2_with fail;refine hi.mono ?_;rintro e w1 ⟨⟨z,rfl,hz⟩,a0⟩;replace hz:=(show Aside _ from hz);go_wp2;go_ret;exact⟨ret_bool (by rw[<-hz.out]),a0⟩
def oneOf(ws:List Lx.B)(l:List Lx.Tok):Px.R Lx.B:=
 match l with
 | t :: r=>if anyOf ws l then .inl (t.text,r) else Px.fail 31 l
 | []=>Px.fail 31 l
theorem Ld{l:List Lx.Tok}(h:Ps b ga l w)(ws:List Lx.B)(a3:∀x∈ws,x≠[])(g:Nat)(hg:g<w)(hw:ws.length<=100)(hc:∀(i:Nat) (x:Lx.B),ws[i]?=x->w.cell? ⟨g,i,none⟩=some (.string ⟨x.toArray⟩)) :
  AA 137 #[pt b 0,sL g 0 ws.length ws.length] w λ e w'=>Ct b ga w (oneOf ws l) (λ x v _=>v=.string ⟨x.toArray⟩) e w':=by
 have hi:=Mz h ws g hg hw hc;obtain⟨t,r,rfl,_⟩:=h.head;have a8:=Wb;have a7:∀(fn:Fn) (first cap:Array Value) (w:World),(Instr.makeFunc fn first cap).run prog w=.ok (.func fn first cap) w:=λ _ _ _ _=>rfl
 simp only[oneOf];rcases ha:anyOf ws (t :: r) with _ | _
 .rw[ha] at hi;clear ha hc;go_enter func137,ntmps137;go_wp2_with fail;refine hi.mono ?_;rintro e w1 ⟨rfl,a0⟩;have h1:=h.below a0;go_wp2_with fail;refine (pgiveUp_any h1 31).mono ?_;rintro e w2 ⟨rfl,a5⟩;exact⟨rfl,rfl,(AU a0).below a5 a0.size⟩
 .rw[ha] at hi;have a4:t.kind≠5:=by
   obtain⟨x,hx,hs⟩:=any_eq_true.1 ha;obtain⟨t',r',he,hk⟩:=Nm h (a3 x hx) hs;simp at he;rw[he.1];exact hk
  clear ha hc a3;go_enter func137,ntmps137;go_wp2_with fail;refine hi.mono ?_;rintro e w1 ⟨rfl,a0⟩;have h1:=h.below a0;go_wp2_with fail;refine (ptake_any h1 a4).mono ?_;rintro e w2 ⟨rfl,h2,a6⟩;go_wp2;go_ret;exact⟨_,rfl,rfl,h2,(AU a0).call a6 a0.size⟩
theorem Np{k k':Nat}{x y:Lx.B}{l:List Lx.Tok}(h:Px.sees k x l=true)(hk:k'≠k):Px.sees k' y l=false:=by
 obtain⟨t,r,rfl,h1,_⟩:=Px.sees_head h;simp[Px.sees];intro h2;omega
theorem Xz{k k':Nat}{x y:Lx.B}{l:List Lx.Tok}(h:Px.sees k x l=true)(hk:y≠x):Px.sees k' y l=false:=by
 obtain⟨t,r,rfl,_,h1⟩:=Px.sees_head h;simp[Px.sees];intro _ h2;exact hk (h2.symm.trans h1)
theorem E8{k:Nat}{x:Lx.B}{t:Lx.Tok}{r:List Lx.Tok}(h:Px.sees k x (t :: r)=true):t.text=x:=by
 obtain⟨t',r',he,_,h1⟩:=Px.sees_head h;simp at he;rw[he.1];exact h1
theorem Au5(l:List Lx.Tok):Px.key l=oneOf [[105,110,116],[116,101,120,116]] l:=by
 match l with
 | []=>rfl
 | t :: r=>
  show (if Px.sees 1 [105,110,116] (t :: r) then _ else if Px.sees 1 [116,101,120,116] (t :: r) then _ else _)=if anyOf [[105,110,116],[116,101,120,116]] (t :: r) then _ else _
  have ha:anyOf [[105,110,116],[116,101,120,116]] (t :: r)=(Px.sees 1 [105,110,116] (t :: r) || (Px.sees 1 [116,101,120,116] (t :: r) || false)):=rfl;rw[ha];rcases h1:Px.sees 1 [105,110,116] (t :: r) with _ | _
  .rcases h2:Px.sees 1 [116,101,120,116] (t :: r) with _ | _
   .rfl
   .simp only[Bool.false_eq_true,if_false,if_true,Bool.or_false,Bool.or_true,E8 h2,tail_cons]
  .simp only[if_true,Bool.true_or,E8 h1,tail_cons]
theorem Ab5(k:Nat)(l:List Lx.Tok):Px.typ (k+1) l =
  if Px.sees 4 [91] l then Px.bind (Px.typ k l.tail) λ t l1=>Px.bind (Px.need [93] l1) λ _ l2=>.inl ([91] ++ t ++ [93],l2)
  else if Px.sees 4 [123] l then Px.bind (oneOf [[105,110,116],[116,101,120,116]] l.tail) λ a l1=>Px.bind (Px.need [58] l1) λ _ l2=>Px.bind (Px.typ k l2) λ t l3=>Px.bind (Px.need [125] l3) λ _ l4=>.inl ([123] ++ a ++ [58] ++ t ++ [125],l4)
  else oneOf [[105,110,116],[98,111,111,108],[116,101,120,116]] l:=by
 simp only[Px.typ,<-Au5];rcases h4:Px.sees 4 [91] l with _ | _
 .rcases h5:Px.sees 4 [123] l with _ | _
  .simp only[Bool.false_eq_true,if_false]
   match l,h4,h5 with
   | [],_,_=>rfl
   | t :: r,_,_=>
    have ha:anyOf [[105,110,116],[98,111,111,108],[116,101,120,116]] (t :: r)=(Px.sees 1 [105,110,116] (t :: r) || (Px.sees 1 [98,111,111,108] (t :: r) || (Px.sees 1 [116,101,120,116] (t :: r) || false))):=rfl;simp only[oneOf,ha];rcases h1:Px.sees 1 [105,110,116] (t :: r) with _ | _
    .rcases h2:Px.sees 1 [98,111,111,108] (t :: r) with _ | _
     .rcases h3:Px.sees 1 [116,101,120,116] (t :: r) with _ | _
      .rfl
      .simp only[Bool.false_eq_true,if_false,if_true,Bool.or_false,Bool.or_true,E8 h3,tail_cons]
     .simp only[Bool.false_eq_true,if_false,if_true,Bool.false_or,Bool.true_or,E8 h2,tail_cons]
    .simp only[if_true,Bool.true_or,E8 h1,tail_cons]
  .simp only[Np h5 (k':=1) (by decide),Bool.false_eq_true,if_false,if_true]
 .simp only[Np h4 (k':=1) (by decide),Bool.false_eq_true,if_false,if_true]
theorem I7{ws:List Lx.B}{n:Nat}(hw:∀x∈ws,x.length<=n){l l':List Lx.Tok}{x:Lx.B}(h:oneOf ws l=.inl (x,l')):x.length<=n:=by
 match l,h with
 | [],h=>simp[oneOf,Px.fail] at h
 | t :: r,h=>
  simp only[oneOf] at h;split at h
  .rename_i ha;obtain⟨y,hy,hs⟩:=any_eq_true.1 ha;simp at h;rw[<-h.1,E8 hs];exact hw y hy
  .simp[Px.fail] at h
theorem Ke:∀(k:Nat) (l l':List Lx.Tok) (x:Lx.B),Px.typ k l=.inl (x,l')->x.length<=4+7*k
 | 0,l,l',x,h=>by simp[Px.typ,Px.fail] at h
 | k+1,l,l',x,h=>by
  rw[Ab5] at h;split at h
  .rcases h1:Px.typ k l.tail with⟨t,l1⟩ | f
   .rw[h1] at h;simp only[Px.bind] at h;rcases h2:Px.need [93] l1 with⟨u,l2⟩ | f
    .rw[h2] at h;simp at h;have:=Ke k _ _ _ h1;rw[<-h.1];simp;omega
    .rw[h2] at h;simp at h
   .rw[h1] at h;simp[Px.bind] at h
  .split at h
   .rcases h0:oneOf [[105,110,116],[116,101,120,116]] l.tail with⟨a,l1⟩ | f
    .rw[h0] at h;simp only[Px.bind] at h;have ha:=I7 (n:=4) (by decide) h0;rcases h2:Px.need [58] l1 with⟨u,l2⟩ | f
     .rw[h2] at h;simp only at h;rcases h1:Px.typ k l2 with⟨t,l3⟩ | f
      .rw[h1] at h;simp only at h;rcases h3:Px.need [125] l3 with⟨u,l4⟩ | f
       .rw[h3] at h;simp at h;have:=Ke k _ _ _ h1;rw[<-h.1];simp;omega
       .rw[h3] at h;simp at h
      .rw[h1] at h;simp at h
     .rw[h2] at h;simp at h
    .rw[h0] at h;simp[Px.bind] at h
   .have:=I7 (n:=4) (by decide) h;omega
theorem X0(a c:AQ):(⟨a.toArray⟩ ++ ⟨c.toArray⟩:ByteArray)=⟨(a ++ c).toArray⟩:=Fg (by rw[ByteArray.data_append];simp)
theorem Ay9(x y:Lx.B):Value.string (⟨#[123]⟩ ++ ⟨x.toArray⟩ ++ ⟨#[58]⟩ ++ ⟨y.toArray⟩ ++ ⟨#[125]⟩)=.string ⟨([123] ++ x ++ [58] ++ y ++ [125]).toArray⟩:=by rw[<-X0,<-X0,<-X0,<-X0]
theorem Az0(y:Lx.B):Value.string (⟨#[91]⟩ ++ ⟨y.toArray⟩ ++ ⟨#[93]⟩)=.string ⟨([91] ++ y ++ [93]).toArray⟩:=by rw[<-X0,<-X0]
abbrev T4(ws:List Lx.B):Obj:=.cells (ws.map λ x=>Value.string ⟨x.toArray⟩).toArray 9
theorem Nq{ws:List Lx.B}(h:w.heap[g]?=some (T4 ws)):∀(i:Nat) (x:Lx.B),ws[i]?=x->w.cell? ⟨g,i,none⟩=some (.string ⟨x.toArray⟩):=by
 intro i x hx;simp[World.cell?,h,hx]
def Pj(k:Nat):Prop:=∀(d b ga:Nat) (l:List Lx.Tok) (w:World),d+k=5->Ps b ga l w->AA 108 #[pt b 0,iv d] w λ e w'=>Ct b ga w (Px.typ k l) (λ x v _=>v=.string ⟨x.toArray⟩) e w'
theorem T5:Pj 0:=by
 intro d b ga l w hd h;go_enter func108,ntmps108;go_wp2_with fail;refine (pwithin_bad h d 4 (by omega)).mono ?_;rintro e w1 ⟨rfl,a0⟩;exact⟨rfl,rfl,a0⟩
theorem T6(k:Nat)(IH:Pj k):Pj (k+1):=by
 intro d b ga l w hd h;obtain⟨res,a0⟩:∃res,Aside (res=Px.typ (k+1) l):=⟨_,rfl⟩;rw[<-a0.out];replace a0:Aside (res=_):=a0.out.trans (Ab5 k l);have am:(d:Int)+1<=6:=by omega
 go_enter func108,ntmps108;go_wp2_with fail;refine (pwithin_ok h d 4 (by omega)).mono ?_;rintro e w1 ⟨rfl,rfl⟩;have ag:∀(l:List Lx.Tok) (w:World),Ps b ga l w->AA 108 #[pt b 0,iv ((d:Int)+1)] w λ e w'=>Ct b ga w (Px.typ k l) (λ x v _=>v=.string ⟨x.toArray⟩) e w':=λ l w h=>IH (d+1) b ga l w (by omega) h
 rcases h4:Px.sees 4 [91] l with _ | _
 .go_wp2_with fail
  refine (A7 h [91] h4).mono ?_;rintro e w2 ⟨rfl,h2,a7⟩;rcases h5:Px.sees 4 [123] l with _ | _
  .replace a0:Aside (res=oneOf [[105,110,116],[98,111,111,108],[116,101,120,116]] l):=by
    show _=_;rw[a0.out,if_neg (by rw[h4];simp),if_neg (by rw[h5];simp)]
   go_wp2_with fail
   refine (A7 h2 [123] h5).mono ?_;rintro e w3 ⟨rfl,h3,ah⟩;have hF:Below w1 w1 (w3.alloc (T4 [[105,110,116],[98,111,111,108],[116,101,120,116]])):=(a7.trans (ah.mono a7.size)).alloc (by have:=a7.size;have:=ah.size;omega) _;have hP:=h3.alloc (T4 [[105,110,116],[98,111,111,108],[116,101,120,116]]);have hC:=Ld hP [[105,110,116],[98,111,111,108],[116,101,120,116]] (by decide) w3 (by simp) (by decide) (Nq (heap_new w3 _));clear h4 h5;go_wp2_with fail;refine (show AA 137 #[pt b 0,sL w3 0 3 3] (w3.alloc (T4 [[105,110,116],[98,111,111,108],[116,101,120,116]])) _ from hC).mono ?_;rcases hq:oneOf [[105,110,116],[98,111,111,108],[116,101,120,116]] l with⟨x,l4⟩ | ⟨a,er⟩
   .rintro e w4 ⟨v,rfl,rfl,h5,a6⟩;rw[hq] at a0;clear hq hC;go_wp2;go_ret;rw[a0.out];exact⟨_,rfl,rfl,h5,(AU hF).call a6 hF.size⟩
   .rintro e w4 ⟨rfl,a6⟩;refine⟨rfl,?_⟩;rw[a0.out,hq];exact⟨rfl,(AU hF).call a6 hF.size⟩
  .replace a0:Aside (res=Px.bind (oneOf [[105,110,116],[116,101,120,116]] l.tail) λ a l1=>Px.bind (Px.need [58] l1) λ _ l2=>Px.bind (Px.typ k l2) λ t l3=>Px.bind (Px.need [125] l3) λ _ l4=>.inl ([123] ++ a ++ [58] ++ t ++ [125],l4)):=by
    show _=_;rw[a0.out,if_neg (by rw[h4];simp),if_pos h5]
   go_wp2_with fail
   refine (Ay h2 [123] (by decide) h5).mono ?_;rintro e w3 ⟨rfl,h3,af⟩;have ae:Fo b w1 w1 w3:=(AU a7).call af a7.size;have hF:=ae.alloc ae.size (T4 [[105,110,116],[116,101,120,116]]);have hP:=h3.alloc (T4 [[105,110,116],[116,101,120,116]]);have hC:=Ld hP [[105,110,116],[116,101,120,116]] (by decide) w3 (by simp) (by decide) (Nq (heap_new w3 _));clear h4 h5;go_wp2_with fail;refine (show AA 137 #[pt b 0,sL w3 0 2 2] (w3.alloc (T4 [[105,110,116],[116,101,120,116]])) _ from hC).mono ?_;rcases hq:oneOf [[105,110,116],[116,101,120,116]] l.tail with⟨x,l4⟩ | ⟨a,er⟩
   .rintro e w4 ⟨v,rfl,rfl,h5,a6⟩;have ak:=I7 (n:=4) (by decide) hq;rw[hq] at a0;have a9:=hF.call a6 hF.size;clear hq hC a6 hF ae hP h3 af a7 h2;go_wp2_with fail;refine (pneed_any h5 4 [58] (by decide) (by decide)).mono ?_;rcases hq:Px.need [58] l4 with⟨u,l5⟩ | ⟨a,er⟩
    .rw[show Px.needK 4 [58] l4=_ from hq];rintro e w5 ⟨v,rfl,rfl,h6,ab⟩;replace a0:Aside (res=Px.bind (Px.typ k l5) λ t l3=>Px.bind (Px.need [125] l3) λ _ l4=>.inl ([123] ++ x ++ [58] ++ t ++ [125],l4)):=by
      show _=_;rw[a0.out];simp only[Px.bind,hq]
     have a8:=a9.call ab a9.size;clear hq a9 ab h5;go_wp2_with fail;refine (ag l5 w5 h6).mono ?_;rcases hq:Px.typ k l5 with⟨y,l6⟩ | ⟨a,er⟩
     .rintro e w6 ⟨v,rfl,rfl,h7,a5⟩;have ai:=Ke k _ _ _ hq;replace a0:Aside (res=Px.bind (Px.need [125] l6) λ _ l4=>.inl ([123] ++ x ++ [58] ++ y ++ [125],l4)):=by
       show _=_;rw[a0.out];simp only[Px.bind,hq]
      have a3:=a8.call a5 a8.size;clear hq a8 a5 h6;go_wp2_with fail;refine (pneed_any h7 4 [125] (by decide) (by decide)).mono ?_;rcases hq:Px.need [125] l6 with⟨u,l7⟩ | ⟨a,er⟩
      .rw[show Px.needK 4 [125] l6=_ from hq];rintro e w7 ⟨v,rfl,rfl,h8,a4⟩;replace a0:Aside (res=.inl ([123] ++ x ++ [58] ++ y ++ [125],l7)):=by
        show _=_;rw[a0.out];simp only[Px.bind,hq]
       have ad:=a3.call a4 a3.size;have al:(⟨x.toArray⟩:ByteArray).size=x.length:=by show x.toArray.size=_;simp
       have aj:(⟨y.toArray⟩:ByteArray).size=y.length:=by show y.toArray.size=_;simp
       have c0:¬9223372036854775807<1+x.length:=by omega
       have c1:¬9223372036854775807<1+x.length+1:=by omega
       have c2:¬9223372036854775807<1+x.length+1+y.length:=by omega
       have c3:¬9223372036854775807<1+x.length+1+y.length+1:=by omega
       clear hq a3 a4 h7;go_wp2;go_ret;rw[a0.out];exact⟨_,rfl,Ay9 x y,h8,ad⟩
      .rw[show Px.needK 4 [125] l6=_ from hq];rintro e w7 ⟨rfl,a4⟩;refine⟨rfl,?_⟩;rw[a0.out,hq];exact⟨rfl,a3.call a4 a3.size⟩
     .rintro e w6 ⟨rfl,a5⟩;refine⟨rfl,?_⟩;rw[a0.out,hq];exact⟨rfl,a8.call a5 a8.size⟩
    .rw[show Px.needK 4 [58] l4=_ from hq];rintro e w5 ⟨rfl,ab⟩;refine⟨rfl,?_⟩;rw[a0.out];simp only[Px.bind,hq];exact⟨rfl,a9.call ab a9.size⟩
   .rintro e w4 ⟨rfl,a6⟩;refine⟨rfl,?_⟩;rw[a0.out,hq];exact⟨rfl,hF.call a6 hF.size⟩
 .replace a0:Aside (res=Px.bind (Px.typ k l.tail) λ t l1=>Px.bind (Px.need [93] l1) λ _ l2=>.inl ([91] ++ t ++ [93],l2)):=by
   show _=_;rw[a0.out,if_pos h4]
  go_wp2_with fail
  refine (Ay h [91] (by decide) h4).mono ?_;rintro e w2 ⟨rfl,h2,aa⟩;clear h4;go_wp2_with fail;refine (ag l.tail w2 h2).mono ?_;rcases hq:Px.typ k l.tail with⟨y,l6⟩ | ⟨a,er⟩
  .rintro e w6 ⟨v,rfl,rfl,h7,a5⟩;have ai:=Ke k _ _ _ hq;replace a0:Aside (res=Px.bind (Px.need [93] l6) λ _ l4=>.inl ([91] ++ y ++ [93],l4)):=by
    show _=_;rw[a0.out];simp only[Px.bind,hq]
   have a3:=aa.call a5 aa.size;clear hq aa a5 h2;go_wp2_with fail;refine (pneed_any h7 4 [93] (by decide) (by decide)).mono ?_;rcases hq:Px.need [93] l6 with⟨u,l7⟩ | ⟨a,er⟩
   .rw[show Px.needK 4 [93] l6=_ from hq];rintro e w7 ⟨v,rfl,rfl,h8,a4⟩;replace a0:Aside (res=.inl ([91] ++ y ++ [93],l7)):=by
     show _=_;rw[a0.out];simp only[Px.bind,hq]
    have ad:=a3.call a4 a3.size;have aj:(⟨y.toArray⟩:ByteArray).size=y.length:=by show y.toArray.size=_;simp
    have c1:¬9223372036854775807<1+y.length:=by omega
    have c2:¬9223372036854775807<1+y.length+1:=by omega
    clear hq a3 a4 h7;go_wp2;go_ret;rw[a0.out];exact⟨_,rfl,Az0 y,h8,ad⟩
   .rw[show Px.needK 4 [93] l6=_ from hq];rintro e w7 ⟨rfl,a4⟩;refine⟨rfl,?_⟩;rw[a0.out,hq];exact⟨rfl,a3.call a4 a3.size⟩
  .rintro e w6 ⟨rfl,a5⟩;refine⟨rfl,?_⟩;rw[a0.out,hq];exact⟨rfl,aa.call a5 aa.size⟩
theorem I8:∀k,Pj k
 | 0=>T5
 | k+1=>T6 k (I8 k)
abbrev Fp:Obj:=.cells #[sE,sE,iv 0] 40
def SlV(s:Px.Sl)(v:Value):Prop:=v=.agg #[.string ⟨s.name.toArray⟩,.string ⟨s.type.toArray⟩,iv s.place]
theorem skip_way{Z:Prop}(w:World)(h:Z):wpAny prog .any #[] (λ _ _ _=>True) 0 #[] { tmps:=#[],defers:=[] } w->Z:=λ _=>h
theorem Nr{l:List Lx.Tok}(h:Ps b ga l w) :
  AA 71 #[pt b 0] w λ e w'=>Ct b ga w (Px.slot l) (λ s v _=>SlV s v) e w':=by
 obtain⟨res,a0⟩:∃res,Aside (res=Px.slot l):=⟨_,rfl⟩;rw[<-a0.out];have a9:w≠b:=by have:=h.there;omega
 have ae:w≠ga:=by have:=h.gl;omega
 have h0:=h.alloc Fp;have ag:=heap_new w Fp;have a6:Fo b w w (w.alloc Fp):=(AT _ _ _).alloc (AD _) _;have af:w.heap.size<(w.alloc Fp).heap.size:=by simp
 have hC:=Gx h0;go_enter func71,ntmps71;go_wp2_with fail;generalize w.alloc Fp=w0 at *;refine hC.mono ?_;rcases hq:Px.name l with⟨t,l1⟩ | ⟨a,er⟩
 .rintro e w1 ⟨v,rfl,rfl,h1,a5⟩;replace a0:Aside (res=Px.bind (Px.need [58] l1) λ _ l2=>Px.bind (Px.typ 4 l2) λ y l3=>.inl (⟨t.text,y,t.place⟩,l3)):=by
   show _=_;rw[a0.out,Px.slot,hq];rfl
  have aj:w1.heap[w.heap.size]?=Fp:=(a5.block _ af a9).trans ag;have ab:=a6.call a5 a6.size;have ay:w<w1.heap.size:=by have:=a5.size;omega
  have h2:=h1.alloc (tokB t);have ak:(w1.alloc (tokB t)).heap[w.heap.size]?=Fp:=(Al ay).trans aj;have a8:=ab.alloc ab.size (tokB t);have aq:w.heap.size<(w1.alloc (tokB t)).heap.size:=by simp;omega
  have al:=heap_new w1 (tokB t);have au:w1.heap.size<(w1.alloc (tokB t)).heap.size:=by simp
  have ad:w1≠b:=by have:=h1.there;omega
  clear hC ag aj a6 ab h0 h1 a5 hq af;go_wp2_with fail;generalize w1.alloc (tokB t)=w2 at *;generalize w1.heap.size=g3 at *;refine (pneed_any h2 4 [58] (by decide) (by decide)).mono ?_;rcases hq:Px.need [58] l1 with⟨u,l2⟩ | ⟨a,er⟩
  .rw[show Px.needK 4 [58] l1=_ from hq];rintro e w3 ⟨v,rfl,rfl,h3,a4⟩;replace a0:Aside (res=Px.bind (Px.typ 4 l2) λ y l3=>.inl (⟨t.text,y,t.place⟩,l3)):=by
    show _=_;rw[a0.out,hq];rfl
   have am:w3.heap[w.heap.size]?=Fp:=(a4.block _ aq a9).trans ak;have av:w3.heap[g3]?=some (tokB t):=(a4.block _ au ad).trans al;have ah:=a8.call a4 a8.size;have aa:w<w3.heap.size:=by have:=a4.size;omega
   have ai:g3<w3:=by have:=a4.size;omega
   obtain⟨x0,x1,x2,x3,_⟩:=cells_of4 av;have hT:∀w',Ps b ga l2 w'->AA 108 #[pt b 0,iv 1] w' λ e w''=>Ct b ga w' (Px.typ 4 l2) (λ x v _=>v=.string ⟨x.toArray⟩) e w'':=λ w' h'=>I8 4 1 b ga l2 w' (by decide) h'
   clear ak al a8 h2 a4 hq;rcases hq:Px.typ 4 l2 with⟨y,l3⟩ | ⟨a,er⟩
   .rw[hq] at hT;replace a0:Aside (res=.inl (⟨t.text,y,t.place⟩,l3)):=by
     show _=_;rw[a0.out,hq];rfl
    replace hT:∀w',Ps b ga l2 w'->AA 108 #[pt b 0,iv 1] w' λ e w''=>∃v,e=.returned v/\v=.string ⟨y.toArray⟩/\Ps b ga l3 w''/\Fo b w' w' w'':=hT
    clear hq;have ax:g3≠w.heap.size:=by omega
    have aw:w≠g3:=by omega
    go_wp2_with fail
    go_region_held3 (λ w'=>w'.cell? ⟨g3,1,none⟩=some (.string ⟨t.text.toArray⟩)/\w'.cell? ⟨g3,3,none⟩=iv t.place) (go_keep)
     ((go_at_call 108;refine (hT w3.drew (h3.keep rfl rfl (AD _))).mono ?_;rintro e w4 ⟨v,rfl,rfl,h4,a3⟩;have y1:=(a3.cell (o:=1) ai ad).trans x1;have y3:=(a3.cell (o:=3) ai ad).trans x3;have az:w<w4.heap.size:=AL aa a3.size;have ar:w4.heap[w.heap.size]?=Fp:=(a3.block _ aa a9).trans am;obtain⟨e0,e1,e2,k0,k1,k2⟩:=Ad ar))
    go_wp2;rw[a0.out];exact bodyPost_ret (v:=.agg #[.string ⟨t.text.toArray⟩,.string ⟨y.toArray⟩,iv t.place]) (by simp[results,results71,go_sem,e0,e1,e2]) rfl ⟨_,rfl,rfl,h4.set3 a9 ae _ _ _,((ah.trans (AV _ _ _)).trans (a3.mono (Nat.le_of_lt aa))).set3 (AD _) _ _ _⟩
   .rw[hq] at hT;replace a0:Aside (res=.inr (a,er)):=by
     show _=_;rw[a0.out,hq];rfl
    replace hT:∀w',Ps b ga l2 w'->AA 108 #[pt b 0,iv 1] w' λ e w''=>e=.panicked (Bj a er)/\Fo b w' w' w'':=hT
    clear hq;go_wp2_with fail;have a7:∀w4,Fo b w3.drew.heap.size w3.drew w4->Ct b ga w res (λ s v _=>SlV s v) (.panicked (Bj a er)) w4:=λ w4 a3=>by
     rw[a0.out];exact⟨rfl,(ah.trans (AV _ _ _)).trans (a3.mono (Nat.le_of_lt aa))⟩
    go_region_with (go_at_call 108;refine (hT w3.drew (h3.keep rfl rfl (AD _))).mono ?_;rintro e w4 ⟨rfl,a3⟩;refine skip_way w4 ⟨rfl,a7 w4 a3⟩ ?_)
    all_goals trivial
  .rw[show Px.needK 4 [58] l1=_ from hq];rintro e w3 ⟨rfl,a4⟩;refine⟨rfl,?_⟩;rw[a0.out,hq];exact⟨rfl,a8.call a4 a8.size⟩
 .rintro e w1 ⟨rfl,a5⟩;refine⟨rfl,?_⟩;rw[a0.out,Px.slot,hq];exact⟨rfl,a6.call a5 a6.size⟩
def Df(b ga n:Nat){α:Type}(Inv:List α->World->Prop)(acc:List α)(w:World)(r:Px.R α)(e:Ending)(w':World):Prop:=
 match r with
 | .inl (x,l')=>e=.returned (.tuple #[])/\Inv (acc ++ [x]) w'/\Ps b ga l' w'/\Fo b n w w'
 | .inr (a,er)=>e=.panicked (Bj a er)/\Fo b n w w'
def Ad3(b ga n:Nat){α:Type}(Inv:List α->World->Prop)(w:World)(r:Px.R (List α))(e:Ending)(w':World):Prop:=
 match r with
 | .inl (xs,l')=>e=.returned (.tuple #[])/\Inv xs w'/\Ps b ga l' w'/\Fo b n w w'
 | .inr (a,er)=>e=.panicked (Bj a er)/\Fo b n w w'
theorem Uf{α:Type}{q:Px.P α}{n:Nat}{acc:List α}{l:List Lx.Tok}(hn:0<n):Px.items q (f+1) n acc l=if Px.sees 4 [44] l then Px.bind (q l.tail) λ x l2=>Px.items q f (n+1) (acc ++ [x]) l2 else if Px.sees 4 [41] l then .inl (acc,l.tail) else Px.fail 31 l:=by
 simp only[Px.items];rcases h1:Px.sees 4 [41] l with _ | _
 .simp only[Bool.false_eq_true,if_false];rw[Px.sep,if_neg (by omega)];unfold Px.need Px.needK;rcases h2:Px.sees 4 [44] l with _ | _
  .rfl
  .rfl
 .simp only[if_true];rw[if_neg (by rw[Xz h1 (by decide)];simp)]
theorem Jx{α:Type}{q:Px.P α}{acc:List α}{l:List Lx.Tok}:Px.items q (f+1) 0 acc l=if Px.sees 4 [41] l then .inl (acc,l.tail) else Px.bind (q l) λ x l2=>Px.items q f 1 (acc ++ [x]) l2:=by
 simp only[Px.items,Px.sep,if_true,Px.bind]
theorem items_fuel{α:Type}{q:Px.P α}(hq:Px.Ok q):∀(f g n:Nat) (acc:List α) (l:List Lx.Tok),Px.Good l->l.length<f->l.length<g->Px.items q f n acc l=Px.items q g n acc l
 | 0,_,_,_,_,_,h,_=>by omega
 | _,0,_,_,_,_,_,h=>by omega
 | f+1,g+1,n,acc,l,hg,h1,h2=>by
  simp only[Px.items];split
  .rfl
  .refine Px.bind_congr λ u l1 e1=>Px.bind_congr λ x l2 e2=>?_
   have a1:=(Px.sep_res hg).ok u l1 e1;have a2:=(hq l1 a1.good).ok x l2 e2;exact items_fuel hq f g (n+1) _ l2 a2.good (by have:=a1.less;have:=a2.less;omega) (by have:=a1.less;have:=a2.less;omega)
theorem Jy{α:Type}{n K:Nat}{caps:Array Value}{q:Px.P α}{Inv:List α->World->Prop}{l:List Lx.Tok}(h:Ps b ga l w)(hn:n<=w)(a4:Px.Ok q)
  (hK:∀(args:Array Value) (w:World),(callFunc K args).run prog w=.ok (.enter K args) w)
  (hq:∀(acc:List α) (l1:List Lx.Tok) (w1:World),Ps b ga l1 w1->Inv acc w1->n<=w1->acc.length+l1.length<=4096->AA K caps w1 λ e w2=>Df b ga n Inv acc w1 (q l1) e w2)
  (hI:∀(acc:List α) (w1 w2:World),Inv acc w1->Fo b w1 w1 w2->Inv acc w2) (h0:Inv [] w) :
  AA 109 #[pt b 0,.func (.func K) #[] caps] w λ e w'=>Ad3 b ga n Inv w (Px.bind (Px.need [40] l) λ _ l1=>Px.items q (l1.length+1) 0 [] l1) e w':=by
 obtain⟨res,a0⟩:∃res,Aside (res=Px.bind (Px.need [40] l) λ _ l1=>Px.items q (l1.length+1) 0 [] l1):=⟨_,rfl⟩;rw[<-a0.out];go_enter func109,ntmps109;go_wp2_with fail;refine (pneed_any h 4 [40] (by decide) (by decide)).mono ?_;rcases hx:Px.need [40] l with⟨u,l1⟩ | ⟨a,er⟩
 .rw[show Px.needK 4 [40] l=_ from hx];rintro e w1 ⟨v,rfl,rfl,h1,a5⟩;replace a0:Aside (res=Px.items q (l1.length+1) 0 [] l1):=by
   show _=_;rw[a0.out,hx];rfl
  have ae:=a5.mono hn;have i1:=hI _ _ _ h0 a5;have ab:n<=w1:=by have:=a5.size;omega
  clear hx a5 h0;rcases hs:Px.sees 4 [41] l1 with _ | _
  .replace a0:Aside (res=Px.bind (q l1) λ x l2=>Px.items q l1.length 1 [x] l2):=by
    show _=_;rw[a0.out,Jx,if_neg (by rw[hs];simp)];rfl
   go_wp2_with fail
   refine (A7 h1 [41] hs).mono ?_;rintro e w2 ⟨rfl,h2,a9⟩;have i2:=hI _ _ _ i1 (AU a9);have ai:=ae.below a9 ab;have am:n<=w2:=by have:=a9.size;omega
   clear hs a9 i1 ae h1;have hC:=hq [] l1 w2 h2 i2 am (by have:=h2.few;simpa using this);go_wp2_with fail;refine (show AA K caps w2 _ by simpa using hC).mono ?_;rcases hx:q l1 with⟨x,l2⟩ | ⟨a,er⟩
   .rintro e w3 ⟨rfl,i3,h3,a7⟩;have ak:Px.Good l1:=h2.good;have ad:=((a4 l1 ak).ok x l2 hx).less;have au:=h2.few;replace a0:Aside (res=Px.items q (l2.length+1) 1 [x] l2):=by
     show _=_;rw[a0.out,hx];exact items_fuel a4 _ _ _ _ _ ((a4 l1 ak).ok x l2 hx).good (by omega) (by omega)
    have aj:=ai.trans a7;have al:n<=w3:=by have:=a7.size;omega
    clear hx hC i2 ai h2 a7 am ab;go_wp2_with fail
    go_loopg [] (l2.length+1) (λ m wr=>∃(acc:List α) (l4:List Lx.Tok) (c:Nat),0<c/\m=l4.length+1/\Ps b ga l4 wr/\Inv acc wr/\Fo b n w wr/\n<=wr/\acc.length+l4.length<=4096/\Aside (res=Px.items q (l4.length+1) c acc l4))
    case atStart=>exact⟨[] ++ [x],l2,1,by omega,rfl,h3,i3,aj,al,by simp;omega,a0⟩
    case round=>
     clear a0 h3 i3 aj al;obtain⟨acc,l4,c,hc,rfl,h4,i4,ah,aa,aw,a0⟩:=hrel;replace a0:Aside (res=_):=a0.out.trans (Uf hc);rcases hs4:Px.sees 4 [44] l4 with _ | _
     .go_wp2_with fail
      refine (A7 h4 [44] hs4).mono ?_;rintro e w5 ⟨rfl,h5,af⟩;have i5:=hI _ _ _ i4 (AU af);have a6:=ah.below af aa;have a8:n<=w5:=by have:=af.size;omega
      go_wp2_with fail
      refine (pneed_any h5 4 [41] (by decide) (by decide)).mono ?_;rcases hs5:Px.sees 4 [41] l4 with _ | _
      .replace a0:Aside (res=.inr (Px.place l4,31)):=by
        show _=_;rw[a0.out,if_neg (by rw[hs4];simp),if_neg (by rw[hs5];simp)];rfl
       rw[show Px.needK 4 [41] l4=.inr (Px.place l4,31) by unfold Px.needK;rw[if_neg (by rw[hs5];simp)];rfl];rintro e w6 ⟨rfl,a3⟩;refine⟨rfl,?_⟩;rw[a0.out];exact⟨rfl,a6.call a3 a8⟩
      .replace a0:Aside (res=.inl (acc,l4.tail)):=by
        show _=_;rw[a0.out,if_neg (by rw[hs4];simp),if_pos hs5]
       rw[show Px.needK 4 [41] l4=.inl ((),l4.tail) by unfold Px.needK;rw[if_pos hs5]];rintro e w6 ⟨v,rfl,rfl,h6,a3⟩;have i6:=hI _ _ _ i5 a3;go_wp2
       go_end0
       rw[a0.out];exact⟨rfl,i6,h6,a6.call a3 a8⟩
     .replace a0:Aside (res=Px.bind (q l4.tail) λ x l2=>Px.items q l4.length (c+1) (acc ++ [x]) l2):=by
       show _=_;rw[a0.out,if_pos hs4]
      go_wp2_with fail
      refine (Ay h4 [44] (by decide) hs4).mono ?_;rintro e w5 ⟨rfl,h5,ag⟩;have i5:=hI _ _ _ i4 ag;have a6:=ah.call ag aa;have a8:n<=w5:=by have:=ag.size;omega
      have av:l4.tail.length+1=l4.length:=by
       obtain⟨t,r,rfl,_⟩:=Px.sees_head hs4;simp
      have hC:=hq acc l4.tail w5 h5 i5 a8 (by omega);clear hs4 h4 i4 ah aa;go_wp2_with fail;refine (show AA K caps w5 _ by simpa using hC).mono ?_;rcases hx:q l4.tail with⟨y,l6⟩ | ⟨a,er⟩
      .rintro e w6 ⟨rfl,i6,h6,a3⟩;have ad:=((a4 l4.tail h5.good).ok y l6 hx).less;replace a0:Aside (res=Px.items q (l6.length+1) (c+1) (acc ++ [y]) l6):=by
        show _=_;rw[a0.out,hx];exact items_fuel a4 _ _ _ _ _ ((a4 l4.tail h5.good).ok y l6 hx).good (by omega) (by omega)
       have ar:n<=w6:=by have:=a3.size;omega
       go_wp2_with fail
       go_roundg (l6.length+1)
       case measure=>omega
       case rel=>exact⟨acc ++ [y],l6,c+1,by omega,rfl,h6,i6,a6.trans a3,ar,by simp;omega,a0⟩
      .rintro e w6 ⟨rfl,a3⟩;refine⟨rfl,?_⟩;rw[a0.out,hx];exact⟨rfl,a6.trans a3⟩
   .rintro e w3 ⟨rfl,a7⟩;refine⟨rfl,?_⟩;rw[a0.out,hx];exact⟨rfl,ai.trans a7⟩
  .replace a0:Aside (res=.inl ([],l1.tail)):=by
    show _=_;rw[a0.out,Jx,if_pos hs]
   go_wp2_with fail
   refine (Ay h1 [41] (by decide) hs).mono ?_;rintro e w2 ⟨rfl,h2,aq⟩;have i2:=hI _ _ _ i1 aq;go_wp2
   go_end0
   rw[a0.out];exact⟨rfl,i2,h2,ae.call aq ab⟩
 .rw[show Px.needK 4 [40] l=_ from hx];rintro e w1 ⟨rfl,a5⟩;refine⟨rfl,?_⟩;rw[a0.out,hx];exact⟨rfl,a5.mono hn⟩
theorem Bl{base n:Nat}{e:TypeId}(h:w.ownsRow base e sz v n xs)(f:Fo b w w w')(hb:b<base):w'.ownsRow base e sz v n xs:=by
 obtain⟨h1,h2⟩:=h;refine⟨h1,?_⟩;rcases h2 with h2 | ⟨g,cap,cur,hv,hg,hh,r⟩
 .exact AI h2
 .exact AJ ⟨g,cap,cur,hv,hg,(f.block g (AB hh).1 (by omega)).trans hh,r⟩
theorem Dp{base n:Nat}{e:TypeId}{B:AS}(h:w.ownsRow base e sz v n xs)(hB:∀g,base<=g->g<w.heap.size->B g):SlRow B w sz v n xs:=by
 obtain⟨h1,h2⟩:=h;refine⟨h1,?_⟩;rcases h2 with h2 | ⟨g,cap,cur,hv,hg,hh,hn,hc,hs,ht⟩
 .exact AI h2
 .have hl:=(AB hh).1;refine AJ ⟨g,0,cap,hv,hn,hc,hB g hg hl,hl,λ j u hj=>?_⟩;rw[Nat.zero_add,Lib.cell_of_heap hh];rw[<-ht,List.getElem?_take] at hj;split at hj
  .simpa using hj
  .simp at hj
theorem C6{w5:World}{o:Obj}{base n:Nat}{e:TypeId}(a0:(w.alloc o).grownBy w5 v.ownBlock)(a3:w.ownsRow base e sz v n xs)(hg:g<base)(hl:g<w):w5.heap[g]?=w.heap[g]?:=by
 rw[a0.block g (by simp;omega) (λ e=>by have:=(a3.lt g e.symm).1;omega)];exact Al hl
theorem Ad4{w5:World}{o:Obj}{base n:Nat}{e:TypeId}(a0:(w.alloc o).grownBy w5 v.ownBlock)(a3:w.ownsRow base e sz v n xs)(hm:m<=base)(hl:m<=w):Fo b m w w5:=
 ⟨a0.os,a0.tape,a0.output,by have:=a0.size;simp at this;omega,λ k h1 _=>C6 a0 a3 (by omega) (by omega)⟩
theorem Ry:(prog.info? 40).map (λ i=>(i.zero,i.size,i.bytes))=some (some (.agg #[sE,sE,iv 0]),3,40):=by kernel_rfl
abbrev Hb(nm:Lx.B)(on:Bool)(ps:Value)(y:Lx.B)(bs:Value)(pl:Nat):Obj:=.cells #[.string ⟨nm.toArray⟩,.bool on,ps,.string ⟨y.toArray⟩,sZ,bs,iv pl] 36 (0,0)
abbrev C3(b:Nat):Obj:=.cells #[pt b 0] 89 (0,0)
structure FnBox(b gp gf:Nat)(nm:Lx.B)(on:Bool)(pl:Nat)(acc:List Px.Sl)(w:World):Prop where
 ptr:w.heap[gp]?=some (C3 b)
 fn:∃ps,w.heap[gf]?=some (Hb nm on ps [] sZ pl)/\w.ownsRow (gf+1) 40 3 ps acc.length (acc.flatMap Bh)
theorem FnBox.fo{gf:Nat}{nm:Lx.B}{on:Bool}{acc:List Px.Sl}(h:FnBox b gp gf nm on pl acc w)(f:Fo b w w w')(h1:b<gp)(h2:gp<gf):FnBox b gp gf nm on pl acc w':=by
 obtain⟨hp,ps,hf,ho⟩:=h;exact⟨(f.block gp (AB hp).1 (by omega)).trans hp,ps,(f.block gf (AB hf).1 (by omega)).trans hf,Bl ho f (by omega)⟩
theorem Ug{n gf:Nat}{nm:Lx.B}{on:Bool}(h1:b<gp)(h2:gp<gf)(ak:ga<gp)(aj:n<=gf)(acc:List Px.Sl)(l:List Lx.Tok)(w:World)(h:Ps b ga l w)(hi:FnBox b gp gf nm on pl acc w)(hn:n<=w)(al:acc.length+l.length<=4096) :
  AA 110 #[pt gf 0,pt gp 0] w λ e w'=>Df b ga n (FnBox b gp gf nm on pl) acc w (Px.slot l) e w':=by
 obtain⟨i0,ai,ad,af,ah⟩:=info_parts Ry;obtain⟨hp,ps,hf,a4⟩:=hi;have a9:gp<w:=(AB hp).1;have a8:gf<w:=(AB hf).1;have c0:=cell_of_one hp;obtain⟨_,_,c2,_,_,_,_,_,_,k2,_⟩:=Ba hf;obtain⟨ao,cap,rfl⟩:=A5 a4;have hC:∀w',Ps b ga l w'->_:=λ w' h'=>Nr h'
 rcases hq:Px.slot l with⟨s,l'⟩ | ⟨a,er⟩
 .rw[hq] at hC;replace hC:∀w',Ps b ga l w'->AA 71 #[pt b 0] w' λ e w''=>∃v,e=.returned v/\SlV s v/\Ps b ga l' w''/\Fo b w' w' w'':=hC
  clear hq;go_enter func110,ntmps110;go_wp2_with fail
  go_region_law (first
   |(refine step_append_lies _ (by rfl) _ _ 23 (by rfl) (gf+1) 40 i0 _ 3 40 underlying23 ai ad af ah rfl (by omega) _ acc.length (acc.flatMap Bh) (by rfl) (a0.alloc _) ⟨w4,0,none⟩ 1 1 [.string ⟨s.name.toArray⟩,.string ⟨s.type.toArray⟩,iv s.place] (by rfl) (by rfl) (World.news_of_block (cs:=#[.string ⟨s.name.toArray⟩,.string ⟨s.type.toArray⟩,iv s.place]) (t:=40) (fr:=(0,0)) (heap_new w4 _)) (by simp[Value.oneCell']) (by omega) (by unfold maxLen;omega) (by omega) (by simp;omega) (w4.heap.size+1) (by simp) ?_;intro g cap5 w5 hown5 hgrow hat hlt5;have aa:=(C6 hgrow a0 (Nat.lt_succ_self gf) a7).trans ab;obtain⟨_,_,e2,_,_,_,_,_,_,m2,_⟩:=Ba aa)
   |(go_simp;go_at_call 71;refine (hC w.drew (h.keep rfl rfl (AD _))).mono ?_;rintro e w4 ⟨v,rfl,rfl,h4,a3⟩;have a0:=Bl (w:=w.drew) (w':=w4) a4.drew a3 (by omega);have a7:gf<w4:=AL a8 a3.size;have ab:=(a3.block gf a8 (by omega)).trans hf;have y2:=(Ba ab).2.2.1))
  all_goals
   go_wp2
   go_end0
   have ag:Fo b n w w5:=(((AV b n w).trans (a3.mono hn)).trans (Ad4 hgrow a0 (by omega) (by have:=a3.size;have hx:w<=w4.heap.size:=this;omega)));have a6:gp<w4:=AL a9 a3.size;have ae:w5.heap[gp]?=some (C3 b):=(C6 hgrow a0 (by omega) a6).trans ((a3.block gp a9 (by omega)).trans hp);have h5:Ps b ga l' w5:=h4.keep (C6 hgrow a0 (by omega) h4.there) (C6 hgrow a0 (by omega) h4.gl) (by have:=hgrow.size;simp at this;omega);refine⟨rfl,⟨?_,sL g 0 (acc.length+1) cap5,?_,?_⟩,h5.other 2 _ (by omega) (by omega),ag.fresh (by omega) 2 _⟩
   .exact (AG _ _ _ _ (by show gp≠gf;omega)).trans ae
   .exact (by simp[World.setCell,Array.getElem?_modify,aa])
   .have:=ownsRow_setCell_below hown5 (a:=⟨gf,2,none⟩) (by show gf<gf+1;omega) (sL g 0 (acc.length+1) cap5);simpa [Bh] using this
 .rw[hq] at hC;replace hC:∀w',Ps b ga l w'->AA 71 #[pt b 0] w' λ e w''=>e=.panicked (Bj a er)/\Fo b w' w' w'':=hC
  have a5:∀w4,Fo b w.drew.heap.size w.drew w4->Df b ga n (FnBox b gp gf nm on pl) acc w (.inr (a,er)) (.panicked (Bj a er)) w4:=λ w4 a3=>⟨rfl,(AV b n w).trans (a3.mono hn)⟩
  clear hq;go_enter func110,ntmps110;go_wp2_with fail
  go_region_law (go_simp;go_at_call 71;refine (hC w.drew (h.keep rfl rfl (AD _))).mono ?_;rintro e w4 ⟨rfl,a3⟩;refine skip_way w4 ⟨rfl,a5 w4 a3⟩ ?_)
  all_goals trivial
theorem Bt{t:AQ}(h:¬t=x):(t == x)=false:=by simpa using h
def Ad5(x:Lx.B):Nat × Nat:=Px.levelOf ⟨4,x,0,0⟩
theorem Ao0{t:Lx.Tok}(h:t.kind=4):Px.levelOf t=Ad5 t.text:=by
 obtain⟨k,x,m,p⟩:=t;simp only at h;subst h;rfl
theorem Yg(t:Lx.B)(w:World):AA 226 #[.string ⟨t.toArray⟩] w λ r w'=>r=.returned (.tuple #[iv ((Ad5 t).2:Nat),iv ((Ad5 t).1 - 1:Nat)])/\w'=w:=by
 by_cases h0:t=[124,124]
 .subst h0;go_enter func226,ntmps226;go_wp2
  go_ret2
  exact⟨rfl,rfl⟩
 by_cases h1:t=[38,38]
 .subst h1;go_enter func226,ntmps226;go_wp2
  go_ret2
  exact⟨rfl,rfl⟩
 by_cases h2:t=[61,61]
 .subst h2;go_enter func226,ntmps226;go_wp2
  go_ret2
  exact⟨rfl,rfl⟩
 by_cases h3:t=[33,61]
 .subst h3;go_enter func226,ntmps226;go_wp2
  go_ret2
  exact⟨rfl,rfl⟩
 by_cases h4:t=[60]
 .subst h4;go_enter func226,ntmps226;go_wp2
  go_ret2
  exact⟨rfl,rfl⟩
 by_cases h5:t=[60,61]
 .subst h5;go_enter func226,ntmps226;go_wp2
  go_ret2
  exact⟨rfl,rfl⟩
 by_cases h6:t=[62]
 .subst h6;go_enter func226,ntmps226;go_wp2
  go_ret2
  exact⟨rfl,rfl⟩
 by_cases h7:t=[62,61]
 .subst h7;go_enter func226,ntmps226;go_wp2
  go_ret2
  exact⟨rfl,rfl⟩
 by_cases h8:t=[43]
 .subst h8;go_enter func226,ntmps226;go_wp2
  go_ret2
  exact⟨rfl,rfl⟩
 by_cases h9:t=[45]
 .subst h9;go_enter func226,ntmps226;go_wp2
  go_ret2
  exact⟨rfl,rfl⟩
 by_cases a0:t=[42]
 .subst a0;go_enter func226,ntmps226;go_wp2
  go_ret2
  exact⟨rfl,rfl⟩
 by_cases a4:t=[47]
 .subst a4;go_enter func226,ntmps226;go_wp2
  go_ret2
  exact⟨rfl,rfl⟩
 by_cases a3:t=[37]
 .subst a3;go_enter func226,ntmps226;go_wp2
  go_ret2
  exact⟨rfl,rfl⟩
 have hl:Ad5 t=(0,0):=by simp[Ad5,Px.levelOf,h0,h1,h2,h3,h4,h5,h6,h7,h8,h9,a0,a4,a3]
 rw[hl];replace h0:=Bt h0;replace h1:=Bt h1;replace h2:=Bt h2;replace h3:=Bt h3;replace h4:=Bt h4;replace h5:=Bt h5;replace h6:=Bt h6;replace h7:=Bt h7;replace h8:=Bt h8;replace h9:=Bt h9;replace a0:=Bt a0;replace a4:=Bt a4;replace a3:=Bt a3;clear hl;go_enter func226,ntmps226;go_wp2
 go_ret2
 exact⟨rfl,rfl⟩
def opAt(n:Nat)(t:Lx.Tok):Nat:=if (Px.levelOf t).1=n+1 then (Px.levelOf t).2 else 0
theorem Uh(t:Lx.Tok)(p:Nat × Nat)(h:Px.levelOf t=p):(p.1=0->p.2=0)/\(p.1≠0->p.2≠0)/\p.1<=5/\p.2<=13:=by
 by_cases hk:t.kind=4
 rotate_left
 .have e:Px.levelOf t=(0,0):=by unfold Px.levelOf;rw[if_neg hk]
  rw[e] at h;rw[<-h];decide
 by_cases h0:t.text=[124,124]
 .have e:Px.levelOf t=(1,1):=by simp[Px.levelOf,hk,h0]
  rw[e] at h;rw[<-h];decide
 by_cases h1:t.text=[38,38]
 .have e:Px.levelOf t=(2,2):=by simp[Px.levelOf,hk,h1]
  rw[e] at h;rw[<-h];decide
 by_cases h2:t.text=[61,61]
 .have e:Px.levelOf t=(3,3):=by simp[Px.levelOf,hk,h2]
  rw[e] at h;rw[<-h];decide
 by_cases h3:t.text=[33,61]
 .have e:Px.levelOf t=(3,4):=by simp[Px.levelOf,hk,h3]
  rw[e] at h;rw[<-h];decide
 by_cases h4:t.text=[60]
 .have e:Px.levelOf t=(3,5):=by simp[Px.levelOf,hk,h4]
  rw[e] at h;rw[<-h];decide
 by_cases h5:t.text=[60,61]
 .have e:Px.levelOf t=(3,6):=by simp[Px.levelOf,hk,h5]
  rw[e] at h;rw[<-h];decide
 by_cases h6:t.text=[62]
 .have e:Px.levelOf t=(3,7):=by simp[Px.levelOf,hk,h6]
  rw[e] at h;rw[<-h];decide
 by_cases h7:t.text=[62,61]
 .have e:Px.levelOf t=(3,8):=by simp[Px.levelOf,hk,h7]
  rw[e] at h;rw[<-h];decide
 by_cases h8:t.text=[43]
 .have e:Px.levelOf t=(4,9):=by simp[Px.levelOf,hk,h8]
  rw[e] at h;rw[<-h];decide
 by_cases h9:t.text=[45]
 .have e:Px.levelOf t=(4,10):=by simp[Px.levelOf,hk,h9]
  rw[e] at h;rw[<-h];decide
 by_cases h10:t.text=[42]
 .have e:Px.levelOf t=(5,11):=by simp[Px.levelOf,hk,h10]
  rw[e] at h;rw[<-h];decide
 by_cases h11:t.text=[47]
 .have e:Px.levelOf t=(5,12):=by simp[Px.levelOf,hk,h11]
  rw[e] at h;rw[<-h];decide
 by_cases h12:t.text=[37]
 .have e:Px.levelOf t=(5,13):=by simp[Px.levelOf,hk,h12]
  rw[e] at h;rw[<-h];decide
 have e:Px.levelOf t=(0,0):=by simp[Px.levelOf,h0,h1,h2,h3,h4,h5,h6,h7,h8,h9,h10,h11,h12]
 rw[e] at h;rw[<-h];decide
theorem Ao1(t:Lx.Tok):(Px.levelOf t).1=0->(Px.levelOf t).2=0:=(Uh t _ rfl).1
theorem Wm(t:Lx.Tok):(Px.levelOf t).1≠0->(Px.levelOf t).2≠0:=(Uh t _ rfl).2.1
theorem Pn(t:Lx.Tok):(Px.levelOf t).1<=5/\(Px.levelOf t).2<=13:=(Uh t _ rfl).2.2
theorem Hc{t:Lx.Tok}{r:List Lx.Tok}(h:Ps b ga (t :: r) w)(n:Nat)(hn:n<=5) :
  AA 217 #[pt b 0,iv n] w λ e w'=>e=.returned (iv (opAt n t:Nat))/\Below w w w':=by
 have hN:=Cc h;have a9:=Ab1;have ab:=Wb;by_cases hk:t.kind=4
 .have a7:((t.kind:Int) != 4)=false:=by simp;omega
  have a6:=Ao0 hk;have aa:=(Pn t).1;have hO:=Yg t.text;rw[<-a6] at hO;have a3:=Ao1 t;by_cases hl:(Px.levelOf t).1 - 1=n
  .have a8:((((Px.levelOf t).1 - 1:Nat):Int) != (n:Int))=false:=by simp;omega
   have a0:opAt n t=(Px.levelOf t).2:=by
    unfold opAt;by_cases h1:(Px.levelOf t).1=n+1
    .rw[if_pos h1]
    .rw[if_neg h1,a3 (by omega)]
   rw[a0];clear a0 a3 a6 hk hl;generalize (Px.levelOf t).1 - 1=lv at *;generalize (Px.levelOf t).2=op at *;go_enter func217,ntmps217;go_wp2_with fail;refine hN.mono ?_;rintro e w1 ⟨rfl,a4⟩;have h1:=h.below a4;go_wp2_with fail;refine (Cc h1).mono ?_;rintro e w2 ⟨rfl,a5⟩;go_wp2_with fail;refine (hO w2).mono ?_;rintro e w3 ⟨rfl,rfl⟩;go_wp2;go_ret;exact⟨rfl,a4.trans (a5.mono a4.size)⟩
  .have a8:((((Px.levelOf t).1 - 1:Nat):Int) != (n:Int))=true:=by simp;omega
   have a0:opAt n t=0:=by
    unfold opAt;rw[if_neg (by omega)]
   rw[a0];clear a0 a3 a6 hk hl;generalize (Px.levelOf t).1 - 1=lv at *;generalize (Px.levelOf t).2=op at *;go_enter func217,ntmps217;go_wp2_with fail;refine hN.mono ?_;rintro e w1 ⟨rfl,a4⟩;have h1:=h.below a4;go_wp2_with fail;refine (Cc h1).mono ?_;rintro e w2 ⟨rfl,a5⟩;go_wp2_with fail;refine (hO w2).mono ?_;rintro e w3 ⟨rfl,rfl⟩;go_wp2;go_ret;exact⟨rfl,a4.trans (a5.mono a4.size)⟩
 .have a7:((t.kind:Int) != 4)=true:=by simp;omega
  have a0:opAt n t=0:=by
   unfold opAt Px.levelOf;rw[if_neg hk];simp
  rw[a0];clear a0 hk;go_enter func217,ntmps217;go_wp2_with fail;refine hN.mono ?_;rintro e w1 ⟨rfl,a4⟩;go_wp2;go_ret;exact⟨rfl,a4⟩
abbrev eV(k o n:Nat)(t:Lx.B)(sl:Value)(p:Nat):Value:=.agg #[iv k,iv o,iv n,.string ⟨t.toArray⟩,iv 0,sE,sl,iv p]
abbrev eL(k o n:Nat)(t:Lx.B)(sl:Value)(p:Nat):List Value:=[iv k,iv o,iv n,.string ⟨t.toArray⟩,iv 0,sE,sl,iv p]
abbrev eO(k o n:Nat)(t:Lx.B)(sl:Value)(p:Nat):Obj:=.cells #[iv k,iv o,iv n,.string ⟨t.toArray⟩,iv 0,sE,sl,iv p] 48 (0,0)
abbrev zeroE:Obj:=eO 0 0 0 [] sZ 0
abbrev eS(w:World)(g k o n:Nat)(t:Lx.B)(sl:Value)(p:Nat):World:=w8 w g (iv k) (iv o) (iv n) (.string ⟨t.toArray⟩) (iv 0) sE sl (iv p)
def ExV(B:AS)(w:World)(x:Px.Ex)(v:Value):Prop:=∃k o n t ao an ac p,v=eV k o n t (.slice ao an ac) p/\IsEx B w x (eL k o n t (.slice ao an ac) p)
theorem plow{B:AS}{n:Nat}{row:AR}(hb:∀k,B k->k<w.heap.size->B' k)(h:SlRow B w sz v n row):SlRow B' w sz v n row:=by
 obtain⟨h1,h2⟩:=h;refine⟨h1,?_⟩;rcases h2 with h2 | ⟨g,o,cap,hv,hc,hm,hB,hg,r⟩
 .exact AI h2
 .exact AJ ⟨g,o,cap,hv,hc,hm,hb _ hB hg,hg,r⟩
mutual
theorem IsEx.plow{B B':AS}{w:World}(hb:∀k,B k->k<w.heap.size->B' k):∀{e:Px.Ex} {cs:AR},IsEx B w e cs->IsEx B' w e cs
 | .mk k o n t args p,cs,h=>by
  rw[IsEx] at h ⊢;obtain⟨sl,row,hc,hr,ha⟩:=h;exact⟨sl,row,hc,Go.Proofs.YtpckmjfabiallaaGreatDoor.plow hb hr,Ai.plow hb ha⟩
theorem Ai.plow{B B':AS}{w:World}(hb:∀k,B k->k<w.heap.size->B' k):∀{l:List Px.Ex} {cs:AR},Ai B w l cs->Ai B' w l cs
 | [],cs,h=>by rw[Ai] at h ⊢;exact h
 | e :: r,cs,h=>by
  rw[Ai] at h ⊢;obtain⟨c1,c2,hc,h1,h2⟩:=h;exact⟨c1,c2,hc,IsEx.plow hb h1,Ai.plow hb h2⟩
end
theorem Ij(B:AS)(w:World)(k o n:Nat)(t:Lx.B)(p:Nat):IsEx B w (.mk k o n t [] p) (eL k o n t sZ p):=by
 rw[IsEx];exact⟨_,[],rfl,⟨rfl,AI ⟨rfl,rfl⟩⟩,by rw[Ai]⟩
theorem Av2{B:AS}{gs k:Nat}{x:Px.Ex}{cx:AR}(hB:B gs)(hg:gs<w)(hc:∀(j:Nat) (u:Value),cx[j]?=u->w.cell? ⟨gs,j,none⟩=u)(hx:IsEx B w x cx) :
  IsEx B w (.mk k 0 0 [] [x] p) (eL k 0 0 [] (sL gs 0 1 1) p):=by
 have lx:=hx.len;rw[IsEx];refine⟨sL gs 0 1 1,cx,rfl,⟨by simpa using lx,AJ ⟨gs,0,1,rfl,AD _,by unfold maxLen;omega,hB,hg,λ j u hj=>by rw[Nat.zero_add];exact hc j u hj⟩⟩,?_⟩;rw[Ai];exact⟨cx,[],by simp,hx,by rw[Ai]⟩
theorem Ad6{B:AS}{gs k op:Nat}{x y:Px.Ex}{cx cy:AR}(hB:B gs)(hg:gs<w)(hc:∀(j:Nat) (u:Value),(cx ++ cy)[j]?=u->w.cell? ⟨gs,j,none⟩=u)(hx:IsEx B w x cx)(hy:IsEx B w y cy) :
  IsEx B w (.mk k op 0 [] [x,y] p) (eL k op 0 [] (sL gs 0 2 2) p):=by
 have lx:=hx.len;have ly:=hy.len;rw[IsEx];refine⟨sL gs 0 2 2,cx ++ cy,rfl,⟨by simp;omega,AJ ⟨gs,0,2,rfl,AD _,by unfold maxLen;omega,hB,hg,λ j u hj=>by rw[Nat.zero_add];exact hc j u hj⟩⟩,?_⟩;rw[Ai];refine⟨cx,cy,rfl,hx,?_⟩;rw[Ai];exact⟨cy,[],by simp,hy,by rw[Ai]⟩
theorem Lh{a:Array Value}(h:w.heap[g]?=some (.cells a T (0,0)))(hv:a[j]?=v):w.cell? ⟨g,j,none⟩=v:=by
 simp[World.cell?,h,hv]
abbrev C5(b ga:Nat)(w:World)(r:Px.R Px.Ex)(e:Ending)(w':World):Prop:=Ct b ga w r (λ x v w'=>ExV (From w) w' x v) e w'
theorem Ad7{k o n:Nat}{t:Lx.B}{k' o' n' p':Nat}{t':Lx.B}{a0:Value}(h:w.heap[g]?=eO k' o' n' t' a0 p'):(eS w g k o n t sl p).heap[g]?=eO k o n t sl p:=At4 h _ _ _ _ _ _ _ _
theorem Ad8{k o n:Nat}{t:Lx.B}(h:j≠g):(eS w g k o n t sl p).heap[j]?=w.heap[j]?:=Ia h _ _ _ _ _ _ _ _
theorem Po(w:World)(g k o n p:Nat)(t:Lx.B)(sl:Value):(eS w g k o n t sl p).heap.size=w.heap.size:=O7 _ _ _ _ _ _ _ _ _ _
theorem Ar7(w:World)(g k o n p:Nat)(t:Lx.B)(sl:Value)(m:Nat):Fo g m w (eS w g k o n t sl p):=((((((((Fo.set 0 _).trans (Fo.set 1 _)).trans (Fo.set 2 _)).trans (Fo.set 3 _)).trans (Fo.set 4 _)).trans (Fo.set 5 _)).trans (Fo.set 6 _)).trans (Fo.set 7 _))
theorem Ao2{P:AS}{wD wX wF:World}{g7 k o nn k2 o2 n2 p2 kk op:Nat}{t t2:Lx.B}{sl2:Value}{a:Obj}(hP:P (wD.heap.size+1))(a7:¬P g7)(a5:wX=wD.heap.size)(a8:g7<wD)
  (hfo:Fo g7 wD wD wX) (hblk:wX.heap[g7]?=eO kk op 0 [] (sL (wD.heap.size+1) 0 2 2) pl)
  (hwF:wF=(wX.alloc a).alloc (.cells (eL k o nn t sl p ++ eL k2 o2 n2 t2 sl2 p2).toArray 48 (0,0))) :
  wF.heap[g7]?=eO kk op 0 [] (sL (wD.heap.size+1) 0 2 2) pl/\Fo g7 wD wD wF/\wF=wD.heap.size+2/\∀x y,IsEx P wD x (eL k o nn t sl p)->IsEx P wD y (eL k2 o2 n2 t2 sl2 p2)->IsEx P wF (.mk kk op 0 [] [x,y] pl) (eL kk op 0 [] (sL (wD.heap.size+1) 0 2 2) pl):=by
 have hb:Below wX wX wF:=by
  rw[hwF];exact ((AF _ _).alloc (AD _) _).alloc (by simp) _
 have a3:wF.heap[wD.heap.size+1]?=some (.cells (eL k o nn t sl p ++ eL k2 o2 n2 t2 sl2 p2).toArray 48 (0,0)):=by
  rw[hwF,show wD.heap.size+1=(wX.alloc a).heap.size by simp[a5]];exact heap_new _ _
 have a4:wF=wD.heap.size+2:=by rw[hwF];simp[a5]
 clear hwF;have a6:wD.heap.size+1<wF.heap.size:=by omega
 have a0:Since P wD wF:=⟨by omega,λ kk h1 h2=>(hb.block kk (by omega)).trans (hfo.block kk h2 (λ e=>a7 (by rw[<-e];exact h1)))⟩;exact⟨(hb.block g7 (by omega)).trans hblk,hfo.trans (AU (hb.mono (by omega))),a4,λ x y hx hy=>Ad6 hP a6 (λ j v hj=>Lh a3 (by rw[List.getElem?_toArray];exact hj)) (hx.since a0) (hy.since a0)⟩
theorem Wn{P:AS}{wD wF:World}{g7 k o nn k2 o2 n2 p2 kk op:Nat}{t t2:Lx.B}{sl2:Value}(hP:P (wD.heap.size+1))(a0:¬P g7)(h7:wD.heap[g7]?=eO k o nn t sl p)
  (hwF:wF=((eS wD g7 kk op 0 [] (sL (wD.heap.size+1) 0 2 2) pl).alloc (eO k2 o2 n2 t2 sl2 p2)).alloc (.cells (eL k o nn t sl p ++ eL k2 o2 n2 t2 sl2 p2).toArray 48 (0,0))) :
  wF.heap[g7]?=eO kk op 0 [] (sL (wD.heap.size+1) 0 2 2) pl/\Fo g7 wD wD wF/\wF=wD.heap.size+2/\∀x y,IsEx P wD x (eL k o nn t sl p)->IsEx P wD y (eL k2 o2 n2 t2 sl2 p2)->IsEx P wF (.mk kk op 0 [] [x,y] pl) (eL kk op 0 [] (sL (wD.heap.size+1) 0 2 2) pl):=
 Ao2 hP a0 (Po _ _ _ _ _ _ _ _) (AB h7).1 (Ar7 _ _ _ _ _ _ _ _ _) (Ad7 h7) hwF
theorem D3{x:Px.Ex}{l':List Lx.Tok}{k o n:Nat}{t:Lx.B}{ao:Option Addr}{an ac:Nat}{B:AS}(h1:Ps b ga l' w1)(hF:Fo b w w w1)(hg:w≠b)(a0:w≠ga)(hx:IsEx B w1 x (eL k o n t (.slice ao an ac) p))(hB:∀g,B g->w.heap.size<g) :
  C5 b ga w (.inl (x,l')) (.returned (eV k o n t (.slice ao an ac) p)) (eS w1 w k o n t (.slice ao an ac) p):=
 ⟨_,rfl,⟨k,o,n,t,ao,an,ac,p,rfl,(hx.since (Since.set8' (λ h=>by have:=hB _ h;omega) _ _ _ _ _ _ _ _)).base (λ g h=>Nat.le_of_lt (hB g h))⟩,h1.set8 hg a0 _ _ _ _ _ _ _ _,hF.set8 (AD _) _ _ _ _ _ _ _ _⟩
def He(n d:Nat)(q:Px.P Px.Ex):Prop:=∀(b ga:Nat) (l:List Lx.Tok) (w:World),Ps b ga l w->AA 191 #[pt b 0,iv n,iv d] w λ e w'=>C5 b ga w (q l) e w'
def Yh(d:Nat)(q:Px.P Px.Ex):Prop:=∀(b ga:Nat) (l:List Lx.Tok) (w:World),Ps b ga l w->AA 216 #[pt b 0,iv d] w λ e w'=>C5 b ga w (q l) e w'
theorem Eb(w:World):(w.alloc zeroE).heap[w.heap.size]?=zeroE:=heap_new w _
theorem Yi{q:Px.P Px.Ex}(hu:Yh d q):He 5 d q:=by
 intro b ga l w h;obtain⟨res,a0⟩:∃res,Aside (res=q l):=⟨_,rfl⟩;rw[<-a0.out];have a8:w≠b:=by have:=h.there;omega
 have a6:w≠ga:=by have:=h.gl;omega
 have h0:=h.alloc zeroE;have a9:=Eb w;have a4:Fo b w w (w.alloc zeroE):=(AT _ _ _).alloc (AD _) _;have a7:w.heap.size<(w.alloc zeroE).heap.size:=by simp
 have hC:=hu b ga l _ h0;go_enter func191,ntmps191;go_wp2_with fail;generalize w.alloc zeroE=w0 at *;refine hC.mono ?_;rcases hq:q l with⟨x,l1⟩ | ⟨a,er⟩
 .rintro e w1 ⟨v,rfl,⟨k,o,n,t,ao,an,ac,p,rfl,hx⟩,h1,a3⟩;have ab:=(a3.block _ a7 a8).trans a9;have ad:w<w1.heap.size:=by have:=a3.size;omega
  have aa:=a4.call a3 a4.size;obtain⟨e0,e1,e2,e3,e4,e5,e6,e7,m0,m1,m2,m3,m4,m5,m6,m7⟩:=Ab ab;have a5:=D3 h1 aa a8 a6 hx (λ g hg=>AL a7 hg);rw[<-a0.out] at hq;replace hq:=(show Aside _ from hq);clear hC;go_wp2;rw[hq.out];exact bodyPost_ret (by simp[results,results191,go_sem,e0,e1,e2,e3,e4,e5,e6,e7]) rfl a5
 .rintro e w1 ⟨rfl,a3⟩;refine⟨rfl,?_⟩;rw[a0.out,hq];exact⟨rfl,a4.call a3 a4.size⟩
theorem chain_fuel{n:Nat}{q:Px.P Px.Ex}(hn:0<n)(hq:Px.Ok q):∀(f g c:Nat) (acc:Px.Ex) (l:List Lx.Tok),Px.Good l->l.length<f->l.length<g->Px.chain n q f c acc l=Px.chain n q g c acc l
 | 0,_,_,_,_,_,h,_=>by omega
 | _,0,_,_,_,_,_,h=>by omega
 | f+1,g+1,c,acc,[],hg,_,_=>by exact absurd hg (by simp[Px.Good])
 | f+1,g+1,c,acc,t :: r,hg,h1,h2=>by
  simp only[Px.chain];by_cases hl:(Px.levelOf t).1=n
  .rw[if_pos hl,if_pos hl];split
   .rfl
   .have hk:=Px.level_kind (t:=t) (by omega);have a0:=hg.tail (by omega);refine Px.bind_congr λ x l1 e1=>?_
    have a1:=(hq r a0).ok x l1 e1;have:=a1.less;simp only[length_cons] at h1 h2;exact chain_fuel hn hq f g (c+1) _ l1 a1.good (by omega) (by omega)
  .rw[if_neg hl,if_neg hl]
structure BinAt(b ga g7:Nat)(w:World)(acc:Px.Ex)(l:List Lx.Tok)(wr:World):Prop where
 ps:Ps b ga l wr
 box:∃k o n t ao an ac p,wr.heap[g7]?=eO k o n t (.slice ao an ac) p/\IsEx (λ g=>w.heap.size<g/\g≠g7) wr acc (eL k o n t (.slice ao an ac) p)
 out:wr.heap[w.heap.size]?=zeroE
 fo:Fo b w w wr
theorem Fq{n:Nat}{q:Px.P Px.Ex}(hn:n<=4)(c5:n≠2)(hd:d<=30)(ar:Px.Ok q)(b6:He (n+1) d q):He n d (Px.level (n+1) q):=by
 intro b ga l w h;obtain⟨res,a0⟩:∃res,Aside (res=Px.level (n+1) q l):=⟨_,rfl⟩;rw[<-a0.out];have au:w≠b:=by have:=h.there;omega
 have b0:w≠ga:=by have:=h.gl;omega
 have h0:=h.alloc zeroE;have ba:=Eb w;have aj:Fo b w w (w.alloc zeroE):=(AT _ _ _).alloc (AD _) _;have b8:w.heap.size<(w.alloc zeroE).heap.size:=by simp
 have af:∀(l:List Lx.Tok) (w:World),Ps b ga l w->AA 191 #[pt b 0,iv ((n:Int)+1),iv d] w λ e w'=>C5 b ga w (q l) e w':=λ l w h=>b6 b ga l w h
 have c4:((n:Int) == 5)=false:=by simp;omega
 have bs:((n:Int) == 2)=false:=by simp;omega
 have c2:(n:Int)<=4:=by omega
 go_enter func191,ntmps191;go_wp2_with fail;generalize w.alloc zeroE=w0 at *;refine (af l w0 h0).mono ?_;rcases hq:q l with⟨x,l1⟩ | ⟨a,er⟩
 .rintro e w1 ⟨v,rfl,⟨k,o,nn,t,ao,an,ac,p,rfl,hx⟩,h1,ai⟩;have ax:=((ar l h0.good).ok x l1 hq).good;replace a0:Aside (res=Px.chain (n+1) q (l1.length+1) 0 x l1):=by
   show _=_;rw[a0.out,Px.level,hq];rfl
  have b9:w<w1.heap.size:=by have:=ai.size;omega
  have hA:BinAt b ga w1 w x l1 (w1.alloc (eO k o nn t (.slice ao an ac) p)):=by
   refine⟨h1.alloc _,⟨k,o,nn,t,ao,an,ac,p,heap_new w1 _,?_⟩,(Al b9).trans ((ai.block _ b8 au).trans ba),(aj.call ai aj.size).alloc (Nat.le_of_lt b9) _⟩;exact (hx.plow (λ g hg hlt=>⟨AL b8 hg,Nat.ne_of_lt hlt⟩)).since (Since.of_below ((AF _ _).alloc (AD _) _))
  have al:w1≠b:=by have:=h1.there;omega
  have bh:w1≠ga:=by have:=h1.gl;omega
  clear hq ba aj ai h0 hx h1 ax;go_wp2_with fail;generalize w1.alloc (eO k o nn t (.slice ao an ac) p)=w2 at *;generalize w1.heap.size=g7 at *
  go_loopg [] (l1.length+1) (λ m wr=>∃(acc:Px.Ex) (l4:List Lx.Tok) (c:Nat),m=l4.length+1/\BinAt b ga g7 w acc l4 wr/\Aside (res=Px.chain (n+1) q (l4.length+1) c acc l4))
  case atStart=>exact⟨x,l1,0,rfl,hA,a0⟩
  case round=>
   clear a0 hA;obtain⟨acc,l4,c,rfl,hA,a0⟩:=hrel;obtain⟨u,rr,rfl,_⟩:=hA.ps.head;have hO:=Hc hA.ps n (by omega);by_cases hlv:(Px.levelOf u).1=n+1
   .have am:opAt n u=(Px.levelOf u).2:=by unfold opAt;rw[if_pos hlv]
    have bu:=Wm u (by omega);have bc:=(Pn u).2;rw[am] at hO;replace a0:Aside (res=Px.bind (q rr) λ x l1=>Px.chain (n+1) q (rr.length+1) (c+1) (.mk 15 (Px.levelOf u).2 0 [] [acc,x] u.place) l1):=by
     show _=_;rw[a0.out];simp only[Px.chain,length_cons];rw[if_pos hlv,if_neg (by omega)]
    have bt:u.kind≠5:=by have:=Px.level_kind (t:=u) (by omega);omega
    clear am hlv;generalize (Px.levelOf u).2=op at *;have bb:((op:Int) == 0)=false:=by simp;omega
    go_wp2_with fail
    refine hO.mono ?_;rintro e w3 ⟨rfl,a3⟩;have bf:=hA.ps.below a3;have bp:=Rn;go_wp2_with fail;refine (ptake_any bf bt).mono ?_;rintro e w4 ⟨rfl,av,ah⟩;have br:Fo b w3 w3 w4:=ah;have az:w<wr.heap.size:=(AB hA.out).1;obtain⟨k,o,nn,t,ao,an,ac,p,a4,a7⟩:=hA.box;have b5:g7<wr:=(AB a4).1;have a5:=(ah.block g7 (by have:=a3.size;omega) al).trans ((a3.block g7 b5).trans a4);have a6:=(ah.block _ (by have:=a3.size;omega) au).trans ((a3.block _ az).trans hA.out);have bg:¬(w<b/\b≠g7):=by have:=h.there;omega
    have ad:=(a7.since (Since.of_below a3)).since (ah.sinceB bg);have ak:=(hA.fo.below a3 hA.fo.size).call ah (by have:=a3.size;have:=hA.fo.size;omega);clear a3 ah br a4 a7 hO bf hA;go_wp2_with fail;refine (af rr w4 av).mono ?_;rcases hqr:q rr with⟨y,l6⟩ | ⟨a,er⟩
    .rintro e w5 ⟨v,rfl,⟨k2,o2,n2,t2,c0,bk,bn,p2,rfl,hy⟩,ay,ag⟩;have c3:=((ar rr av.good).ok y l6 hqr).less;have bi:=((ar rr av.good).ok y l6 hqr).good;replace a0:Aside (res=Px.chain (n+1) q (l6.length+1) (c+1) (.mk 15 op 0 [] [acc,y] u.place) l6):=by
      show _=_;rw[a0.out,hqr];exact chain_fuel (by omega) ar _ _ _ _ _ bi (by omega) (by omega)
     have b7:g7<w4:=(AB a5).1;have b4:w<w4.heap.size:=(AB a6).1;have a8:=(ag.block g7 b7 al).trans a5;have ae:=(ag.block _ b4 au).trans a6;have aq:=ad.since (ag.sinceB bg);have bl:=hy.plow (B':=λ g=>w.heap.size<g/\g≠g7) (λ g hg _=>by have c1:w4.heap.size<=g:=hg;omega);have bj:=ak.call ag ak.size;have bw:g7<w5:=(AB a8).1;have aw:w<w5.heap.size:=(AB ae).1;obtain⟨y0,y1,y2,y3,y4,y5,y6,y7,j0,j1,j2,j3,j4,j5,j6,j7⟩:=Ab a8;clear ag hqr ad a5 a6 hy ak av;go_wp2;obtain⟨bq,a9,c6,bx⟩:=Wn (P:=λ g=>w.heap.size<g/\g≠g7) (kk:=15) (op:=op) (pl:=u.place) (k2:=k2) (o2:=o2) (n2:=n2) (p2:=p2) (t2:=t2) (sl2:=.slice c0 bk bn) (by omega) (λ hh=>hh.2 rfl) a8 rfl;go_roundg (l6.length+1)
     case measure=>simp only[length_cons];omega
     case rel=>
      refine⟨_,l6,c+1,rfl,⟨?_,⟨15,op,0,[],_,2,2,u.place,bq,bx acc y aq bl⟩,?_,?_⟩,a0⟩
      .exact ay.keep (a9.block _ ay.there (by omega)) (a9.block _ ay.gl (by omega)) a9.size
      .exact (a9.block _ aw (by omega)).trans ae
      .exact bj.trans ⟨a9.os,a9.tape,a9.output,a9.size,λ j h1 h2=>a9.block j (by omega) (by omega)⟩
    .rintro e w5 ⟨rfl,ag⟩;refine⟨rfl,?_⟩;rw[a0.out,hqr];exact⟨rfl,ak.call ag ak.size⟩
   .have am:opAt n u=0:=by unfold opAt;rw[if_neg hlv]
    rw[am] at hO;replace a0:Aside (res=.inl (acc,u :: rr)):=by
     show _=_;rw[a0.out];simp only[Px.chain];rw[if_neg hlv]
    clear am hlv;go_wp2_with fail;refine hO.mono ?_;rintro e w3 ⟨rfl,a3⟩;have az:w<wr.heap.size:=(AB hA.out).1;obtain⟨k,o,nn,t,ao,an,ac,p,a4,a7⟩:=hA.box;have b5:g7<wr:=(AB a4).1;have aa:=(a3.block g7 b5).trans a4;have ab:=(a3.block _ az).trans hA.out;have bv:g7<w3:=(AB aa).1;have bo:w<w3.heap.size:=(AB ab).1;have b3:=D3 (hA.ps.below a3) (hA.fo.below a3 hA.fo.size) au b0 (a7.since (Since.of_below a3)) (λ g hg=>hg.1);obtain⟨y0,y1,y2,y3,y4,y5,y6,y7,_⟩:=Ab aa;obtain⟨e0,e1,e2,e3,e4,e5,e6,e7,m0,m1,m2,m3,m4,m5,m6,m7⟩:=Ab ab;clear a3 a4 a7 hO hA;go_wp2;rw[a0.out];exact bodyPost_ret (by simp[results,results191,go_sem,e0,e1,e2,e3,e4,e5,e6,e7]) rfl b3
 .rintro e w1 ⟨rfl,ai⟩;refine⟨rfl,?_⟩;rw[a0.out,Px.level,hq];exact⟨rfl,aj.call ai aj.size⟩
def Kf(q:Px.P Px.Ex)(x:Px.Ex)(l1:List Lx.Tok):Px.R Px.Ex:=
 match l1 with
 | t :: r=>if (Px.levelOf t).1=3 then Px.bind (q r) λ y l2=>.inl (.mk 15 (Px.levelOf t).2 0 [] [x,y] t.place,l2) else .inl (x,t :: r)
 | []=>.inr (0,0)
theorem Ad9{q:Px.P Px.Ex}(hd:d<=30)(c2:Px.Ok q)(b6:He 3 d q):He 2 d (Px.cmp q):=by
 intro b ga l w h;obtain⟨res,a0⟩:∃res,Aside (res=Px.cmp q l):=⟨_,rfl⟩;rw[<-a0.out];have ar:w≠b:=by have:=h.there;omega
 have au:w≠ga:=by have:=h.gl;omega
 have h0:=h.alloc zeroE;have bf:=Eb w;have am:Fo b w w (w.alloc zeroE):=(AT _ _ _).alloc (AD _) _;have b9:w.heap.size<(w.alloc zeroE).heap.size:=by simp
 have ag:∀(l:List Lx.Tok) (w:World),Ps b ga l w->AA 191 #[pt b 0,iv 3,iv d] w λ e w'=>C5 b ga w (q l) e w':=λ l w h=>b6 b ga l w h
 go_enter func191,ntmps191;go_wp2_with fail;generalize w.alloc zeroE=w0 at *;refine (ag l w0 h0).mono ?_;rcases hq:q l with⟨x,l1⟩ | ⟨a,er⟩
 .rintro e w1 ⟨v,rfl,⟨k,o,nn,t,ao,an,ac,p,rfl,hx⟩,h1,al⟩;replace a0:Aside (res=Kf q x l1):=by
   show _=_;rw[a0.out,Px.cmp,hq];rfl
  have bc:w<w1.heap.size:=by have:=al.size;omega
  have hA:BinAt b ga w1 w x l1 (w1.alloc (eO k o nn t (.slice ao an ac) p)):=by
   refine⟨h1.alloc _,⟨k,o,nn,t,ao,an,ac,p,heap_new w1 _,?_⟩,(Al bc).trans ((al.block _ b9 ar).trans bf),(am.call al am.size).alloc (Nat.le_of_lt bc) _⟩;exact (hx.plow (λ g hg hlt=>⟨AL b9 hg,Nat.ne_of_lt hlt⟩)).since (Since.of_below ((AF _ _).alloc (AD _) _))
  have av:w1≠b:=by have:=h1.there;omega
  have bo:w1≠ga:=by have:=h1.gl;omega
  clear hq bf am al h0 hx h1;go_wp2_with fail;generalize w1.alloc (eO k o nn t (.slice ao an ac) p)=w2 at *;generalize w1.heap.size=g7 at *
  go_loopg [] 1 (λ m wr=>∃(acc:Px.Ex) (l4:List Lx.Tok),m=1/\BinAt b ga g7 w acc l4 wr/\Aside (res=Kf q acc l4))
  case atStart=>exact⟨x,l1,rfl,hA,a0⟩
  case round=>
   clear a0 hA;obtain⟨acc,l4,rfl,hA,a0⟩:=hrel;obtain⟨u,rr,rfl,_⟩:=hA.ps.head;have hO:=Hc hA.ps 2 (by omega);by_cases hlv:(Px.levelOf u).1=3
   .have aw:opAt 2 u=(Px.levelOf u).2:=by unfold opAt;rw[if_pos hlv]
    have bv:=Wm u (by omega);have bj:=(Pn u).2;rw[aw] at hO;replace a0:Aside (res=Px.bind (q rr) λ y l2=>.inl (.mk 15 (Px.levelOf u).2 0 [] [acc,y] u.place,l2)):=by
     show _=_;rw[a0.out];simp only[Kf];rw[if_pos hlv]
    have bu:u.kind≠5:=by have:=Px.level_kind (t:=u) (by omega);omega
    clear aw hlv;generalize (Px.levelOf u).2=op at *;have bi:((op:Int) == 0)=false:=by simp;omega
    go_wp2_with fail
    refine hO.mono ?_;rintro e w3 ⟨rfl,a3⟩;have bk:=hA.ps.below a3;have bq:=Rn;go_wp2_with fail;refine (ptake_any bk bu).mono ?_;rintro e w4 ⟨rfl,bh,ak⟩;have bs:Fo b w3 w3 w4:=ak;have b3:w<wr.heap.size:=(AB hA.out).1;obtain⟨k,o,nn,t,ao,an,ac,p,a4,a8⟩:=hA.box;have b5:g7<wr:=(AB a4).1;have a6:=(ak.block g7 (by have:=a3.size;omega) av).trans ((a3.block g7 b5).trans a4);have a7:=(ak.block _ (by have:=a3.size;omega) ar).trans ((a3.block _ b3).trans hA.out);have bl:¬(w<b/\b≠g7):=by have:=h.there;omega
    have ae:=(a8.since (Since.of_below a3)).since (ak.sinceB bl);have aq:=(hA.fo.below a3 hA.fo.size).call ak (by have:=a3.size;have:=hA.fo.size;omega);clear a3 ak bs a4 a8 hO bk hA;go_wp2_with fail;refine (ag rr w4 bh).mono ?_;rcases hqr:q rr with⟨y,l6⟩ | ⟨a,er⟩
    .rintro e w5 ⟨v,rfl,⟨k2,o2,n2,t2,b7,az,b0,p2,rfl,hy⟩,ax,ai⟩;replace a0:Aside (res=.inl (.mk 15 op 0 [] [acc,y] u.place,l6)):=by
      show _=_;rw[a0.out,hqr];rfl
     have b8:g7<w4:=(AB a6).1;have b4:w<w4.heap.size:=(AB a7).1;have a5:=(ai.block g7 b8 av).trans a6;have a9:=(ai.block _ b4 ar).trans a7;have ah:=ae.since (ai.sinceB bl);have bb:=hy.plow (B':=λ g=>w.heap.size<g/\g≠g7) (λ g hg _=>by have c3:w4.heap.size<=g:=hg;omega);have ba:=aq.call ai aq.size;have c0:g7<w5:=(AB a5).1;have ay:w<w5.heap.size:=(AB a9).1;obtain⟨y0,y1,y2,y3,y4,y5,y6,y7,j0,j1,j2,j3,j4,j5,j6,j7⟩:=Ab a5;clear ai hqr ae a6 a7 hy aq bh
     go_upto_region 10 with fail
     generalize hw9:((eS w5 g7 15 op 0 [] (sL (w5.heap.size+1) 0 2 2) u.place).alloc (eO k2 o2 n2 t2 (.slice b7 az b0) p2)).alloc (.cells #[iv k,iv o,iv nn,.string ⟨t.toArray⟩,iv 0,sE,.slice ao an ac,iv p,iv k2,iv o2,iv n2,.string ⟨t2.toArray⟩,iv 0,sE,.slice b7 az b0,iv p2] 48)=w9 at *;obtain⟨bg,aa,c4,bn⟩:=Wn (P:=λ g=>w.heap.size<g/\g≠g7) (kk:=15) (op:=op) (pl:=u.place) (k2:=k2) (o2:=o2) (n2:=n2) (p2:=p2) (t2:=t2) (sl2:=.slice b7 az b0) (by omega) (λ hh=>hh.2 rfl) a5 hw9.symm;have af:=(aa.block _ ay (by omega)).trans a9;have br:Ps b ga l6 w9:=ax.keep (aa.block _ ax.there (by omega)) (aa.block _ ax.gl (by omega)) aa.size;have bw:Fo b w w w9:=ba.trans ⟨aa.os,aa.tape,aa.output,aa.size,λ j h1 h2=>aa.block j (by omega) (by omega)⟩;have aj:=D3 br bw ar au (bn acc y ah bb) (λ g hg=>hg.1);have c1:g7<w9:=(AB bg).1;have bt:w<w9.heap.size:=(AB af).1;obtain⟨z0,z1,z2,z3,z4,z5,z6,z7,_⟩:=Ab bg;obtain⟨e0,e1,e2,e3,e4,e5,e6,e7,m0,m1,m2,m3,m4,m5,m6,m7⟩:=Ab af;clear hw9 y0 y1 y2 y3 y4 y5 y6 y7 j0 j1 j2 j3 j4 j5 j6 j7 bn aa a5 a9 ah bb ba ax;go_wp2;rw[a0.out];exact bodyPost_ret (by simp[results,results191,go_sem,e0,e1,e2,e3,e4,e5,e6,e7]) rfl aj
    .rintro e w5 ⟨rfl,ai⟩;refine⟨rfl,?_⟩;rw[a0.out,hqr];exact⟨rfl,aq.call ai aq.size⟩
   .have aw:opAt 2 u=0:=by unfold opAt;rw[if_neg hlv]
    rw[aw] at hO;replace a0:Aside (res=.inl (acc,u :: rr)):=by
     show _=_;rw[a0.out];simp only[Kf];rw[if_neg hlv]
    clear aw hlv;go_wp2_with fail;refine hO.mono ?_;rintro e w3 ⟨rfl,a3⟩;have b3:w<wr.heap.size:=(AB hA.out).1;obtain⟨k,o,nn,t,ao,an,ac,p,a4,a8⟩:=hA.box;have b5:g7<wr:=(AB a4).1;have ab:=(a3.block g7 b5).trans a4;have ad:=(a3.block _ b3).trans hA.out;have bx:g7<w3:=(AB ab).1;have bp:w<w3.heap.size:=(AB ad).1;have aj:=D3 (hA.ps.below a3) (hA.fo.below a3 hA.fo.size) ar au (a8.since (Since.of_below a3)) (λ g hg=>hg.1);obtain⟨y0,y1,y2,y3,y4,y5,y6,y7,_⟩:=Ab ab;obtain⟨e0,e1,e2,e3,e4,e5,e6,e7,m0,m1,m2,m3,m4,m5,m6,m7⟩:=Ab ad;clear a3 a4 a8 hO hA;go_wp2;rw[a0.out];exact bodyPost_ret (by simp[results,results191,go_sem,e0,e1,e2,e3,e4,e5,e6,e7]) rfl aj
 .rintro e w1 ⟨rfl,al⟩;refine⟨rfl,?_⟩;rw[a0.out,Px.cmp,hq];exact⟨rfl,am.call al am.size⟩
def Ei(d:Nat)(q:Px.P Px.Ex):Prop:=∀(b ga:Nat) (l:List Lx.Tok) (w:World),Ps b ga l w->AA 164 #[pt b 0,iv d] w λ e w'=>C5 b ga w (q l) e w'
theorem Yj{q:Px.P Px.Ex}(hu:He 0 d q):Ei d q:=by
 intro b ga l w h;obtain⟨res,a0⟩:∃res,Aside (res=q l):=⟨_,rfl⟩;rw[<-a0.out];have a8:w≠b:=by have:=h.there;omega
 have a6:w≠ga:=by have:=h.gl;omega
 have h0:=h.alloc zeroE;have a9:=Eb w;have a4:Fo b w w (w.alloc zeroE):=(AT _ _ _).alloc (AD _) _;have a7:w.heap.size<(w.alloc zeroE).heap.size:=by simp
 have hC:=hu b ga l _ h0;go_enter func164,ntmps164;go_wp2_with fail;generalize w.alloc zeroE=w0 at *;refine hC.mono ?_;rcases hq:q l with⟨x,l1⟩ | ⟨a,er⟩
 .rintro e w1 ⟨v,rfl,⟨k,o,n,t,ao,an,ac,p,rfl,hx⟩,h1,a3⟩;have ab:=(a3.block _ a7 a8).trans a9;have ad:w<w1.heap.size:=by have:=a3.size;omega
  have aa:=a4.call a3 a4.size;obtain⟨e0,e1,e2,e3,e4,e5,e6,e7,m0,m1,m2,m3,m4,m5,m6,m7⟩:=Ab ab;have a5:=D3 h1 aa a8 a6 hx (λ g hg=>AL a7 hg);rw[<-a0.out] at hq;replace hq:=(show Aside _ from hq);clear hC;go_wp2;rw[hq.out];exact bodyPost_ret (by simp[results,results164,go_sem,e0,e1,e2,e3,e4,e5,e6,e7]) rfl a5
 .rintro e w1 ⟨rfl,a3⟩;refine⟨rfl,?_⟩;rw[a0.out,hq];exact⟨rfl,a4.call a3 a4.size⟩
theorem Nz{q:Px.P Px.Ex}(hd:d<=30)(a0:Px.Ok q)(hu:Yh d q):Ei d (Px.lvl' q):=by
 have o5:=Px.level_ok a0 (n:=5) (by decide);have o4:=Px.level_ok o5 (n:=4) (by decide);have o3:=Px.cmp_ok o4;have o2:=Px.level_ok o3 (n:=2) (by decide);have b5:=Yi hu;have b4:He 4 d (Px.level 5 q):=Fq (by decide) (by decide) hd a0 b5;have b3:He 3 d (Px.level 4 (Px.level 5 q)):=Fq (by decide) (by decide) hd o5 b4;have b2:=Ad9 hd o4 b3;have b1:He 1 d (Px.level 2 (Px.cmp (Px.level 4 (Px.level 5 q)))):=Fq (by decide) (by decide) hd o3 b2;have b0:He 0 d (Px.level 1 (Px.level 2 (Px.cmp (Px.level 4 (Px.level 5 q))))):=Fq (by decide) (by decide) hd o2 b1;exact Yj b0
theorem Rz:(prog.info? 48).map (λ i=>(i.zero,i.size,i.bytes))=some (some (eV 0 0 0 [] sZ 0),8,96):=by kernel_rfl
abbrev Fr(d:Nat):Obj:=.cells #[iv d] 3 (0,0)
abbrev Fy:List Value:=eL 0 0 0 [] sZ 0
def F0(m:Nat)(w:World)(sl:Value)(acc:List Px.Ex):Prop:=∃row,w.ownsRow m 48 8 sl acc.length row/\Ai (λ k=>m<=k/\sl.ownBlock≠some k) w acc row
theorem F0.nil(m:Nat)(w:World):F0 m w sZ []:=⟨[],⟨rfl,AI ⟨rfl,rfl⟩⟩,by rw[Ai]⟩
theorem F0.fo{acc:List Px.Ex}(h:F0 m w sl acc)(f:Fo b w w w')(hb:b<m):F0 m w' sl acc:=by
 obtain⟨row,h1,h2⟩:=h;exact⟨row,Bl h1 f hb,h2.since (f.sinceB (λ hh=>by omega))⟩
theorem F0.rows{acc:List Px.Ex}{B:AS}(h:F0 m w sl acc)(hB:∀k,m<=k->k<w.heap.size->B k):∃row,SlRow B w 8 sl acc.length row/\Ai B w acc row:=by
 obtain⟨row,h1,h2⟩:=h;exact⟨row,Dp h1 hB,h2.plow (λ k hk hl=>hB k hk.1 hl)⟩
structure Grew(w4 w5:World)(sl:Value)(g:Nat):Prop where
 os:w5.os=w4.os
 tape:w5.tape=w4.tape
 output:w5.output=w4.output
 size:w4<=w5.heap.size
 block:∀k,k<w4.heap.size->some k≠sl.ownBlock->w5.heap[k]?=w4.heap[k]?
 place:sl.ownBlock=g\/w4<=g
theorem Ar8{w4 w5:World}(a0:w4.grownBy w5 sl.ownBlock)(a3:sl.ownBlock=g\/g=w4.heap.size):Grew w4 w5 sl g:=
 ⟨a0.os,a0.tape,a0.output,a0.size,a0.block,a3.imp id (λ h=>by omega)⟩
theorem N0{w4 w5:World}{o:Obj}(a0:(w4.alloc o).grownBy w5 sl.ownBlock)(a3:sl.ownBlock=g\/g=w4.heap.size+1):Grew w4 w5 sl g:=
 ⟨a0.os,a0.tape,a0.output,by have:=a0.size;simp at this;omega,λ k h1 h2=>(a0.block k (by simp;omega) h2).trans (Al h1),a3.imp id (λ h=>by omega)⟩
def Fa(w:World)(g:Nat):Nat->List Value->World
 | _,[]=>w
 | o,v :: vs=>Fa (w.setCell ⟨g,o,none⟩ v) g (o+1) vs
theorem Ej{g k:Nat}(hk:k≠g):∀(vs:AR) (w:World) (o:Nat),(Fa w g o vs).heap[k]?=w.heap[k]?
 | [],w,o=>rfl
 | v :: vs,w,o=>(Ej hk vs _ _).trans (AG _ _ _ _ hk)
theorem Pp{g n:Nat}:∀(vs:AR) (w:World) (o:Nat),Fo g n w (Fa w g o vs)
 | [],w,o=>AT _ _ _
 | v :: vs,w,o=>(Fo.set o v).trans (Pp vs _ _)
theorem Jb{g:Nat}:∀(vs:AR) (w:World) (o:Nat),(Fa w g o vs).heap.size=w.heap.size
 | [],w,o=>rfl
 | v :: vs,w,o=>(Jb vs _ _).trans (by simp[World.setCell])
theorem R0{g:Nat}{T:TypeId}:∀(vs:AR) (w:World) (o:Nat) (cur:Array Value),w.heap[g]?=some (.cells cur T (0,0))->o+vs.length<=cur.size ->
  ∃a0:Array Value,(Fa w g o vs).heap[g]?=some (.cells a0 T (0,0))/\a0.size=cur.size/\a0.toList=cur.toList.take o ++ vs ++ cur.toList.drop (o+vs.length)
 | [],w,o,cur,h,hs=>⟨cur,h,rfl,by simp⟩
 | v :: vs,w,o,cur,h,hs=>by
  simp only[length_cons] at hs;have h1:(w.setCell ⟨g,o,none⟩ v).heap[g]?=some (.cells (cur.setIfInBounds o v) T (0,0)):=by
   simp[World.setCell,Array.getElem?_modify,h]
  obtain⟨a0,h2,h3,h4⟩:=R0 vs _ (o+1) _ h1 (by simp;omega);refine⟨a0,h2,by simpa using h3,?_⟩;rw[h4];have a3:o<cur.toList.length:=by simp;omega
  simp only[Array.toList_setIfInBounds,length_cons];rw[take_succ_eq_append_getElem (by simpa using a3),take_set_of_le (Nat.le_refl _),List.getElem_set_self,drop_set_of_lt (by omega)];simp[Nat.add_assoc,Nat.add_comm,Nat.add_left_comm]
theorem N1{n cap:Nat}{row old:AR}(h:w.ownsRow m T sz (sL g 0 (n+1) cap) (n+1) (row ++ old))(hr:row.length=n*sz)(ho:old.length=sz)(hc:cs.length=sz) :
  (Fa w g (n*sz) cs).ownsRow m T sz (sL g 0 (n+1) cap) (n+1) (row ++ cs):=by
 obtain⟨h1,h2⟩:=h;rcases h2 with⟨hv,_⟩ | ⟨g',a4,cur,hv,hg,hh,hn,hm,hs,ht⟩
 .simp at hv
 .simp only[Value.slice.injEq,Option.some.injEq,Addr.mk.injEq,and_true,true_and] at hv;obtain⟨rfl,rfl⟩:=hv;have a6:(n+1)*sz<=cur.size:=by rw[hs];exact Nat.mul_le_mul_right _ hn
  have a5:(n+1)*sz=n*sz+sz:=by rw[Nat.add_mul,Nat.one_mul]
  obtain⟨a3,k1,k2,k3⟩:=R0 cs w (n*sz) cur hh (by omega);refine⟨by simp;omega,AJ ⟨g,cap,a3,rfl,hg,k1,hn,hm,by omega,?_⟩⟩;have a0:cur.toList.take (n*sz)=row:=by
   have:=congrArg (List.take (n*sz)) ht;rw[take_take,Nat.min_eq_left (by omega),take_left' hr] at this;exact this
  rw[k3,a0,take_left' (by simp;omega)]
theorem N2{n cap:Nat}{row old:AR}(h:w.ownsRow m T sz (sL g 0 (n+1) cap) (n+1) (row ++ old))(hr:row.length=n*sz):∀(j:Nat) (u:Value),old[j]?=u->w.cell? ⟨g,n*sz+j,none⟩=u/\w.frozen? ⟨g,n*sz+j,none⟩=false:=by
 obtain⟨h1,h2⟩:=h;rcases h2 with⟨hv,_⟩ | ⟨g',a0,cur,hv,hg,hh,hn,hm,hs,ht⟩
 .simp at hv
 .simp only[Value.slice.injEq,Option.some.injEq,Addr.mk.injEq,and_true,true_and] at hv;obtain⟨rfl,rfl⟩:=hv;intro j u hj;have hx:(row ++ old)[n*sz+j]?=u:=by rw[List.getElem?_append_right (by omega),hr,Nat.add_sub_cancel_left];exact hj
  rw[<-ht,List.getElem?_take] at hx;split at hx
  .exact⟨by rw[Lib.cell_of_heap hh];simpa using hx,by simp[World.frozen?,hh]⟩
  .simp at hx
theorem Yk{w4 w5 w6:World}{a3:Nat}{acc:List Px.Ex}{row:AR}{x:Px.Ex}(a7:w4.ownsRow m 48 8 sl acc.length row)(a6:Ai (λ k=>m<=k/\sl.ownBlock≠some k) w4 acc row)(hx:IsEx (λ k=>m<=k/\sl.ownBlock≠some k) w4 x cs)
  (hG:Grew w4 w5 sl g) (hown6:w6.ownsRow m 48 8 (sL g 0 (acc.length+1) a3) (acc.length+1) (row ++ cs)) (h56:∀k,k<w5.heap.size->m<=k->k≠g->w6.heap[k]?=w5.heap[k]?) (hs:w5<=w6.heap.size) :
  F0 m w6 (sL g 0 (acc.length+1) a3) (acc ++ [x]):=by
 have a8:∀k,m<=k/\sl.ownBlock≠some k->k<w4.heap.size->k≠g:=by
  intro k hk hl he;subst he;rcases hG.place with h | h
  .exact hk.2 h
  .omega
 have a4:Since (λ k=>m<=k/\sl.ownBlock≠some k) w4 w6:=⟨AP hG.size hs,λ k h1 h2=>(h56 k (AL h2 hG.size) h1.1 (a8 k h1 h2)).trans (hG.block k h2 (λ e=>h1.2 e.symm))⟩;refine⟨row ++ cs,by simpa using hown6,?_⟩;have a5:∀k,(m<=k/\sl.ownBlock≠some k)->k<w4.heap.size->m<=k/\(sL g 0 (acc.length+1) a3).ownBlock≠some k:=λ k h1 h2=>⟨h1.1,λ e=>a8 k h1 h2 (by simpa [Value.ownBlock] using e.symm)⟩
 have a0:Since (λ k=>m<=k/\(sL g 0 (acc.length+1) a3).ownBlock≠some k/\(m<=k/\sl.ownBlock≠some k)) w4 w6:=⟨a4.size,λ k h1 h2=>a4.block k h1.2.2 h2⟩;exact ((a6.plow (B':=λ k=>m<=k/\(sL g 0 (acc.length+1) a3).ownBlock≠some k/\(m<=k/\sl.ownBlock≠some k)) (λ k h1 h2=>⟨h1.1,(a5 k h1 h2).2,h1⟩)).since a0 |>.base (λ k h=>⟨h.1,h.2.1⟩)).snoc
  ((hx.plow (B':=λ k=>m<=k/\(sL g 0 (acc.length+1) a3).ownBlock≠some k/\(m<=k/\sl.ownBlock≠some k)) (λ k h1 h2=>⟨h1.1,(a5 k h1 h2).2,h1⟩)).since a0 |>.base (λ k h=>⟨h.1,h.2.1⟩))
end
section
abbrev wpE:=@Vv.wpE
abbrev wpE_any:=@Vv.wpE_any
abbrev wpE_first:=@Vv.wpE_first
abbrev lateWait:=@Vv.lateWait
abbrev lateWait_spec:=@Vv.lateWait_spec
abbrev wpE_take:=@Vv.wpE_take
abbrev wpE_takeL:=@Vv.wpE_takeL
abbrev wpE_one:=@Vv.wpE_one
abbrev wpE_two:=@Vv.wpE_two
abbrev wpE_done:=@Vv.wpE_done
abbrev wpE_begin:=@Vv.wpE_begin
end
section
open Go.RowKit
theorem Li(w:World)(p:Addr)(v:Value):(w.setCell p v).os=w.os:=rfl
theorem Ik(w:World)(p:Addr)(v:Value):(w.setCell p v).tape=w.tape:=rfl
theorem Ga(w:World)(p:Addr)(v:Value):(w.setCell p v).output=w.output:=rfl
theorem R1{n gx F a0:Nat}{w4 w5 w7:World}{acc:List Px.Ex}{row:AR}{x:Px.Ex}{l':List Lx.Tok}{k o nn a5 a7:Nat}{t:Lx.B}{a6:Option Addr}{O:Value->Obj}
  (hset:∀w':World,w'.heap[gx]?=some (O sl)->∀v,(w'.setCell ⟨gx,F,none⟩ v).heap[gx]?=some (O v))
  (hm:gx<m) (hmw:m<=w) (hb:b<gx) (hga:ga<gx) (hnx:n<=gx) (hnw:n<=w) (hx:w.heap[gx]?=some (O sl)) (hown:w.ownsRow m 48 8 sl acc.length row) (hall:Ai (λ k=>m<=k/\sl.ownBlock≠some k) w acc row)
  (hxx:IsEx (From w) w4 x (eL k o nn t (.slice a6 a5 a7) p)) (h4:Ps b ga l' w4) (fo4:Fo b w w w4) (hG:Grew w4 w5 sl g) (hown5:w5.ownsRow m 48 8 (sL g 0 (acc.length+1) a0) (acc.length+1) (row ++ Fy))
  (h7:w7=(Fa w5 g (acc.length*8) (eL k o nn t (.slice a6 a5 a7) p)).setCell ⟨gx,F,none⟩ (sL g 0 (acc.length+1) a0)\/w7=Fa (w5.setCell ⟨gx,F,none⟩ (sL g 0 (acc.length+1) a0)) g (acc.length*8) (eL k o nn t (.slice a6 a5 a7) p)) :
  F0 m w7 (sL g 0 (acc.length+1) a0) (acc ++ [x])/\w7.heap[gx]?=some (O (sL g 0 (acc.length+1) a0))/\Fo b n w w7/\Ps b ga l' w7/\∀k,k<m->k≠b->k≠gx->w7.heap[k]?=w.heap[k]?:=by
 have ae:gx<w:=(AB hx).1;have a4:=Bl hown fo4 (by omega);have ad:gx<w4:=AL ae fo4.size;have al:=hown5.lt g rfl;have ab:∀k,k<m->some k≠sl.ownBlock:=λ k hk e=>by have:=(a4.lt k e.symm).1;omega
 have af:w5.heap[gx]?=some (O sl):=(hG.block gx ad (ab gx hm)).trans ((fo4.block gx ae (by omega)).trans hx);have ag:=hown.1;have ah:(eL k o nn t (.slice a6 a5 a7) p).length=8:=rfl;have hz:Fy.length=8:=rfl;have a3:∀j,j≠g->j≠gx->w7.heap[j]?=w5.heap[j]?:=by
  intro j h1 h2;rcases h7 with rfl | rfl
  .exact (AG _ _ _ _ h2).trans (Ej h1 _ _ _)
  .exact (Ej h1 _ _ _).trans (AG _ _ _ _ h2)
 have ak:w7=w5.heap.size:=by
  rcases h7 with rfl | rfl
  .simp[World.setCell,Jb]
  .rw[Jb];simp[World.setCell]
 have hq:w7.os=w5.os/\w7.tape=w5.tape/\w7.output=w5.output:=by
  rcases h7 with rfl | rfl
  .have f:=Pp (g:=g) (n:=0) (eL k o nn t (.slice a6 a5 a7) p) w5 (acc.length*8);exact⟨(Li _ _ _).trans f.os,(Ik _ _ _).trans f.tape,(Ga _ _ _).trans f.output⟩
  .have f:=Pp (g:=g) (n:=0) (eL k o nn t (.slice a6 a5 a7) p) (w5.setCell ⟨gx,F,none⟩ (sL g 0 (acc.length+1) a0)) (acc.length*8);exact⟨f.os.trans (Li _ _ _),f.tape.trans (Ik _ _ _),f.output.trans (Ga _ _ _)⟩
 have ai:w7.heap[gx]?=some (O (sL g 0 (acc.length+1) a0)):=by
  rcases h7 with rfl | rfl
  .exact hset _ ((Ej (by omega) _ _ _).trans af) _
  .exact (Ej (by omega) _ _ _).trans (hset _ af _)
 have aa:w7.ownsRow m 48 8 (sL g 0 (acc.length+1) a0) (acc.length+1) (row ++ eL k o nn t (.slice a6 a5 a7) p):=by
  rcases h7 with rfl | rfl
  .exact ownsRow_setCell_below (N1 hown5 ag hz ah) (by show gx<m;omega) _
  .exact N1 (ownsRow_setCell_below hown5 (a:=⟨gx,F,none⟩) (by show gx<m;omega) _) ag hz ah
 clear h7;have aj:=fo4.size;have a8:∀k,k<m->k≠b->k≠gx->w7.heap[k]?=w.heap[k]?:=λ k h1 h2 h3=>(a3 k (by omega) h3).trans ((hG.block k (by omega) (ab k h1)).trans (fo4.block k (by omega) h2))
 have a9:=hall.since (fo4.sinceB (λ hh=>by omega));refine⟨Yk a4 a9 (hxx.plow (λ k hk _=>⟨by have:w.heap.size<=k:=hk;omega,λ e=>by have:=(hown.lt k e).2;have:w.heap.size<=k:=hk;omega⟩)) hG aa (λ k h1 h2 h3=>a3 k h3 (by omega)) (by omega),ai,⟨hq.1.trans (hG.os.trans fo4.os),hq.2.1.trans (hG.tape.trans fo4.tape),hq.2.2.trans (hG.output.trans fo4.output),by have:=hG.size;have:=fo4.size;omega,λ k h1 h2=>a8 k (by omega) h2 (by omega)⟩,?_,λ k h1 h2 h3=>a8 k h1 h2 h3⟩;exact h4.keep ((a3 b (by omega) (by omega)).trans (hG.block b (by omega) (ab b (by omega)))) ((a3 ga (by omega) (by omega)).trans (hG.block ga (by omega) (ab ga (by omega)))) (by have:=hG.size;omega)
structure ArgBox(b gp gd gx d:Nat)(nm:Lx.B)(pl:Nat)(acc:List Px.Ex)(w:World):Prop where
 ptr:w.heap[gp]?=some (C3 b)
 dep:w.heap[gd]?=some (Fr d)
 box:∃sl,w.heap[gx]?=eO 7 0 0 nm sl pl/\F0 (gx+1) w sl acc
theorem ArgBox.fo{gd gx:Nat}{nm:Lx.B}{acc:List Px.Ex}(h:ArgBox b gp gd gx d nm pl acc w)(f:Fo b w w w')(h1:b<gp)(h2:gp<gd)(h3:gd<gx):ArgBox b gp gd gx d nm pl acc w':=by
 obtain⟨hp,hd,sl,hx,hg⟩:=h;exact⟨(f.block gp (AB hp).1 (by omega)).trans hp,(f.block gd (AB hd).1 (by omega)).trans hd,sl,(f.block gx (AB hx).1 (by omega)).trans hx,hg.fo f (by omega)⟩
theorem Ae0{n gd gx:Nat}{nm:Lx.B}{q:Px.P Px.Ex}(hd:d<=30)(al:Ei (d+1) q)(h1:b<gp)(h2:gp<gd)(h3:gd<gx)(bi:ga<gp)(bf:n<=gx)(acc:List Px.Ex)(l:List Lx.Tok)(w:World)(h:Ps b ga l w)(hi:ArgBox b gp gd gx d nm pl acc w)(hn:n<=w)(bh:acc.length+l.length<=4096) :
  AA 232 #[pt gx 0,pt gp 0,pt gd 0] w λ e w'=>Df b ga n (ArgBox b gp gd gx d nm pl) acc w (q l) e w':=by
 obtain⟨i0,aw,aq,ay,av⟩:=info_parts Rz;obtain⟨hp,ai,sl,hx,row,aa,aj⟩:=hi;have b0:gp<w:=(AB hp).1;have am:gd<w:=(AB ai).1;have af:gx<w:=(AB hx).1;have c0:=cell_of_one hp;have d0:=cell_of_one ai;have c6:w.cell? ⟨gx,6,none⟩=sl:=by simp[World.cell?,hx]
 have k6:w.frozen? ⟨gx,6,none⟩=false:=by simp[World.frozen?,hx]
 obtain⟨ao,cap,rfl⟩:=A5 aa;have hC:∀w',Ps b ga l w'->AA 164 #[pt b 0,iv ((d:Int)+1)] w' λ e w''=>C5 b ga w' (q l) e w'':=λ w' h'=>al b ga l w' h'
 have bk:(d:Int)<=30:=by omega
 have bj:IntKind.i64.wrap ((d:Int)+1)=(d:Int)+1:=IntWalk.i64_in _ (by omega);have ax:Ps b ga l w.drew:=h.keep rfl rfl (AD _);have au:∀o,Ps b ga l (w.alloc o).drew:=λ o=>(h.alloc o).keep rfl rfl (AD _)
 have az:∀o,(w.alloc o).drew.cell? gp=pt b 0/\(w.alloc o).drew.cell? gd=iv d/\(w.alloc o).drew.cell? ⟨gx,6,none⟩=some (.slice ao acc.length cap):=λ o=>⟨(World.cell?_of_block (w:=w) (Al b0)).trans c0,(World.cell?_of_block (w:=w) (Al am)).trans d0,(World.cell?_of_block (w:=w) (Al af)).trans c6⟩
 have ba:(acc.length:Int)<(acc.length:Int)+1:=by omega
 have bl:acc.length<=4096:=by omega
 rcases hq:q l with⟨x,l'⟩ | ⟨a,er⟩
 .rw[hq] at hC;have bc:AA 164 #[pt b 0,iv ((d:Int)+1)] w.drew λ e w''=>∃k o nn t a5 a3 a4 p,e=.returned (eV k o nn t (.slice a5 a3 a4) p)/\IsEx (From w) w'' x (eL k o nn t (.slice a5 a3 a4) p)/\Ps b ga l' w''/\Fo b w w w'':=by
   refine (hC _ ax).mono ?_;rintro e w'' ⟨v,rfl,⟨k,o,nn,t,a5,a3,a4,p,rfl,a8⟩,h4,a0⟩;exact⟨k,o,nn,t,a5,a3,a4,p,rfl,a8,h4,(AV b _ w).trans a0⟩
  have b8:∀o,AA 164 #[pt b 0,iv ((d:Int)+1)] (w.alloc o).drew λ e w''=>∃k o1 nn t a5 a3 a4 p,e=.returned (eV k o1 nn t (.slice a5 a3 a4) p)/\IsEx (From w) w'' x (eL k o1 nn t (.slice a5 a3 a4) p)/\Ps b ga l' w''/\Fo b w w w''/\w''.heap[w.heap.size]?=some o:=by
   intro o;refine (hC _ (au o)).mono ?_;rintro e w'' ⟨v,rfl,⟨k,o1,nn,t,a5,a3,a4,p,rfl,a8⟩,h4,a0⟩;have bg:(w.alloc o).drew.heap.size=w.heap.size+1:=by show (w.alloc o).heap.size=_;simp
   refine⟨k,o1,nn,t,a5,a3,a4,p,rfl,a8.base (Cb (by omega)),h4,(((AT b _ w).alloc (AD _) o).trans (AV _ _ _)).trans (a0.mono (by omega)),?_⟩;rw[a0.block _ (by omega) (by have:=h.there;omega)];exact heap_new w o
  have ad:∀w4,Fo b w w w4->w4.cell? gp=pt b 0/\w4.cell? gd=iv d/\w4.cell? ⟨gx,6,none⟩=some (.slice ao acc.length cap)/\gx<w4/\w4.ownsRow (gx+1) 48 8 (.slice ao acc.length cap) acc.length row:=λ w4 f=>⟨(f.cell b0 (by omega)).trans c0,(f.cell am (by omega)).trans d0,(f.cell af (by omega)).trans c6,AL af f.size,Bl aa f (by omega)⟩
  have ag:∀(w4:World) (o:Obj),Fo b w w w4->(w4.cell? gp=pt b 0/\w4.cell? gd=iv d/\w4.cell? ⟨gx,6,none⟩=some (.slice ao acc.length cap))->(w4.alloc o).cell? gp=pt b 0/\(w4.alloc o).cell? gd=iv d/\(w4.alloc o).cell? ⟨gx,6,none⟩=some (.slice ao acc.length cap):=λ w4 o f hh=>by
   have:=f.size;exact⟨(World.cell?_of_block (w:=w4) (Al (by show gp<_;omega))).trans hh.1,(World.cell?_of_block (w:=w4) (Al (by show gd<_;omega))).trans hh.2.1,(World.cell?_of_block (w:=w4) (Al (by show gx<_;omega))).trans hh.2.2⟩
  clear hC hq;have ae:∀(w4 w5:World) (g cap5:Nat),Fo b w w w4->Grew w4 w5 (.slice ao acc.length cap) g->w5.ownsRow (gx+1) 48 8 (sL g 0 (acc.length+1) cap5) (acc.length+1) (row ++ Fy) ->
    w5.cell? ⟨gx,6,none⟩=some (.slice ao acc.length cap)/\w5.frozen? ⟨gx,6,none⟩=false/\gx<g/\g<w5/\acc.length+1<=cap5:=by
   intro w4 w5 g cap5 f hG ho;obtain⟨f1,f2,f3,f4,f5⟩:=ad w4 f;have b3:∀k,k<=gx->some k≠(Value.slice ao acc.length cap).ownBlock:=λ k hk e=>by have:=(f5.lt k e.symm).1;omega
   have ar:w5.heap[gx]?=w.heap[gx]?:=(hG.block gx f4 (b3 gx (AD _))).trans (f.block gx af (by omega));have b6:=(ho.lt g rfl);refine⟨(World.cell?_of_block (w:=w) ar).trans c6,(World.frozen?_of_block (w:=w) ar).trans k6,by omega,b6.2,?_⟩;rcases ho.2 with⟨hv,_⟩ | ⟨g',b7,cur,hv,_,_,bn,_⟩
   .simp at hv
   .simp at hv;omega
  have b9:=aa.1;have ab:∀(w5:World) (g cap5:Nat),w5.ownsRow (gx+1) 48 8 (sL g 0 (acc.length+1) cap5) (acc.length+1) (row ++ Fy) ->
    w5.cell? ⟨g,acc.length*8,none⟩=iv 0/\w5.cell? ⟨g,acc.length*8+1,none⟩=iv 0/\w5.cell? ⟨g,acc.length*8+2,none⟩=iv 0/\w5.cell? ⟨g,acc.length*8+3,none⟩=sE/\w5.cell? ⟨g,acc.length*8+4,none⟩=iv 0/\w5.cell? ⟨g,acc.length*8+5,none⟩=sE/\w5.cell? ⟨g,acc.length*8+6,none⟩=sZ/\w5.cell? ⟨g,acc.length*8+7,none⟩=iv 0/\w5.frozen? ⟨g,acc.length*8,none⟩=false/\w5.frozen? ⟨g,acc.length*8+1,none⟩=false/\w5.frozen? ⟨g,acc.length*8+2,none⟩=false/\w5.frozen? ⟨g,acc.length*8+3,none⟩=false/\w5.frozen? ⟨g,acc.length*8+4,none⟩=false/\w5.frozen? ⟨g,acc.length*8+5,none⟩=false/\w5.frozen? ⟨g,acc.length*8+6,none⟩=false/\w5.frozen? ⟨g,acc.length*8+7,none⟩=false:=by
   intro w5 g cap5 ho;have o8:=N2 ho b9;exact⟨(o8 0 _ rfl).1,(o8 1 _ rfl).1,(o8 2 _ rfl).1,(o8 3 _ rfl).1,(o8 4 _ rfl).1,(o8 5 _ rfl).1,(o8 6 _ rfl).1,(o8 7 _ rfl).1,(o8 0 _ rfl).2,(o8 1 _ rfl).2,(o8 2 _ rfl).2,(o8 3 _ rfl).2,(o8 4 _ rfl).2,(o8 5 _ rfl).2,(o8 6 _ rfl).2,(o8 7 _ rfl).2⟩
  have a9:∀(w4 w5 w7:World) (g cap5 k o nn:Nat) (t:Lx.B) (a5:Option Addr) (a3 a4 p:Nat),IsEx (From w) w4 x (eL k o nn t (.slice a5 a3 a4) p)->Ps b ga l' w4->Fo b w w w4->Grew w4 w5 (.slice ao acc.length cap) g->w5.ownsRow (gx+1) 48 8 (sL g 0 (acc.length+1) cap5) (acc.length+1) (row ++ Fy) ->
    (w7=(Fa w5 g (acc.length*8) (eL k o nn t (.slice a5 a3 a4) p)).setCell ⟨gx,6,none⟩ (sL g 0 (acc.length+1) cap5)\/w7=Fa (w5.setCell ⟨gx,6,none⟩ (sL g 0 (acc.length+1) cap5)) g (acc.length*8) (eL k o nn t (.slice a5 a3 a4) p)) ->
    Df b ga n (ArgBox b gp gd gx d nm pl) acc w (.inl (x,l')) (.returned (.tuple #[])) w7:=by
   intro w4 w5 w7 g cap5 k o nn t a5 a3 a4 p a8 h4 a0 hG hown5 h7;obtain⟨r1,r2,r3,r4,r5⟩:=R1 (O:=λ v=>eO 7 0 0 nm v pl) (F:=6) (n:=n) (λ w' hw v=>by simp[World.setCell,Array.getElem?_modify,hw]) (Nat.lt_succ_self gx) af (by omega) (by omega) (by omega) hn hx aa aj a8 h4 a0 hG hown5 h7;exact⟨rfl,⟨(r5 gp (by omega) (by omega) (by omega)).trans hp,(r5 gd (by omega) (by omega) (by omega)).trans ai,_,r2,r1⟩,r4,r3⟩
  go_enter func232,ntmps232;go_wp2_with fail;refine wpE_begin (S:=λ w'=>w'.cell? gp=pt b 0/\w'.cell? gd=iv d/\w'.cell? ⟨gx,6,none⟩=some (.slice ao acc.length cap)) (N:=λ j=>decide (j<8)) (by kernel_rfl) ?_;have a6:w.drew.cell? gp=pt b 0/\w.drew.cell? gd=iv d/\w.drew.cell? ⟨gx,6,none⟩=some (.slice ao acc.length cap):=⟨c0,d0,c6⟩;refine wpE_take (i:=0) (v:=pt gx 6) rfl (by kernel_rfl) (by kernel_rfl) (by kernel_rfl) (by kernel_rfl) (λ _ _ _ h=>h) rfl (λ w' hS=>by obtain⟨s1,s2,s3⟩:=hS;go_simp) a6 ?_
  try simp only[aP]
  refine wpE_take (i:=2) (v:=pt b 0) rfl (by kernel_rfl) (by kernel_rfl) (by kernel_rfl) (by kernel_rfl) (λ _ _ _ h=>h) rfl (λ w' hS=>by obtain⟨s1,s2,s3⟩:=hS;go_simp) a6 ?_
  try simp only[aP]
  refine wpE_take (i:=3) (v:=iv d) rfl (by kernel_rfl) (by kernel_rfl) (by kernel_rfl) (by kernel_rfl) (λ _ _ _ h=>h) rfl (λ w' hS=>by obtain⟨s1,s2,s3⟩:=hS;go_simp) a6 ?_
  try simp only[aP]
  refine wpE_take (i:=1) (v:=.slice ao acc.length cap) rfl (by kernel_rfl) (by kernel_rfl) (by kernel_rfl) (by kernel_rfl) (λ _ _ _ h=>h) rfl (λ w' hS=>by obtain⟨s1,s2,s3⟩:=hS;go_simp) a6 ?_
  try simp only[aP]
  refine wpE_take (i:=4) (v:=iv ((d:Int)+1)) rfl (by kernel_rfl) (by kernel_rfl) (by kernel_rfl) (by kernel_rfl) (λ _ _ _ h=>h) rfl (λ w' hS=>by obtain⟨s1,s2,s3⟩:=hS;go_simp) a6 ?_
  try simp only[aP]
  refine wpE_take (i:=6) (v:=iv acc.length) rfl (by kernel_rfl) (by kernel_rfl) (by kernel_rfl) (by kernel_rfl) (λ _ _ _ h=>h) rfl (λ w' hS=>by obtain⟨s1,s2,s3⟩:=hS;go_simp) a6 ?_
  try simp only[aP]
  refine wpE_two (i:=5) (j:=7) (by kernel_rfl) rfl rfl rfl rfl (λ K hK=>?_) (λ K hK=>?_)
  .go_simp;refine bc.mono ?_;rintro e w4 ⟨k,o,nn,t,a5,a3,a4,p,rfl,a8,h4,a0⟩;obtain⟨yp,yd,y6,ak,a7⟩:=ad w4 a0;refine hK _ _ (λ _=>⟨yp,yd,y6⟩) ?_;clear hK K
   try simp only[aP]
   refine wpE_one (i:=7) (by kernel_rfl) rfl rfl (λ K hK=>?_);go_simp;refine hK _ _ (λ _=>ag w4 _ a0 ⟨yp,yd,y6⟩) ?_;clear hK K
   try simp only[aP]
   refine wpE_one (i:=8) (by kernel_rfl) rfl rfl (λ K hK=>?_);refine wp_append_lies _ (.tmp 4) (.tmp 10) 44 rfl (gx+1) 48 i0 _ 8 96 underlying44 aw aq ay av rfl (by omega) (.slice ao acc.length cap) acc.length row rfl (a7.alloc _) ⟨w4,0,none⟩ 1 1 Fy rfl rfl (World.news_of_block (heap_new w4 _)) (by simp[Value.oneCell']) (by omega) (by unfold maxLen;omega) (by omega) (by simp;omega) (w4.heap.size+1) (by simp) ?_;intro g cap5 w5 hown5 hgrow hat hlt5;have hG:=N0 hgrow hat;obtain⟨z6,zf,b4,b5,ah⟩:=ae w4 w5 g cap5 a0 hG hown5;obtain⟨q0,q1,q2,q3,q4,q5,q6,q7,r0,r1,r2,r3,r4,r5,r6,r7⟩:=ab w5 g cap5 hown5;refine hK _ _ (λ h=>absurd h (by decide)) ?_;clear hK K
   try simp only[aP]
   refine wpE_takeL (i:=9) (v:=pt g (acc.length*8)) rfl (by kernel_rfl) (by kernel_rfl) (by kernel_rfl) rfl (λ _ _ _ h=>h) rfl (λ w'=>by go_simp) ?_
   try simp only[aP]
   refine wpE_takeL (i:=11) (v:=pt gx 6) rfl (by kernel_rfl) (by kernel_rfl) (by kernel_rfl) rfl (λ _ _ _ h=>h) rfl (λ w'=>by go_simp) ?_
   try simp only[aP]
   refine wpE_two (i:=10) (j:=12) (by kernel_rfl) rfl rfl rfl rfl (λ K hK=>?_) (λ K hK=>?_)
   .go_simp;refine hK _ _ (λ h=>absurd h (by decide)) ?_;clear hK K;refine wpE_one (i:=12) (by kernel_rfl) rfl rfl (λ K hK=>?_);go_simp;refine hK _ _ (λ h=>absurd h (by decide)) (wpE_done (by kernel_rfl) ?_);go_wp2
    go_end0
    exact a9 w4 w5 _ g cap5 k o nn t a5 a3 a4 p a8 h4 a0 hG hown5 (AI (by simp only[Fa,Nat.add_assoc,Nat.reduceAdd]))
   .go_simp;refine hK _ _ (λ h=>absurd h (by decide)) ?_;clear hK K;refine wpE_one (i:=10) (by kernel_rfl) rfl rfl (λ K hK=>?_);go_simp;refine hK _ _ (λ h=>absurd h (by decide)) (wpE_done (by kernel_rfl) ?_);go_wp2
    go_end0
    exact a9 w4 w5 _ g cap5 k o nn t a5 a3 a4 p a8 h4 a0 hG hown5 (AJ (by simp only[Fa,Nat.add_assoc,Nat.reduceAdd]))
  .go_simp;refine hK _ _ (λ _=>az _) ?_;clear hK K
   try simp only[aP]
   refine wpE_one (i:=5) (by kernel_rfl) rfl rfl (λ K hK=>?_);go_simp;refine (b8 _).mono ?_;rintro e w4 ⟨k,o,nn,t,a5,a3,a4,p,rfl,a8,h4,a0,bb⟩;obtain⟨yp,yd,y6,ak,a7⟩:=ad w4 a0;refine hK _ _ (λ _=>⟨yp,yd,y6⟩) ?_;clear hK K
   try simp only[aP]
   refine wpE_one (i:=8) (by kernel_rfl) rfl rfl (λ K hK=>?_);refine wp_append_lies _ (.tmp 4) (.tmp 10) 44 rfl (gx+1) 48 i0 _ 8 96 underlying44 aw aq ay av rfl (by omega) (.slice ao acc.length cap) acc.length row rfl a7 ⟨w,0,none⟩ 1 1 Fy rfl rfl (World.news_of_block bb) (by simp[Value.oneCell']) (by omega) (by unfold maxLen;omega) (by omega) (by omega) w4 rfl ?_;intro g cap5 w5 hown5 hgrow hat hlt5;have hG:=Ar8 hgrow hat;obtain⟨z6,zf,b4,b5,ah⟩:=ae w4 w5 g cap5 a0 hG hown5;obtain⟨q0,q1,q2,q3,q4,q5,q6,q7,r0,r1,r2,r3,r4,r5,r6,r7⟩:=ab w5 g cap5 hown5;refine hK _ _ (λ h=>absurd h (by decide)) ?_;clear hK K
   try simp only[aP]
   refine wpE_takeL (i:=9) (v:=pt g (acc.length*8)) rfl (by kernel_rfl) (by kernel_rfl) (by kernel_rfl) rfl (λ _ _ _ h=>h) rfl (λ w'=>by go_simp) ?_
   try simp only[aP]
   refine wpE_takeL (i:=11) (v:=pt gx 6) rfl (by kernel_rfl) (by kernel_rfl) (by kernel_rfl) rfl (λ _ _ _ h=>h) rfl (λ w'=>by go_simp) ?_
   try simp only[aP]
   refine wpE_two (i:=10) (j:=12) (by kernel_rfl) rfl rfl rfl rfl (λ K hK=>?_) (λ K hK=>?_)
   .go_simp;refine hK _ _ (λ h=>absurd h (by decide)) ?_;clear hK K;refine wpE_one (i:=12) (by kernel_rfl) rfl rfl (λ K hK=>?_);go_simp;refine hK _ _ (λ h=>absurd h (by decide)) (wpE_done (by kernel_rfl) ?_);go_wp2
    go_end0
    exact a9 w4 w5 _ g cap5 k o nn t a5 a3 a4 p a8 h4 a0 hG hown5 (AI (by simp only[Fa,Nat.add_assoc,Nat.reduceAdd]))
   .go_simp;refine hK _ _ (λ h=>absurd h (by decide)) ?_;clear hK K;refine wpE_one (i:=10) (by kernel_rfl) rfl rfl (λ K hK=>?_);go_simp;refine hK _ _ (λ h=>absurd h (by decide)) (wpE_done (by kernel_rfl) ?_);go_wp2
    go_end0
    exact a9 w4 w5 _ g cap5 k o nn t a5 a3 a4 p a8 h4 a0 hG hown5 (AJ (by simp only[Fa,Nat.add_assoc,Nat.reduceAdd]))
 .rw[hq] at hC;replace hC:∀w',Ps b ga l w'->AA 164 #[pt b 0,iv ((d:Int)+1)] w' λ e w''=>e=.panicked (Bj a er)/\Fo b w' w' w'':=hC
  clear hq;go_enter func232,ntmps232;go_wp2_with fail;refine wpE_begin (S:=λ w'=>w'.cell? gp=pt b 0/\w'.cell? gd=iv d/\w'.cell? ⟨gx,6,none⟩=some (.slice ao acc.length cap)) (N:=λ j=>decide (j<8)) (by kernel_rfl) ?_;have a6:w.drew.cell? gp=pt b 0/\w.drew.cell? gd=iv d/\w.drew.cell? ⟨gx,6,none⟩=some (.slice ao acc.length cap):=⟨c0,d0,c6⟩;refine wpE_take (i:=0) (v:=pt gx 6) rfl (by kernel_rfl) (by kernel_rfl) (by kernel_rfl) (by kernel_rfl) (λ _ _ _ h=>h) rfl (λ w' hS=>by obtain⟨s1,s2,s3⟩:=hS;go_simp) a6 ?_
  try simp only[aP]
  refine wpE_take (i:=2) (v:=pt b 0) rfl (by kernel_rfl) (by kernel_rfl) (by kernel_rfl) (by kernel_rfl) (λ _ _ _ h=>h) rfl (λ w' hS=>by obtain⟨s1,s2,s3⟩:=hS;go_simp) a6 ?_
  try simp only[aP]
  refine wpE_take (i:=3) (v:=iv d) rfl (by kernel_rfl) (by kernel_rfl) (by kernel_rfl) (by kernel_rfl) (λ _ _ _ h=>h) rfl (λ w' hS=>by obtain⟨s1,s2,s3⟩:=hS;go_simp) a6 ?_
  try simp only[aP]
  refine wpE_take (i:=1) (v:=.slice ao acc.length cap) rfl (by kernel_rfl) (by kernel_rfl) (by kernel_rfl) (by kernel_rfl) (λ _ _ _ h=>h) rfl (λ w' hS=>by obtain⟨s1,s2,s3⟩:=hS;go_simp) a6 ?_
  try simp only[aP]
  refine wpE_take (i:=4) (v:=iv ((d:Int)+1)) rfl (by kernel_rfl) (by kernel_rfl) (by kernel_rfl) (by kernel_rfl) (λ _ _ _ h=>h) rfl (λ w' hS=>by obtain⟨s1,s2,s3⟩:=hS;go_simp) a6 ?_
  try simp only[aP]
  refine wpE_take (i:=6) (v:=iv acc.length) rfl (by kernel_rfl) (by kernel_rfl) (by kernel_rfl) (by kernel_rfl) (λ _ _ _ h=>h) rfl (λ w' hS=>by obtain⟨s1,s2,s3⟩:=hS;go_simp) a6 ?_
  try simp only[aP]
  refine wpE_two (i:=5) (j:=7) (by kernel_rfl) rfl rfl rfl rfl (λ K hK=>?_) (λ K hK=>?_)
  .go_simp;refine (hC _ ax).mono ?_;rintro e w4 ⟨rfl,a0⟩;exact⟨rfl,rfl,(AV b n w).trans (a0.mono hn)⟩
  .go_simp;refine hK _ _ (λ _=>az _) ?_;clear hK K
   try simp only[aP]
   refine wpE_one (i:=5) (by kernel_rfl) rfl rfl (λ K hK=>?_);go_simp;refine (hC _ (au _)).mono ?_;rintro e w4 ⟨rfl,a0⟩;exact⟨rfl,rfl,(((AT b n w).alloc hn _).trans (AV _ _ _)).trans (a0.mono (by show n<=(w.alloc _).heap.size;simp;omega))⟩
abbrev sO(k:Nat)(nm:Lx.B)(es b1 b2:Value)(pl:Nat):Obj:=.cells #[iv k,.string ⟨nm.toArray⟩,iv 0,.bool false,iv 0,es,b1,b2,iv pl] 46 (0,0)
abbrev R2(gs gp gd:Nat):Obj:=.cells #[.func (.func 163) #[] #[pt gs 0,pt gp 0,pt gd 0]] 1 (0,0)
structure PStBox(b gp gd gx ge d k:Nat)(nm:Lx.B)(b1 b2:Value)(pl:Nat)(acc:List Px.Ex)(w:World):Prop where
 ptr:w.heap[gp]?=some (C3 b)
 dep:w.heap[gd]?=some (Fr d)
 fe:w.heap[ge]?=some (R2 gx gp gd)
 box:∃sl,w.heap[gx]?=some (sO k nm sl b1 b2 pl)/\F0 (ge+1) w sl acc
theorem PStBox.fo{gd gx k:Nat}{nm:Lx.B}{b1 b2:Value}{acc:List Px.Ex}(h:PStBox b gp gd gx ge d k nm b1 b2 pl acc w)(f:Fo b w w w')(h1:b<gp)(h2:gp<gd)(h3:gd<gx)(h4:gx<ge):PStBox b gp gd gx ge d k nm b1 b2 pl acc w':=by
 obtain⟨hp,hd,he,sl,hx,hg⟩:=h;exact⟨(f.block gp (AB hp).1 (by omega)).trans hp,(f.block gd (AB hd).1 (by omega)).trans hd,(f.block ge (AB he).1 (by omega)).trans he,sl,(f.block gx (AB hx).1 (by omega)).trans hx,hg.fo f (by omega)⟩
theorem Fb{n gd gx:Nat}{k0:Nat}{nm:Lx.B}{b1 b2:Value}{q:Px.P Px.Ex}(hd:d<=30)(al:Ei (d+1) q)(h1:b<gp)(h2:gp<gd)(h3:gd<gx)(h5:gx<ge)(bk:ga<gp)(bh:n<=gx)(acc:List Px.Ex)(l:List Lx.Tok)(w:World)(h:Ps b ga l w)(hi:PStBox b gp gd gx ge d k0 nm b1 b2 pl acc w)(hn:n<=w)(bj:acc.length+l.length<=4096) :
  AA 163 #[pt gx 0,pt gp 0,pt gd 0] w λ e w'=>Df b ga n (PStBox b gp gd gx ge d k0 nm b1 b2 pl) acc w (q l) e w':=by
 obtain⟨i0,ax,aq,az,aw⟩:=info_parts Rz;obtain⟨hp,ah,b3,sl,hx,row,aa,aj⟩:=hi;have au:ge<w:=(AB b3).1;have b4:gp<w:=(AB hp).1;have am:gd<w:=(AB ah).1;have ai:gx<w:=(AB hx).1;have c0:=cell_of_one hp;have d0:=cell_of_one ah;have c6:w.cell? ⟨gx,5,none⟩=sl:=by simp[World.cell?,hx]
 have k6:w.frozen? ⟨gx,5,none⟩=false:=by simp[World.frozen?,hx]
 obtain⟨ao,cap,rfl⟩:=A5 aa;have hC:∀w',Ps b ga l w'->AA 164 #[pt b 0,iv ((d:Int)+1)] w' λ e w''=>C5 b ga w' (q l) e w'':=λ w' h'=>al b ga l w' h'
 have bn:(d:Int)<=30:=by omega
 have bl:IntKind.i64.wrap ((d:Int)+1)=(d:Int)+1:=IntWalk.i64_in _ (by omega);have ay:Ps b ga l w.drew:=h.keep rfl rfl (AD _);have av:∀o,Ps b ga l (w.alloc o).drew:=λ o=>(h.alloc o).keep rfl rfl (AD _)
 have b0:∀o,(w.alloc o).drew.cell? gp=pt b 0/\(w.alloc o).drew.cell? gd=iv d/\(w.alloc o).drew.cell? ⟨gx,5,none⟩=some (.slice ao acc.length cap):=λ o=>⟨(World.cell?_of_block (w:=w) (Al b4)).trans c0,(World.cell?_of_block (w:=w) (Al am)).trans d0,(World.cell?_of_block (w:=w) (Al ai)).trans c6⟩
 have bc:(acc.length:Int)<(acc.length:Int)+1:=by omega
 have bo:acc.length<=4096:=by omega
 rcases hq:q l with⟨x,l'⟩ | ⟨a,er⟩
 .rw[hq] at hC;have bg:AA 164 #[pt b 0,iv ((d:Int)+1)] w.drew λ e w''=>∃k o nn t a5 a3 a4 p,e=.returned (eV k o nn t (.slice a5 a3 a4) p)/\IsEx (From w) w'' x (eL k o nn t (.slice a5 a3 a4) p)/\Ps b ga l' w''/\Fo b w w w'':=by
   refine (hC _ ay).mono ?_;rintro e w'' ⟨v,rfl,⟨k,o,nn,t,a5,a3,a4,p,rfl,a8⟩,h4,a0⟩;exact⟨k,o,nn,t,a5,a3,a4,p,rfl,a8,h4,(AV b _ w).trans a0⟩
  have ba:∀o,AA 164 #[pt b 0,iv ((d:Int)+1)] (w.alloc o).drew λ e w''=>∃k o1 nn t a5 a3 a4 p,e=.returned (eV k o1 nn t (.slice a5 a3 a4) p)/\IsEx (From w) w'' x (eL k o1 nn t (.slice a5 a3 a4) p)/\Ps b ga l' w''/\Fo b w w w''/\w''.heap[w.heap.size]?=some o:=by
   intro o;refine (hC _ (av o)).mono ?_;rintro e w'' ⟨v,rfl,⟨k,o1,nn,t,a5,a3,a4,p,rfl,a8⟩,h4,a0⟩;have bi:(w.alloc o).drew.heap.size=w.heap.size+1:=by show (w.alloc o).heap.size=_;simp
   refine⟨k,o1,nn,t,a5,a3,a4,p,rfl,a8.base (Cb (by omega)),h4,(((AT b _ w).alloc (AD _) o).trans (AV _ _ _)).trans (a0.mono (by omega)),?_⟩;rw[a0.block _ (by omega) (by have:=h.there;omega)];exact heap_new w o
  have ad:∀w4,Fo b w w w4->w4.cell? gp=pt b 0/\w4.cell? gd=iv d/\w4.cell? ⟨gx,5,none⟩=some (.slice ao acc.length cap)/\ge<w4/\w4.ownsRow (ge+1) 48 8 (.slice ao acc.length cap) acc.length row:=λ w4 f=>⟨(f.cell b4 (by omega)).trans c0,(f.cell am (by omega)).trans d0,(f.cell ai (by omega)).trans c6,AL au f.size,Bl aa f (by omega)⟩
  have af:∀(w4:World) (o:Obj),Fo b w w w4->(w4.cell? gp=pt b 0/\w4.cell? gd=iv d/\w4.cell? ⟨gx,5,none⟩=some (.slice ao acc.length cap))->(w4.alloc o).cell? gp=pt b 0/\(w4.alloc o).cell? gd=iv d/\(w4.alloc o).cell? ⟨gx,5,none⟩=some (.slice ao acc.length cap):=λ w4 o f hh=>by
   have:=f.size;exact⟨(World.cell?_of_block (w:=w4) (Al (by show gp<_;omega))).trans hh.1,(World.cell?_of_block (w:=w4) (Al (by show gd<_;omega))).trans hh.2.1,(World.cell?_of_block (w:=w4) (Al (by show gx<_;omega))).trans hh.2.2⟩
  clear hC hq;have ae:∀(w4 w5:World) (g cap5:Nat),Fo b w w w4->Grew w4 w5 (.slice ao acc.length cap) g->w5.ownsRow (ge+1) 48 8 (sL g 0 (acc.length+1) cap5) (acc.length+1) (row ++ Fy) ->
    w5.cell? ⟨gx,5,none⟩=some (.slice ao acc.length cap)/\w5.frozen? ⟨gx,5,none⟩=false/\gx<g/\g<w5/\acc.length+1<=cap5:=by
   intro w4 w5 g cap5 f hG ho;obtain⟨f1,f2,f3,f4,f5⟩:=ad w4 f;have b5:∀k,k<=gx->some k≠(Value.slice ao acc.length cap).ownBlock:=λ k hk e=>by have:=(f5.lt k e.symm).1;omega
   have ar:w5.heap[gx]?=w.heap[gx]?:=(hG.block gx (by omega) (b5 gx (AD _))).trans (f.block gx ai (by omega));have b8:=(ho.lt g rfl);refine⟨(World.cell?_of_block (w:=w) ar).trans c6,(World.frozen?_of_block (w:=w) ar).trans k6,by omega,b8.2,?_⟩;rcases ho.2 with⟨hv,_⟩ | ⟨g',b9,cur,hv,_,_,bp,_⟩
   .simp at hv
   .simp at hv;omega
  have bb:=aa.1;have ab:∀(w5:World) (g cap5:Nat),w5.ownsRow (ge+1) 48 8 (sL g 0 (acc.length+1) cap5) (acc.length+1) (row ++ Fy) ->
    w5.cell? ⟨g,acc.length*8,none⟩=iv 0/\w5.cell? ⟨g,acc.length*8+1,none⟩=iv 0/\w5.cell? ⟨g,acc.length*8+2,none⟩=iv 0/\w5.cell? ⟨g,acc.length*8+3,none⟩=sE/\w5.cell? ⟨g,acc.length*8+4,none⟩=iv 0/\w5.cell? ⟨g,acc.length*8+5,none⟩=sE/\w5.cell? ⟨g,acc.length*8+6,none⟩=sZ/\w5.cell? ⟨g,acc.length*8+7,none⟩=iv 0/\w5.frozen? ⟨g,acc.length*8,none⟩=false/\w5.frozen? ⟨g,acc.length*8+1,none⟩=false/\w5.frozen? ⟨g,acc.length*8+2,none⟩=false/\w5.frozen? ⟨g,acc.length*8+3,none⟩=false/\w5.frozen? ⟨g,acc.length*8+4,none⟩=false/\w5.frozen? ⟨g,acc.length*8+5,none⟩=false/\w5.frozen? ⟨g,acc.length*8+6,none⟩=false/\w5.frozen? ⟨g,acc.length*8+7,none⟩=false:=by
   intro w5 g cap5 ho;have o8:=N2 ho bb;exact⟨(o8 0 _ rfl).1,(o8 1 _ rfl).1,(o8 2 _ rfl).1,(o8 3 _ rfl).1,(o8 4 _ rfl).1,(o8 5 _ rfl).1,(o8 6 _ rfl).1,(o8 7 _ rfl).1,(o8 0 _ rfl).2,(o8 1 _ rfl).2,(o8 2 _ rfl).2,(o8 3 _ rfl).2,(o8 4 _ rfl).2,(o8 5 _ rfl).2,(o8 6 _ rfl).2,(o8 7 _ rfl).2⟩
  have a9:∀(w4 w5 w7:World) (g cap5 k o nn:Nat) (t:Lx.B) (a5:Option Addr) (a3 a4 p:Nat),IsEx (From w) w4 x (eL k o nn t (.slice a5 a3 a4) p)->Ps b ga l' w4->Fo b w w w4->Grew w4 w5 (.slice ao acc.length cap) g->w5.ownsRow (ge+1) 48 8 (sL g 0 (acc.length+1) cap5) (acc.length+1) (row ++ Fy) ->
    (w7=(Fa w5 g (acc.length*8) (eL k o nn t (.slice a5 a3 a4) p)).setCell ⟨gx,5,none⟩ (sL g 0 (acc.length+1) cap5)\/w7=Fa (w5.setCell ⟨gx,5,none⟩ (sL g 0 (acc.length+1) cap5)) g (acc.length*8) (eL k o nn t (.slice a5 a3 a4) p)) ->
    Df b ga n (PStBox b gp gd gx ge d k0 nm b1 b2 pl) acc w (.inl (x,l')) (.returned (.tuple #[])) w7:=by
   intro w4 w5 w7 g cap5 k o nn t a5 a3 a4 p a8 h4 a0 hG hown5 h7;obtain⟨r1,r2,r3,r4,r5⟩:=R1 (O:=λ v=>sO k0 nm v b1 b2 pl) (F:=5) (n:=n) (λ w' hw v=>by simp[World.setCell,Array.getElem?_modify,hw]) (by omega) au (by omega) (by omega) (by omega) hn hx aa aj a8 h4 a0 hG hown5 h7;exact⟨rfl,⟨(r5 gp (by omega) (by omega) (by omega)).trans hp,(r5 gd (by omega) (by omega) (by omega)).trans ah,(r5 ge (by omega) (by omega) (by omega)).trans b3,_,r2,r1⟩,r4,r3⟩
  go_enter func163,ntmps163;go_wp2_with fail;refine wpE_begin (S:=λ w'=>w'.cell? gp=pt b 0/\w'.cell? gd=iv d/\w'.cell? ⟨gx,5,none⟩=some (.slice ao acc.length cap)) (N:=λ j=>decide (j<8)) (by kernel_rfl) ?_;have a6:w.drew.cell? gp=pt b 0/\w.drew.cell? gd=iv d/\w.drew.cell? ⟨gx,5,none⟩=some (.slice ao acc.length cap):=⟨c0,d0,c6⟩;refine wpE_take (i:=0) (v:=pt gx 5) rfl (by kernel_rfl) (by kernel_rfl) (by kernel_rfl) (by kernel_rfl) (λ _ _ _ h=>h) rfl (λ w' hS=>by obtain⟨s1,s2,s3⟩:=hS;go_simp) a6 ?_
  try simp only[aP]
  refine wpE_take (i:=2) (v:=pt b 0) rfl (by kernel_rfl) (by kernel_rfl) (by kernel_rfl) (by kernel_rfl) (λ _ _ _ h=>h) rfl (λ w' hS=>by obtain⟨s1,s2,s3⟩:=hS;go_simp) a6 ?_
  try simp only[aP]
  refine wpE_take (i:=3) (v:=iv d) rfl (by kernel_rfl) (by kernel_rfl) (by kernel_rfl) (by kernel_rfl) (λ _ _ _ h=>h) rfl (λ w' hS=>by obtain⟨s1,s2,s3⟩:=hS;go_simp) a6 ?_
  try simp only[aP]
  refine wpE_take (i:=1) (v:=.slice ao acc.length cap) rfl (by kernel_rfl) (by kernel_rfl) (by kernel_rfl) (by kernel_rfl) (λ _ _ _ h=>h) rfl (λ w' hS=>by obtain⟨s1,s2,s3⟩:=hS;go_simp) a6 ?_
  try simp only[aP]
  refine wpE_take (i:=4) (v:=iv ((d:Int)+1)) rfl (by kernel_rfl) (by kernel_rfl) (by kernel_rfl) (by kernel_rfl) (λ _ _ _ h=>h) rfl (λ w' hS=>by obtain⟨s1,s2,s3⟩:=hS;go_simp) a6 ?_
  try simp only[aP]
  refine wpE_take (i:=6) (v:=iv acc.length) rfl (by kernel_rfl) (by kernel_rfl) (by kernel_rfl) (by kernel_rfl) (λ _ _ _ h=>h) rfl (λ w' hS=>by obtain⟨s1,s2,s3⟩:=hS;go_simp) a6 ?_
  try simp only[aP]
  refine wpE_two (i:=5) (j:=7) (by kernel_rfl) rfl rfl rfl rfl (λ K hK=>?_) (λ K hK=>?_)
  .go_simp;refine bg.mono ?_;rintro e w4 ⟨k,o,nn,t,a5,a3,a4,p,rfl,a8,h4,a0⟩;obtain⟨yp,yd,y6,ak,a7⟩:=ad w4 a0;refine hK _ _ (λ _=>⟨yp,yd,y6⟩) ?_;clear hK K
   try simp only[aP]
   refine wpE_one (i:=7) (by kernel_rfl) rfl rfl (λ K hK=>?_);go_simp;refine hK _ _ (λ _=>af w4 _ a0 ⟨yp,yd,y6⟩) ?_;clear hK K
   try simp only[aP]
   refine wpE_one (i:=8) (by kernel_rfl) rfl rfl (λ K hK=>?_);refine wp_append_lies _ (.tmp 4) (.tmp 10) 44 rfl (ge+1) 48 i0 _ 8 96 underlying44 ax aq az aw rfl (by omega) (.slice ao acc.length cap) acc.length row rfl (a7.alloc _) ⟨w4,0,none⟩ 1 1 Fy rfl rfl (World.news_of_block (heap_new w4 _)) (by simp[Value.oneCell']) (by omega) (by unfold maxLen;omega) (by omega) (by simp;omega) (w4.heap.size+1) (by simp) ?_;intro g cap5 w5 hown5 hgrow hat hlt5;have hG:=N0 hgrow hat;obtain⟨z6,zf,b6,b7,ag⟩:=ae w4 w5 g cap5 a0 hG hown5;obtain⟨q0,q1,q2,q3,q4,q5,q6,q7,r0,r1,r2,r3,r4,r5,r6,r7⟩:=ab w5 g cap5 hown5;refine hK _ _ (λ h=>absurd h (by decide)) ?_;clear hK K
   try simp only[aP]
   refine wpE_takeL (i:=9) (v:=pt g (acc.length*8)) rfl (by kernel_rfl) (by kernel_rfl) (by kernel_rfl) rfl (λ _ _ _ h=>h) rfl (λ w'=>by go_simp) ?_
   try simp only[aP]
   refine wpE_takeL (i:=11) (v:=pt gx 5) rfl (by kernel_rfl) (by kernel_rfl) (by kernel_rfl) rfl (λ _ _ _ h=>h) rfl (λ w'=>by go_simp) ?_
   try simp only[aP]
   refine wpE_two (i:=10) (j:=12) (by kernel_rfl) rfl rfl rfl rfl (λ K hK=>?_) (λ K hK=>?_)
   .go_simp;refine hK _ _ (λ h=>absurd h (by decide)) ?_;clear hK K;refine wpE_one (i:=12) (by kernel_rfl) rfl rfl (λ K hK=>?_);go_simp;refine hK _ _ (λ h=>absurd h (by decide)) (wpE_done (by kernel_rfl) ?_);go_wp2
    go_end0
    exact a9 w4 w5 _ g cap5 k o nn t a5 a3 a4 p a8 h4 a0 hG hown5 (AI (by simp only[Fa,Nat.add_assoc,Nat.reduceAdd]))
   .go_simp;refine hK _ _ (λ h=>absurd h (by decide)) ?_;clear hK K;refine wpE_one (i:=10) (by kernel_rfl) rfl rfl (λ K hK=>?_);go_simp;refine hK _ _ (λ h=>absurd h (by decide)) (wpE_done (by kernel_rfl) ?_);go_wp2
    go_end0
    exact a9 w4 w5 _ g cap5 k o nn t a5 a3 a4 p a8 h4 a0 hG hown5 (AJ (by simp only[Fa,Nat.add_assoc,Nat.reduceAdd]))
  .go_simp;refine hK _ _ (λ _=>b0 _) ?_;clear hK K
   try simp only[aP]
   refine wpE_one (i:=5) (by kernel_rfl) rfl rfl (λ K hK=>?_);go_simp;refine (ba _).mono ?_;rintro e w4 ⟨k,o,nn,t,a5,a3,a4,p,rfl,a8,h4,a0,bf⟩;obtain⟨yp,yd,y6,ak,a7⟩:=ad w4 a0;refine hK _ _ (λ _=>⟨yp,yd,y6⟩) ?_;clear hK K
   try simp only[aP]
   refine wpE_one (i:=8) (by kernel_rfl) rfl rfl (λ K hK=>?_);refine wp_append_lies _ (.tmp 4) (.tmp 10) 44 rfl (ge+1) 48 i0 _ 8 96 underlying44 ax aq az aw rfl (by omega) (.slice ao acc.length cap) acc.length row rfl a7 ⟨w,0,none⟩ 1 1 Fy rfl rfl (World.news_of_block bf) (by simp[Value.oneCell']) (by omega) (by unfold maxLen;omega) (by omega) (by omega) w4 rfl ?_;intro g cap5 w5 hown5 hgrow hat hlt5;have hG:=Ar8 hgrow hat;obtain⟨z6,zf,b6,b7,ag⟩:=ae w4 w5 g cap5 a0 hG hown5;obtain⟨q0,q1,q2,q3,q4,q5,q6,q7,r0,r1,r2,r3,r4,r5,r6,r7⟩:=ab w5 g cap5 hown5;refine hK _ _ (λ h=>absurd h (by decide)) ?_;clear hK K
   try simp only[aP]
   refine wpE_takeL (i:=9) (v:=pt g (acc.length*8)) rfl (by kernel_rfl) (by kernel_rfl) (by kernel_rfl) rfl (λ _ _ _ h=>h) rfl (λ w'=>by go_simp) ?_
   try simp only[aP]
   refine wpE_takeL (i:=11) (v:=pt gx 5) rfl (by kernel_rfl) (by kernel_rfl) (by kernel_rfl) rfl (λ _ _ _ h=>h) rfl (λ w'=>by go_simp) ?_
   try simp only[aP]
   refine wpE_two (i:=10) (j:=12) (by kernel_rfl) rfl rfl rfl rfl (λ K hK=>?_) (λ K hK=>?_)
   .go_simp;refine hK _ _ (λ h=>absurd h (by decide)) ?_;clear hK K;refine wpE_one (i:=12) (by kernel_rfl) rfl rfl (λ K hK=>?_);go_simp;refine hK _ _ (λ h=>absurd h (by decide)) (wpE_done (by kernel_rfl) ?_);go_wp2
    go_end0
    exact a9 w4 w5 _ g cap5 k o nn t a5 a3 a4 p a8 h4 a0 hG hown5 (AI (by simp only[Fa,Nat.add_assoc,Nat.reduceAdd]))
   .go_simp;refine hK _ _ (λ h=>absurd h (by decide)) ?_;clear hK K;refine wpE_one (i:=10) (by kernel_rfl) rfl rfl (λ K hK=>?_);go_simp;refine hK _ _ (λ h=>absurd h (by decide)) (wpE_done (by kernel_rfl) ?_);go_wp2
    go_end0
    exact a9 w4 w5 _ g cap5 k o nn t a5 a3 a4 p a8 h4 a0 hG hown5 (AJ (by simp only[Fa,Nat.add_assoc,Nat.reduceAdd]))
 .rw[hq] at hC;replace hC:∀w',Ps b ga l w'->AA 164 #[pt b 0,iv ((d:Int)+1)] w' λ e w''=>e=.panicked (Bj a er)/\Fo b w' w' w'':=hC
  clear hq;go_enter func163,ntmps163;go_wp2_with fail;refine wpE_begin (S:=λ w'=>w'.cell? gp=pt b 0/\w'.cell? gd=iv d/\w'.cell? ⟨gx,5,none⟩=some (.slice ao acc.length cap)) (N:=λ j=>decide (j<8)) (by kernel_rfl) ?_;have a6:w.drew.cell? gp=pt b 0/\w.drew.cell? gd=iv d/\w.drew.cell? ⟨gx,5,none⟩=some (.slice ao acc.length cap):=⟨c0,d0,c6⟩;refine wpE_take (i:=0) (v:=pt gx 5) rfl (by kernel_rfl) (by kernel_rfl) (by kernel_rfl) (by kernel_rfl) (λ _ _ _ h=>h) rfl (λ w' hS=>by obtain⟨s1,s2,s3⟩:=hS;go_simp) a6 ?_
  try simp only[aP]
  refine wpE_take (i:=2) (v:=pt b 0) rfl (by kernel_rfl) (by kernel_rfl) (by kernel_rfl) (by kernel_rfl) (λ _ _ _ h=>h) rfl (λ w' hS=>by obtain⟨s1,s2,s3⟩:=hS;go_simp) a6 ?_
  try simp only[aP]
  refine wpE_take (i:=3) (v:=iv d) rfl (by kernel_rfl) (by kernel_rfl) (by kernel_rfl) (by kernel_rfl) (λ _ _ _ h=>h) rfl (λ w' hS=>by obtain⟨s1,s2,s3⟩:=hS;go_simp) a6 ?_
  try simp only[aP]
  refine wpE_take (i:=1) (v:=.slice ao acc.length cap) rfl (by kernel_rfl) (by kernel_rfl) (by kernel_rfl) (by kernel_rfl) (λ _ _ _ h=>h) rfl (λ w' hS=>by obtain⟨s1,s2,s3⟩:=hS;go_simp) a6 ?_
  try simp only[aP]
  refine wpE_take (i:=4) (v:=iv ((d:Int)+1)) rfl (by kernel_rfl) (by kernel_rfl) (by kernel_rfl) (by kernel_rfl) (λ _ _ _ h=>h) rfl (λ w' hS=>by obtain⟨s1,s2,s3⟩:=hS;go_simp) a6 ?_
  try simp only[aP]
  refine wpE_take (i:=6) (v:=iv acc.length) rfl (by kernel_rfl) (by kernel_rfl) (by kernel_rfl) (by kernel_rfl) (λ _ _ _ h=>h) rfl (λ w' hS=>by obtain⟨s1,s2,s3⟩:=hS;go_simp) a6 ?_
  try simp only[aP]
  refine wpE_two (i:=5) (j:=7) (by kernel_rfl) rfl rfl rfl rfl (λ K hK=>?_) (λ K hK=>?_)
  .go_simp;refine (hC _ ay).mono ?_;rintro e w4 ⟨rfl,a0⟩;exact⟨rfl,rfl,(AV b n w).trans (a0.mono hn)⟩
  .go_simp;refine hK _ _ (λ _=>b0 _) ?_;clear hK K
   try simp only[aP]
   refine wpE_one (i:=5) (by kernel_rfl) rfl rfl (λ K hK=>?_);go_simp;refine (hC _ (av _)).mono ?_;rintro e w4 ⟨rfl,a0⟩;exact⟨rfl,rfl,(((AT b n w).alloc hn _).trans (AV _ _ _)).trans (a0.mono (by show n<=(w.alloc _).heap.size;simp;omega))⟩
theorem Wo{gr:Nat}{x:Px.Ex}{l':List Lx.Tok}{k o n:Nat}{t:Lx.B}{ao:Option Addr}{an ac:Nat}{B:AS}(h1:Ps b ga l' w1)(hF:Fo b w w w1)(hr:w<=gr)(hg:gr≠b)(a0:gr≠ga)(hx:IsEx B w1 x (eL k o n t (.slice ao an ac) p))(hB:∀g,B g->w.heap.size<=g/\g≠gr) :
  C5 b ga w (.inl (x,l')) (.returned (eV k o n t (.slice ao an ac) p)) (eS w1 gr k o n t (.slice ao an ac) p):=
 ⟨_,rfl,⟨k,o,n,t,ao,an,ac,p,rfl,(hx.since (Since.set8' (λ h=>(hB _ h).2 rfl) _ _ _ _ _ _ _ _)).base (λ g h=>(hB g h).1)⟩,h1.set8 hg a0 _ _ _ _ _ _ _ _,hF.set8 hr _ _ _ _ _ _ _ _⟩
def namedR(e:Px.P Px.Ex)(l:List Lx.Tok):Px.R Px.Ex:=Px.bind (Px.name l) λ t l1=>if Px.sees 4 [40] l1 then Px.bind (Px.items e (l1.length+1) 0 [] l1.tail) λ xs l2=>.inl (.mk 7 0 0 t.text xs t.place,l2) else .inl (.mk 6 0 0 t.text [] t.place,l1)
def Ao3(d:Nat)(e:Px.P Px.Ex):Prop:=∀(b ga:Nat) (l:List Lx.Tok) (w:World),Ps b ga l w->AA 228 #[pt b 0,iv d] w λ r w'=>C5 b ga w (namedR e l) r w'
theorem Bc5(args:Array Value)(w:World):(callFunc 232 args).run prog w=.ok (.enter 232 args) w:=enters_of func232 (by kernel_rfl) rfl args w
abbrev Fs(w:World)(b d:Nat)(o:Obj):World:=((w.alloc (C3 b)).alloc (Fr d)).alloc o
theorem N3(w:World)(b d:Nat)(o:Obj):(Fs w b d o).heap[w.heap.size]?=some (C3 b):=by
 rw[Al (by simp;omega),Al (by simp)];exact heap_new w _
theorem N4(w:World)(b d:Nat)(o:Obj):(Fs w b d o).heap[w.heap.size+1]?=some (Fr d):=by
 rw[Al (by simp)];have:=heap_new (w.alloc (C3 b)) (Fr d);simpa using this
theorem N5(w:World)(b d:Nat)(o:Obj):(Fs w b d o).heap[w.heap.size+1+1]?=o:=by
 have:=heap_new ((w.alloc (C3 b)).alloc (Fr d)) o;simpa using this
theorem Lj(w:World)(b d:Nat)(o:Obj):(Fs w b d o).heap.size=w.heap.size+3:=by simp
theorem Jz(w:World)(b d:Nat)(o:Obj):Below w w (Fs w b d o):=(((AF _ _).alloc (AD _) _).alloc (by simp) _).alloc (by simp;omega) _
theorem Av3{B:AS}{nm:Lx.B}{xs:List Px.Ex}(h:F0 m w sl xs)(hB:∀k,m<=k->k<w.heap.size->B k):IsEx B w (.mk 7 0 0 nm xs pl) (eL 7 0 0 nm sl pl):=by
 obtain⟨row,h1,h2⟩:=h.rows hB;rw[IsEx];exact⟨sl,row,rfl,h1,h2⟩
theorem Ui{e:Px.P Px.Ex}(hd:d<=30)(ai:Px.Ok e)(af:Ei (d+1) e):Ao3 d e:=by
 intro b ga l w h;obtain⟨res,a0⟩:∃res,Aside (res=namedR e l):=⟨_,rfl⟩;rw[<-a0.out];have b8:∀(fn:Fn) (first cap:Array Value) (w:World),(Instr.makeFunc fn first cap).run prog w=.ok (.func fn first cap) w:=λ _ _ _ _=>rfl
 have ay:=h.there;have b3:=h.gl;have ae:=Jz w b d zeroE;have h0:=h.below ae;have p0:=N3 w b d zeroE;have d0:=N4 w b d zeroE;have o0:=N5 w b d zeroE;have z0:=Lj w b d zeroE;have a8:Fo b w w (Fs w b d zeroE):=AU ae;have c0:=cell_of_one p0;go_enter func228,ntmps228
 go_upto_region 1 with fail
 generalize aa:((w.alloc (C3 b)).alloc (Fr d)).alloc zeroE=w0;replace aa:Fs w b d zeroE=w0:=aa;rw[aa] at ae h0 p0 d0 o0 z0 a8 c0;clear aa;have b5:w<w0.heap.size:=by omega
 go_wp2_with fail
 refine (Gx h0).mono ?_;rcases hq:Px.name l with⟨t,l1⟩ | ⟨a,er⟩
 .rintro r w1 ⟨v,rfl,rfl,h1,a6⟩;replace a0:Aside (res=if Px.sees 4 [40] l1 then Px.bind (Px.items e (l1.length+1) 0 [] l1.tail) λ xs l2=>.inl (.mk 7 0 0 t.text xs t.place,l2) else .inl (.mk 6 0 0 t.text [] t.place,l1)):=by
   show _=_;rw[a0.out,namedR,hq];rfl
  have p1:=(a6.block _ (by omega) (by omega)).trans p0;have d1:=(a6.block _ (by omega) (by omega)).trans d0;have o1:=(a6.block _ (by omega) (by omega)).trans o0;have al:=a8.call a6 a8.size;have aw:=a6.size;clear hq p0 d0 o0 c0 a8 h0 a6;have a9:Below w1 w1 ((w1.alloc (tokB t)).alloc (eO 6 0 0 t.text sZ t.place)):=((AF _ _).alloc (AD _) _).alloc (by simp) _;have h3:=h1.below a9;have p3:=(a9.block _ (by omega)).trans p1;have d3:=(a9.block _ (by omega)).trans d1;have o3:=(a9.block _ (by omega)).trans o1;have ak:=al.below a9 (by omega);have x3:((w1.alloc (tokB t)).alloc (eO 6 0 0 t.text sZ t.place)).heap[w1.heap.size+1]?=eO 6 0 0 t.text sZ t.place:=by
   have:=heap_new (w1.alloc (tokB t)) (eO 6 0 0 t.text sZ t.place);simpa using this
  have z3:((w1.alloc (tokB t)).alloc (eO 6 0 0 t.text sZ t.place)).heap.size=w1.heap.size+2:=by simp
  have c3:=cell_of_one p3
  go_upto_region 3 with fail
  generalize (w1.alloc (tokB t)).alloc (eO 6 0 0 t.text sZ t.place)=w3 at *;obtain⟨gx,aj⟩:∃gx,gx=w1.heap.size+1:=⟨_,rfl⟩;rw[<-aj] at x3 ⊢;clear a9 al h1 p1 d1 o1;go_wp2_with fail;refine (Gw h3 [40]).mono ?_;rintro r w4 ⟨rfl,a5⟩;have h4:=h3.below a5;have p4:=(a5.block _ (by omega)).trans p3;have d4:=(a5.block _ (by omega)).trans d3;have o4:=(a5.block _ (by omega)).trans o3;have x4:=(a5.block _ (by omega)).trans x3;have ah:=ak.below a5 (by omega);have z4:=a5.size;clear a5 h3 p3 d3 o3 x3 ak c3;have b9:w.heap.size+4<=w4.heap.size:=by omega
  have az:gx<w4:=by omega
  have ax:w.heap.size+3<gx:=by omega
  clear z4 z3 aw aj;rcases hs:Px.sees 4 [40] l1 with _ | _
  .replace a0:Aside (res=.inl (.mk 6 0 0 t.text [] t.place,l1)):=by
    show _=_;rw[a0.out,if_neg (by rw[hs];simp)]
   rw[show Px.sees (cls [40]) [40] l1=false from hs];obtain⟨y0,y1,y2,y3,y4,y5,y6,y7,_⟩:=Ab x4;obtain⟨e0,e1,e2,e3,e4,e5,e6,e7,m0,m1,m2,m3,m4,m5,m6,m7⟩:=Ab o4;have b0:w.heap.size+1+1<w4.heap.size:=by omega
   have a7:=Wo (gr:=w.heap.size+1+1) h4 ah (by omega) (by omega) (by omega) (Ij (λ _=>False) w4 6 0 0 t.text t.place) (λ g hg=>hg.elim);clear hs;generalize w.heap.size+1+1=gr at *;go_wp2;rw[a0.out];exact bodyPost_ret (by simp[results,results228,go_sem,e0,e1,e2,e3,e4,e5,e6,e7]) rfl a7
  .rw[show Px.sees (cls [40]) [40] l1=true from hs];have a3:Px.items e (l1.length+1) 0 [] l1.tail=Px.items e (l1.tail.length+1) 0 [] l1.tail:=items_fuel ai _ _ _ _ _ (Px.sees4 hs h4.good).good (by have:=(Px.sees4 hs h4.good).less;omega) (by omega);have a4:(Px.bind (Px.need [40] l1) λ _ l2=>Px.items e (l2.length+1) 0 [] l2)=Px.items e (l1.length+1) 0 [] l1.tail:=by
    rw[a3];unfold Px.need Px.needK;rw[if_pos hs];rfl
   replace a0:Aside (res=Px.bind (Px.items e (l1.length+1) 0 [] l1.tail) λ xs l2=>.inl (.mk 7 0 0 t.text xs t.place,l2)):=by
    show _=_;rw[a0.out,if_pos hs]
   have x5:(w4.setCell gx (iv 7)).heap[gx]?=eO 7 0 0 t.text sZ t.place:=by simp[World.setCell,Array.getElem?_modify,x4]
   have ad:∀k,k≠gx->(w4.setCell gx (iv 7)).heap[k]?=w4.heap[k]?:=λ k hk=>AG _ _ _ _ hk
   have h5:=h4.other (g:=gx) 0 (iv 7) (by omega) (by omega);have ag:=ah.fresh (g:=gx) (by omega) 0 (iv 7);have hA:ArgBox b w (w.heap.size+1) gx d t.text t.place [] (w4.setCell gx (iv 7)):=⟨(ad _ (by omega)).trans p4,(ad _ (by omega)).trans d4,_,x5,F0.nil _ _⟩;have o5:=(ad (w.heap.size+1+1) (by omega)).trans o4;have z5:(w4.setCell gx (iv 7)).heap.size=w4.heap.size:=by simp[World.setCell]
   have hL:=Jy (n:=gx) (K:=232) (caps:=#[pt gx 0,pt w 0,pt (w.heap.size+1) 0]) (Inv:=λ acc w'=>ArgBox b w (w.heap.size+1) gx d t.text t.place acc w') h5 (by omega) ai Bc5
    (λ acc la wa ha hia hna hla=>Ae0 hd af (by omega) (by omega) (by omega) (by omega) (AD _) acc la wa ha hia hna hla)
    (λ acc wa wb hia hf=>hia.fo hf (by omega) (by omega) (by omega)) hA
   rw[a4] at hL;have c4:=cell_of_one p4;have b4:=(Ab x4).1;have b7:=(Ab x4).2.2.2.2.2.2.2.2.1;have c5:(w4.setCell gx (iv 7)).cell? w=pt b 0:=cell_of_one hA.ptr;have b6:w<w4.heap.size:=by omega
   clear a4 a3 hs x5 hA
   go_upto_region 5 with fail
   generalize w4.setCell gx (iv 7)=w5 at *;go_wp2_with fail;refine hL.mono ?_;rcases hq:Px.items e (l1.length+1) 0 [] l1.tail with⟨xs,l2⟩ | ⟨a,er⟩
   .rintro r w6 ⟨rfl,au,h6,ab⟩;replace a0:Aside (res=.inl (.mk 7 0 0 t.text xs t.place,l2)):=by
     show _=_;rw[a0.out,hq];rfl
    obtain⟨p6,d6,sl,x6,am⟩:=au;have o6:=(ab.block (w.heap.size+1+1) (by omega) (by omega)).trans o5;have av:Fo b w w w6:=ag.trans (ab.mono (by omega));have ar:gx<w6:=(AB x6).1;have aq:w.heap.size+1+1<w6.heap.size:=by omega
    obtain⟨ao,ac,rfl⟩:=A5 am.choose_spec.1;have a7:=Wo (gr:=w.heap.size+1+1) (B:=λ k=>gx+1<=k) h6 av (by omega) (by omega) (by omega) (Av3 (nm:=t.text) (pl:=t.place) am (λ k hk _=>hk)) (λ g hg=>by omega);obtain⟨y0,y1,y2,y3,y4,y5,y6,y7,_⟩:=Ab x6;obtain⟨e0,e1,e2,e3,e4,e5,e6,e7,m0,m1,m2,m3,m4,m5,m6,m7⟩:=Ab o6;clear hq hL;generalize w.heap.size+1+1=gr at *;go_wp2;rw[a0.out];exact bodyPost_ret (by simp[results,results228,go_sem,e0,e1,e2,e3,e4,e5,e6,e7]) rfl a7
   .rintro r w6 ⟨rfl,ab⟩;refine⟨rfl,?_⟩;rw[a0.out,hq];exact⟨rfl,ag.trans (ab.mono (by omega))⟩
 .rintro r w1 ⟨rfl,a6⟩;refine⟨rfl,?_⟩;rw[a0.out,namedR,hq];exact⟨rfl,a8.call a6 a8.size⟩
end
end Go.Proofs.YtpckmjfabiallaaGreatDoor
