import Derived.Test.YtjnpndfpajjihadGreatGrJournalRuns20
import Derived.Test.YtjnpndfpajjihadGreatGrJournalRuns35
import Derived.Test.YtjnpndfpajjihadGreatGrJournalRuns40
import Derived.Test.YtjnpndfpajjihadGreatGrJournalRuns47
set_option maxRecDepth 100000
set_option maxHeartbeats 40000000
namespace Go.Proofs.YtjnpndfpajjihadGreat
open Go.RowKit
open Value renaming int -> H,slice -> M,pointer -> C,string -> A,tuple -> S
open IntKind renaming i64 -> G
open Option renaming none -> Z,some -> J
open Bool renaming false -> O,true -> I
open Go renaming World -> K,Value -> E
open Obj renaming cells -> T
open Ending renaming returned -> N
variable{W w w':World}{X:List Nat}{a e:Option Addr}{args cs:Array Value}{b base c f k m n:Nat}{d:Dk}{g:Nat->Int}{l:List Tx}{q:Jn}{t:Tx}{v:Value}
def yB (W:K)(B:Nat):List (Nat×E)->K
 |[]=>W
 |(k,v)::l=>yB (W.setCell ⟨B,k,Z⟩ v) B l
theorem FC(W:K)(q:Int):IsTx W (.agg #[H G q,M Z 0 0,M Z 0 0,M Z 0 0,.bool O,H G 0,.bool O,H G 0,.bool O,H G 0]) (gA q):=
 ⟨Z,0,Z,0,Z,0,rfl,.inl rfl,.inl rfl,.inl rfl,Vb _,Vb _,Vb _⟩
theorem bF(q:Int):RoomTx (.agg #[H G q,M Z 0 0,M Z 0 0,M Z 0 0,.bool O,H G 0,.bool O,H G 0,.bool O,H G 0]):=
 ⟨_,_,_,_,_,_,_,_,_,_,_,_,_,_,_,_,rfl,Sb _,Sb _,Sb _⟩
theorem aM(B:Nat):∀(l:List (Nat×E)) (W:K),ButL [B] W.heap.size W (yB W B l)
 |[],W=>ButL.refl _ _ _
 |(k,v)::l,W=>by
  have h:=aM B l (W.setCell ⟨B,k,Z⟩ v);have D:ButL [B] W.heap.size W (W.setCell ⟨B,k,Z⟩ v):=(ButL.refl _ _ _).set (.inl (by simp)) _ _;exact D.trans h D.size (by simp)
theorem fQ(B:Nat){t:TypeId}:∀(l:List (Nat×E)) (W:K) (cs:Array E),W.heap[B]?=J (T cs t (0,0))->(yB W B l).heap[B]?=J (T (l.foldl (λcs p=>cs.setIfInBounds p.1 p.2) cs) t (0,0))
 |[],_,_,h=>h
 |(_,_)::l,_,_,h=>fQ B l _ _ (XB h)
theorem KH(B:Nat):∀(l:List (Nat×E)) (W:K),(yB W B l).heap.size=W.heap.size
 |[],_=>rfl
 |(_,_)::l,_=>(KH B l _).trans (by simp[World.setCell])
section
variable {w W W':World} {B:Nat} {X:List Nat} {L:List (Nat×Obj)} {G:World->Prop} {j j':Jn} {V V':Sl}
theorem JS.puts(h:JS w B X L G j V W)(l:List (Nat×E))(Q:RowsR (aA W X) j V->Ext (aA W X) (aA (yB W B l) X)->RowsR (aA (yB W B l) X) j' V')(D:l.foldl (λcs p=>cs.setIfInBounds p.1 p.2) (rA j V)=rA j' V'):JS w B X L G j' V' (yB W B l):=
 h.set (aM B l W) (fQ B l W _ h.k) Q D
theorem JS.acts(h:JS w B X L G j V W)(x:Int):JS w B X L G {j with acts:=x} V (yB W B [(0,H .i64 x)]):=h.puts _ (λr E=>{r.ext E with cap:=r.cap}) (by kernel_rfl)
theorem JS.disk(h:JS w B X L G j V W){b:Option Addr}{e:Nat}(D:IsDk (aA W X) (.agg #[M a d.safe.length c,M b d.wr.length e]) d):JS w B X L G {j with disk:=d} {V with da:=a,dc:=c,db:=b,dd:=e} (yB W B [(1,M a d.safe.length c),(2,M b d.wr.length e)]):=h.puts _ (λr E=>{r.ext E with disk:=D.ext E}) (by kernel_rfl)
theorem JS.now(h:JS w B X L G j V W){T:Tx}{b:Option Addr}{d:Nat}(hT:IsTx (aA W X) (.agg #[H .i64 T.seq,M a T.info.length c,M b T.data.length d,M e T.rev.length f,.bool T.h0.on,H .i64 T.h0.left,.bool T.h1.on,H .i64 T.h1.left,.bool T.h2.on,H .i64 T.h2.left]) T)(D:RoomTx (.agg #[H .i64 T.seq,M a T.info.length c,M b T.data.length d,M e T.rev.length f,.bool T.h0.on,H .i64 T.h0.left,.bool T.h1.on,H .i64 T.h1.left,.bool T.h2.on,H .i64 T.h2.left])):JS w B X L G {j with now:=T} {V with na:=a,nc:=c,nb:=b,nd:=d,ne:=e,nf:=f} (yB W B [(31,H .i64 T.seq),(32,M a T.info.length c),(33,M b T.data.length d),(34,M e T.rev.length f),(35,.bool T.h0.on),(36,H .i64 T.h0.left),(37,.bool T.h1.on),(38,H .i64 T.h1.left),(39,.bool T.h2.on),(40,H .i64 T.h2.left)]):=h.puts _ (λr E=>{r.ext E with now:=hT.ext E,room:=D}) (by kernel_rfl)
theorem JS.sealed(h:JS w B X L G j V W){T:Tx}{b:Option Addr}{d:Nat}(hT:IsTx (aA W X) (.agg #[H .i64 T.seq,M a T.info.length c,M b T.data.length d,M e T.rev.length f,.bool T.h0.on,H .i64 T.h0.left,.bool T.h1.on,H .i64 T.h1.left,.bool T.h2.on,H .i64 T.h2.left]) T):JS w B X L G {j with sealed:=T} {V with sa:=a,sc:=c,sb:=b,sd:=d,se:=e,sf:=f} (yB W B [(41,H .i64 T.seq),(42,M a T.info.length c),(43,M b T.data.length d),(44,M e T.rev.length f),(45,.bool T.h0.on),(46,H .i64 T.h0.left),(47,.bool T.h1.on),(48,H .i64 T.h1.left),(49,.bool T.h2.on),(50,H .i64 T.h2.left)]):=h.puts _ (λr E=>{r.ext E with sealed:=hT.ext E}) (by kernel_rfl)
theorem JS.now0(h:JS w B X L G j V W)(q:Int):JS w B X L G {j with now:=gA q} {V with na:=Z,nc:=0,nb:=Z,nd:=0,ne:=Z,nf:=0} (yB W B [(31,H .i64 q),(32,M Z 0 0),(33,M Z 0 0),(34,M Z 0 0),(35,.bool O),(36,H .i64 0),(37,.bool O),(38,H .i64 0),(39,.bool O),(40,H .i64 0)]):=h.puts _ (λr E=>{r.ext E with now:=FC _ q,room:=bF q}) (by kernel_rfl)
theorem JS.sealed0(h:JS w B X L G j V W):JS w B X L G {j with sealed:=gA 0} {V with sa:=Z,sc:=0,sb:=Z,sd:=0,se:=Z,sf:=0} (yB W B [(41,H .i64 0),(42,M Z 0 0),(43,M Z 0 0),(44,M Z 0 0),(45,.bool O),(46,H .i64 0),(47,.bool O),(48,H .i64 0),(49,.bool O),(50,H .i64 0)]):=h.puts _ (λr E=>{r.ext E with sealed:=FC _ 0}) (by kernel_rfl)
theorem JS.ring(h:JS w B X L G j V W)(x y:Int):JS w B X L G {j with rh:=x,ru:=y} V (yB W B [(3,H .i64 x),(4,H .i64 y)]):=h.puts _ (λr E=>{r.ext E with cap:=r.cap}) (by kernel_rfl)
theorem JS.steps(h:JS w B X L G j V W){l:List St}(x:Int)(Q:SegSt (aA W X) a l)(D:l.length<=c):JS w B X L G {j with work:=x,steps:=l} {V with ta:=a,tc:=c} (yB W B [(55,H .i64 x),(56,M a l.length c)]):=h.puts _ (λr E=>{r.ext E with steps:=Q.ext E,cap:=D}) (by kernel_rfl)
theorem JS.rest(h:JS w B X L G j V W){l:List St}(Q:SegSt (aA W X) a l)(D:l.length<=c):JS w B X L G {j with steps:=l} {V with ta:=a,tc:=c} (yB W B [(56,M a l.length c)]):=h.puts _ (λr E=>{r.ext E with steps:=Q.ext E,cap:=D}) (by kernel_rfl)
theorem JS.done(h:JS w B X L G j V W)(D:SegTx (aA W X) a l):JS w B X L G {j with done:=l} {V with ca:=a,cc:=c} (yB W B [(51,M a l.length c)]):=h.puts _ (λr E=>{r.ext E with done:=D.ext E}) (by kernel_rfl)
theorem JS.home(h:JS w B X L G j V W):JS w B X L G {j with done:=[],ru:=0} {V with ca:=Z,cc:=0} (yB W B [(51,M Z 0 0),(4,H .i64 0)]):=h.puts _ (λr E=>{r.ext E with done:=.inl rfl}) (by kernel_rfl)
theorem JS.last(h:JS w B X L G j V W)(x:Int):JS w B X L G {j with last:=x} V (yB W B [(5,H .i64 x)]):=h.puts _ (λr E=>{r.ext E with cap:=r.cap}) (by kernel_rfl)
theorem JS.found(h:JS w B X L G j V W)(n p:Int)(D:SegTx (aA W X) a l):JS w B X L G {j with fL:=l,fN:=n,fP:=p} {V with fa:=a,fc:=c} (yB W B [(52,M a l.length c),(53,H .i64 n),(54,H .i64 p)]):=h.puts _ (λr E=>{r.ext E with found:=D.ext E}) (by kernel_rfl)
theorem rF{p:Nat->Prop}(h:p 0/\p 1/\p 2/\p 3/\p 4/\p 5/\p 6/\p 7/\p 8/\p 9/\p 10/\p 11)(hb:b<12):p b:=by
 obtain⟨h0,h1,h2,h3,h4,h5,h6,h7,h8,h9,A0,A1⟩:=h;have:b=0\/b=1\/b=2\/b=3\/b=4\/b=5\/b=6\/b=7\/b=8\/b=9\/b=10\/b=11:=by omega
 rcases this with rfl|rfl|rfl|rfl|rfl|rfl|rfl|rfl|rfl|rfl|rfl|rfl<;>assumption
theorem YO(hb:b<12):(rA j V)[7+b*2]?=J (H .i64 (j.role b))/\(rA j V)[7+b*2+1]?=J (H .i64 (j.freed b)):=rF (p:=λb:Nat=>(rA j V)[7+b*2]?=J (H .i64 (j.role b))/\(rA j V)[7+b*2+1]?=J (H .i64 (j.freed b))) (by refine⟨?_,?_,?_,?_,?_,?_,?_,?_,?_,?_,?_,?_⟩<;>exact⟨rfl,rfl⟩) hb
theorem AL(hb:b<12)(x:Int):(rA j V).setIfInBounds (7+b*2) (H .i64 x)=rA {j with role:=ZA j.role b x} V:=rF (p:=λb:Nat=>(rA j V).setIfInBounds (7+b*2) (H .i64 x)=rA {j with role:=ZA j.role b x} V) (by refine⟨?_,?_,?_,?_,?_,?_,?_,?_,?_,?_,?_,?_⟩<;>kernel_rfl) hb
theorem Ba(hb:b<12)(x:Int):(rA j V).setIfInBounds (7+b*2+1) (H .i64 x)=rA {j with freed:=ZA j.freed b x} V:=rF (p:=λb:Nat=>(rA j V).setIfInBounds (7+b*2+1) (H .i64 x)=rA {j with freed:=ZA j.freed b x} V) (by refine⟨?_,?_,?_,?_,?_,?_,?_,?_,?_,?_,?_,?_⟩<;>kernel_rfl) hb
theorem AU{f:Nat->Int}(e:∀k,k<12->f k=g k):rA {j with role:=f} V=rA {j with role:=g} V:=by
 unfold rA;dsimp only;rw[e 0 (by decide),e 1 (by decide),e 2 (by decide),e 3 (by decide),e 4 (by decide),e 5 (by decide),e 6 (by decide),e 7 (by decide),e 8 (by decide),e 9 (by decide),e 10 (by decide),e 11 (by decide)]
theorem JS.roleAt(h:JS w B X L G j V W)(hb:b<12):W.cell? ⟨B,7+b*2,Z⟩=J (H .i64 (j.role b))/\W.cell? ⟨B,7+b*2+1,Z⟩=J (H .i64 (j.freed b)):=by
 rw[(kA h.k).1,(kA h.k).1];exact YO hb
theorem JS.role(h:JS w B X L G j V W)(hb:b<12)(x:Int):JS w B X L G {j with role:=ZA j.role b x} V (W.setCell ⟨B,7+b*2,Z⟩ (H .i64 x)):=
 h.puts [(7+b*2,H .i64 x)] (λr E=>{r.ext E with cap:=r.cap}) (AL hb x)
theorem JS.freed(h:JS w B X L G j V W)(hb:b<12)(x y:Int):JS w B X L G {j with role:=ZA j.role b x,freed:=ZA j.freed b y} V ((W.setCell ⟨B,7+b*2,Z⟩ (H .i64 x)).setCell ⟨B,7+b*2+1,Z⟩ (H .i64 y)):=
 h.puts [(7+b*2,H .i64 x),(7+b*2+1,H .i64 y)] (λr E=>{r.ext E with cap:=r.cap}) ((congrArg (·.setIfInBounds (7+b*2+1) (H .i64 y)) (AL hb x)).trans (Ba hb y))
theorem JS.put1{t:TypeId}(h:JS w B X [(b,T cs t (0,0))] G j V W)(hb:b∈X)(D:w.heap.size<=b):JS w B X [(b,T (cs.setIfInBounds k v) t (0,0))] G j V (W.setCell ⟨b,k,Z⟩ v):=by
 have n:=h.b0.1;exact⟨h.x,h.b.set (.inr D) _ _,CB h.k n.symm,h.r.ext (Ext.setL hb _ _),λp Q=>by rw[Rc.1 Q];exact⟨n,XB h.b0.2.1⟩,h.gx _ _ (Ext.setL hb _ _) h.g,h.gx⟩
def qD (F:Nat->Int)(b:Nat):Nat->Int:=λk=>if k<b then F k else 0
theorem MP(F:Nat->Int)(b:Nat):ZA (qD F b) (b:Int) (F b)=qD F (b+1):=funext λk=>by
 unfold ZA qD;by_cases h:k=b
 .subst h;simp
 .have:¬(k:Int)=b:=by omega
  rw[Qb this];by_cases h2:k<b
  .rw[Rb h2,Rb (by omega)]
  .rw[Qb h2,Qb (by omega)]
theorem JS.all(h:JS w B X L G j V W)(D:RowsR (aA W X) j' V'):JS w B X L G j' V' (W.setRow B (rA j' V')):=
 h.set ((ButL.refl _ _ _).setRowB (.inl (by simp)) _) (Oe _ _ _ _ _ _ h.k) (λ_ E=>D.ext E) rfl
end
theorem Ext.amid{Y:List Nat}(hb:Below W.heap.size W w')(Q:∀y∈Y,y∈X\/W.heap.size<=y):Ext (aA W X) (aA w' Y):=by
 refine⟨by rw[tC,tC];exact hb.size,λb o u h=>?_⟩;obtain⟨B,A⟩:=qC h;have C:=DG A;exact oC (λD=>by rcases Q b D with h3|h3;exact B h3;omega) (xA hb C A)
theorem SegSt.tl{s:St}{r:List St}{o:Nat}(h:SegSt w (J ⟨b,o,Z⟩) (s::r)):SegSt w (J ⟨b,o+3,Z⟩) r:=by
 rcases h with h|⟨b',o',e,D,Q⟩
 .cases h
 .cases e;refine .inr ⟨b,o+3,rfl,D,λi hi=>?_⟩;have:=Q (i+1) (by simp;omega);rw[show o+(i+1)*3=o+3+i*3 by omega]at this
  simpa using this
theorem oP{D:Dk}{E:Int}{f:FuncId}(r:IsDk (aA W X) v d)(p:∀x∈X,x<W.heap.size)(hb:Below W.heap.size W w)
  (s:Calls Tryz.prog f args w λe w'=>∃Q,e=N (S #[Q,H G E])/\IsDk w' Q D/\Below w.heap.size w w'/\(Q=v\/VC w.heap.size Q)):Calls Tryz.prog f args w λe w'=>∃v,e=N (S #[v,H G E])/\Below w.heap.size w w'/\∀Y,(∀y∈Y,y∈X\/W.heap.size<=y/\y<w.heap.size)->IsDk (aA w' Y) v D:=
 s.mono λ_ w' ⟨Q,he,h2,hb2,hv⟩=>⟨Q,he,hb2,λY i=>by
  rcases hv with rfl|hv
  .exact(r.ext (Ext.amid (vA hb hb2) λy h=>(i y h).imp_right And.left)).asDisk h2
  .exact h2.hideF hv λy h=>by rcases i y h with h3|h3;have:=p y h3;have:=hb.size;omega;exact h3.2⟩
def GH (W:K)(X:List Nat)(T:Tx)(E:Int)(w:K)(e:Ending)(w':K):Prop:=∃v,e=N (S #[v,H G E])/\Below w.heap.size w w'/\∀Y,(∀y∈Y,y∈X\/W.heap.size<=y/\y<w.heap.size)->IsTx (aA w' Y) v T/\RoomTx v
open Go.Proofs.Tryz
theorem lH{T:Tx}{E:Int}{f:FuncId}(hT:IsTx (aA W X) v t)(i:RoomTx v)(p:∀x∈X,x<W.heap.size)(hb:Below W.heap.size W w)
  (r:Calls prog f args w λe w'=>∃D,e=N (S #[D,H G E])/\IsTx w' D T/\Below w.heap.size w w'/\(D=v\/DF w.heap.size D T)):Calls prog f args w (GH W X T E w):=
 r.mono λ_ w' ⟨D,he,h2,hb2,hv⟩=>⟨D,he,hb2,λY h=>by
  rcases hv with rfl|hv
  .exact⟨(hT.ext (Ext.amid (vA hb hb2) λy Q=>(h y Q).imp_right And.left)).asTx h2,i⟩
  .exact⟨h2.hideF hv.1 λy Q=>by rcases h y Q with h3|h3;have:=p y h3;have:=hb.size;omega;exact h3.2,hv.2⟩⟩
theorem hrun(B:Nat)(X:List Nat)(j:Jn)(w:K)(h:JAt w B X j)(t:Tx)(v:E)(hT:IsTx (aA w X) v t)(p:RoomTx v)(e:Int):
  Calls prog 56 #[C (J ⟨B,0,Z⟩),v,H G e] w (IB w B X (runJ j t e)):=by
 have A4:=h.1;have A1:=h.lt;obtain⟨V,s⟩:=h.js;obtain⟨u,L,z,F,I,r,rfl,_⟩:=id hT;obtain⟨x,xf⟩:=kA s.k;unfold rA at x;have A2:B≠w.heap.size:=by omega
 have A0:B≠w.heap.size+1:=by omega
 by_cases he:e=0
 .subst he;have D:=zA ((s.now hT p).two (T #[H G t.seq,M u t.info.length L,M z t.data.length F,M I t.rev.length r,.bool t.h0.on,H G t.h0.left,.bool t.h1.on,H G t.h1.left,.bool t.h2.on,H G t.h2.left] 52) (T #[H G 0,H G 0,A ⟨#[]⟩] 31) (KH _ _ _));clear h s hT p;go_enter func56,ntmps56;go_wp2_with fail;refine(D.o.code 0).mono ?_;rintro _ Q ⟨rfl,i⟩;have i:=zA i;obtain⟨y,A5⟩:=kA i.o.b0.2.1;have N:=i.o.b0.1;go_wp2;exact i.o.told rfl A4 i.o.b0 (by omega) λW c=>by simp[results,results56,go_sem,c]
 .have D:=zA (s.two (T #[H G t.seq,M u t.info.length L,M z t.data.length F,M I t.rev.length r,.bool t.h0.on,H G t.h0.left,.bool t.h1.on,H G t.h1.left,.bool t.h2.on,H G t.h2.left] 52) (T #[H G 0,H G 0,A ⟨#[]⟩] 31) rfl);have A6:Hid (runJ j t e=(j,eA e)):=by rw[Hid,runJ,Qb he]
  have A3:(e==0)=O:=by simpa using he
  clear h s hT p he;go_enter func56,ntmps56;go_wp2_with fail;refine(D.o.code e).mono ?_;rintro _ Q ⟨rfl,i⟩;have i:=zA i;obtain⟨y,A5⟩:=kA i.o.b0.2.1;have N:=i.o.b0.1;go_wp2;exact i.o.told A6.o A4 i.o.b0 (by omega) λW c=>by simp[results,results56,go_sem,c]
theorem eY(B:Nat)(X:List Nat)(j:Jn)(w:K)(h:JAt w B X j)(hX:∀x∈X,x<w.heap.size)(hu:0<=j.ru/\j.ru<=24)(hg:nA j.now=I)(ah ab an:Int)(A9:ByteArray):
  Calls prog 24 #[C (J ⟨B,0,Z⟩),.agg #[H G 1,H G ah,H G ab,H G an,A A9]] w (IB w B X (runJ j (beginT j.now ah an (24 - j.ru)) (beginE j.now ah an (24 - j.ru)))):=by
 have m:=h.1;have A1:=h.lt;obtain⟨V,A5⟩:=h.js2 (T #[H G 1,H G ah,H G ab,H G an,A A9] 24) (T #[H G 0,H G 0,A ⟨#[]⟩] 31);have A5:=zA A5;have u:=zA (pC (W:=(w.alloc (T #[H G 1,H G ah,H G ab,H G an,A A9] 24)).alloc (T #[H G 0,H G 0,A ⟨#[]⟩] 31)) (b:=w.heap.size+1) hX (by simp) (by simp;omega));clear h hX;go_enter func24,ntmps24;go_wp2;rename_i KK B1;refine(show∀W,W=_->Code.wp prog _ _ _ W from λW5 hW=>?_) _ rfl;rw[<-hW]at A5 u;clear hW;refine(show∀A0:Act,A0=_->Code.wp prog _ _ A0 _ from λA0 A4=>?_) _ rfl;have E:A0.tmps.size=67:=by rw[A4];rfl
 have Q:A0.defers=[]:=by rw[A4]
 have s:A0.eval (.tmp 0)=C (J ⟨B,0,Z⟩):=by rw[A4];rfl
 have z:A0.eval (.tmp 3)=C (J ⟨w.heap.size,0,Z⟩):=by rw[A4];rfl
 have v4:A0.eval (.tmp 4)=C (J ⟨w.heap.size+1,0,Z⟩):=by rw[A4];rfl
 clear A4;have B0:ZC [Is (C (J ⟨B,0,Z⟩)),Is (C (J ⟨B,0,Z⟩)),Is (C (J ⟨B,0,Z⟩)),Is (C (J ⟨B,31,Z⟩)),Is (uB j V),Is (C (J ⟨w.heap.size,1,Z⟩)),Is (H G ah),Is (C (J ⟨w.heap.size,3,Z⟩)),Is (H G an),Is (C (J ⟨B,0,Z⟩)),Is (C (J ⟨B,0,Z⟩)),Is (C (J ⟨B,3,Z⟩)),Is (.agg #[H G j.rh,H G j.ru]),Is (H G (24 - j.ru)),λv w'=>∃A3,v=S #[A3,H G (beginE j.now ah an (24 - j.ru))]/\IsTx (aA w' ((w.heap.size+1)::X)) A3 (beginT j.now ah an (24 - j.ru))/\RoomTx A3,λv w'=>IsTx (aA w' ((w.heap.size+1)::X)) v (beginT j.now ah an (24 - j.ru))/\RoomTx v,Is (H G (beginE j.now ah an (24 - j.ru)))]:=λw1 O hb=>Holds.is (.is (.is (.is (.is (.is (.is (.is (.is (.is (.is (.is (.is (.is (.cons (.cons (.is .nil) (λ_ h=>⟨h.1.ext (Ext.freshL hb),h.2⟩)) (λ_ ⟨A3,e,h⟩=>⟨A3,e,h.1.ext (Ext.freshL hb),h.2⟩)))))))))))))));refine QI (W:=W5) 17 [Is (C (J ⟨B,0,Z⟩)),Is (C (J ⟨B,0,Z⟩)),Is (C (J ⟨B,0,Z⟩)),Is (C (J ⟨B,31,Z⟩)),Is (uB j V),Is (C (J ⟨w.heap.size,1,Z⟩)),Is (H G ah),Is (C (J ⟨w.heap.size,3,Z⟩)),Is (H G an),Is (C (J ⟨B,0,Z⟩)),Is (C (J ⟨B,0,Z⟩)),Is (C (J ⟨B,3,Z⟩)),Is (.agg #[H G j.rh,H G j.ru]),Is (H G (24 - j.ru)),λv w'=>∃A3,v=S #[A3,H G (beginE j.now ah an (24 - j.ru))]/\IsTx (aA w' ((w.heap.size+1)::X)) A3 (beginT j.now ah an (24 - j.ru))/\RoomTx A3,λv w'=>IsTx (aA w' ((w.heap.size+1)::X)) v (beginT j.now ah an (24 - j.ru))/\RoomTx v,Is (H G (beginE j.now ah an (24 - j.ru)))] (by kernel_rfl) (by kernel_rfl) (by kernel_rfl) (by kernel_rfl) (by kernel_rfl) (Ub _ _).drew ⟨?_,?_,?_,?_,?_,?_,?_,?_,?_,?_,?_,?_,?_,?_,?_,?_,?_,trivial⟩ ?_
 iterate 13
  refine OA E λa w' A8 F A2=>⟨_,?_,rfl⟩
  have p:=(A8.other 0 rfl).trans s;have l:=(A8.other 3 rfl).trans z;have d:=Act.eval_const a;have D:=Act.eval_func a;obtain⟨c0,_⟩:=kA ((A5.o.below F).k);unfold rA at c0;obtain⟨c1,_⟩:=kA ((A5.o.below F).tl.b0.2.1)
  revert A2 p l d D
  generalize a.eval=ρ;intro A2 p l d D;simp[Region.binds,lf,Is]at A2;simp only[execOp,uB]
  go_simp
 .refine OC E B0 λa w' A8 F A2=>⟨58,#[.agg #[H G j.rh,H G j.ru]],?_,(QQ _ _ _ hu.1 hu.2).mono λ_ _ ⟨e,hb⟩=>⟨_,e,rfl,hb⟩⟩
  simp[Region.binds,lf,Is]at A2;have D:=Act.eval_func a
  revert A2 D
  generalize a.eval=ρ;intro A2 D;simp only[execOp]
  go_simp
 .refine OC E B0 λa w' A8 F A2=>⟨57,#[uB j V,H G ah,H G an,H G (24 - j.ru)],?_,(lH A5.o.r.now A5.o.r.room u.o F (Cb _ _ _ _ _ _ ((A5.o.r.now.ext (Ext.seenL _ _)).below F) hg)).mono λ_ _ ⟨A3,e,hb,h⟩=>⟨_,e,⟨A3,rfl,h _ λ_ h=>.inl h⟩,hb⟩⟩
  simp[Region.binds,lf,Is]at A2;have D:=Act.eval_func a
  revert A2 D
  generalize a.eval=ρ;intro A2 D;simp only[execOp]
  go_simp
 .refine OA E λa w' A8 F A2=>?_;obtain⟨A3,A7,L⟩:∃A3,a.eval (.tmp 27)=S #[A3,H G (beginE j.now ah an (24 - j.ru))]/\_:=A2 ⟨14,.data⟩ (by simp) rfl;exact⟨A3,by revert A7;generalize a.eval=ρ;intro A7;simp only[execOp];go_simp,L⟩
 .refine OA E λa w' A8 F A2=>?_;obtain⟨A3,A7,L⟩:∃A3,a.eval (.tmp 27)=S #[A3,H G (beginE j.now ah an (24 - j.ru))]/\_:=A2 ⟨14,.data⟩ (by simp) rfl;exact⟨_,by revert A7;generalize a.eval=ρ;intro A7;simp only[execOp];go_simp,rfl⟩
 intro a O A8 F A2;obtain⟨A7,L⟩:IsTx (aA O ((w.heap.size+1)::X)) (a.eval (.tmp 28)) (beginT j.now ah an (24 - j.ru))/\RoomTx (a.eval (.tmp 28)):=A2 15 (by decide);have i:a.eval (.tmp 29)=H G (beginE j.now ah an (24 - j.ru)):=A2 16 (by decide);have R:a.eval (.tmp 13)=C (J ⟨B,0,Z⟩):=A2 0 (by decide);have U:=A5.o.below F;refine cH E A8 56 #[C (J ⟨B,0,Z⟩),a.eval (.tmp 28),H G (beginE j.now ah an (24 - j.ru))] ?_ ((hrun B _ j O U.at _ _ A7 L _).mono ?_)
 .have D:=Act.eval_func a
  revert i R D
  clear A7 L A2;generalize a.eval=ρ;intro i R D;simp only[execOp]
  go_simp
 rintro _ w3 ⟨rfl,hA,hB⟩;obtain⟨V3,M⟩:=U.of hA hB;refine⟨_,rfl,λa' A6 Y _=>?_⟩;have M:=zA M;have N:=(A6.other 4 rfl).trans v4;have f0:=(A6.other 0 rfl).trans s;generalize runJ j (beginT j.now ah an (24 - j.ru)) (beginE j.now ah an (24 - j.ru))=q at *;obtain⟨y,yf⟩:=kA M.o.b0.2.1;refine xM (w':=yB w3 (w.heap.size+1) [(0,H G q.2.code),(1,H G q.2.n),(2,A q.2.text)]) ?_ ?_
 .revert Y N
  generalize a'.eval=ρ;intro Y N;dsimp only[vRp,yB]at *;simp only[execOp]
  go_simp
 obtain⟨g,hg,rfl⟩:=nB a' 67 (A6.size.trans E) (A6.defers.trans Q);rw[hg]at N;simp only[List.range,List.range.loop,List.map_cons,List.map_nil,N];show KK _ _;apply B1;go_wp2;exact M.o.told rfl m M.o.b0 (Fc _) λW c=>by simp[results,results24,go_sem,c]
theorem lU(B:Nat)(X:List Nat)(j:Jn)(w:K)(h:JAt w B X j)(hX:∀x∈X,x<w.heap.size)(hg:nA j.now=I)(ah ab an:Int)(A9:ByteArray):
  Calls prog 24 #[C (J ⟨B,0,Z⟩),.agg #[H G 5,H G ah,H G ab,H G an,A A9]] w (IB w B X (runJ j (stopT j.now ah) (stopE j.now ah))):=by
 have l:=h.1;have A1:=h.lt;obtain⟨V,E⟩:=h.js2 (T #[H G 5,H G ah,H G ab,H G an,A A9] 24) (T #[H G 0,H G 0,A ⟨#[]⟩] 31);have E:=zA E;have s:=zA (pC (W:=(w.alloc (T #[H G 5,H G ah,H G ab,H G an,A A9] 24)).alloc (T #[H G 0,H G 0,A ⟨#[]⟩] 31)) (b:=w.heap.size+1) hX (by simp) (by simp;omega));clear h hX;go_enter func24,ntmps24;go_wp2;rename_i KK B1;refine(show∀W,W=_->Code.wp prog _ _ _ W from λW5 hW=>?_) _ rfl;rw[<-hW]at E s;clear hW;refine(show∀A0:Act,A0=_->Code.wp prog _ _ A0 _ from λA0 A4=>?_) _ rfl;have D:A0.tmps.size=67:=by rw[A4];rfl
 have Q:A0.defers=[]:=by rw[A4]
 have p:A0.eval (.tmp 0)=C (J ⟨B,0,Z⟩):=by rw[A4];rfl
 have u:A0.eval (.tmp 3)=C (J ⟨w.heap.size,0,Z⟩):=by rw[A4];rfl
 have v4:A0.eval (.tmp 4)=C (J ⟨w.heap.size+1,0,Z⟩):=by rw[A4];rfl
 clear A4;have HL:ZC [Is (C (J ⟨B,0,Z⟩)),Is (C (J ⟨B,0,Z⟩)),Is (C (J ⟨B,0,Z⟩)),Is (C (J ⟨B,31,Z⟩)),Is (uB j V),Is (C (J ⟨w.heap.size,1,Z⟩)),Is (H G ah),λv w'=>∃A2,v=S #[A2,H G (stopE j.now ah)]/\IsTx (aA w' ((w.heap.size+1)::X)) A2 (stopT j.now ah)/\RoomTx A2,λv w'=>IsTx (aA w' ((w.heap.size+1)::X)) v (stopT j.now ah)/\RoomTx v,Is (H G (stopE j.now ah))]:=λw1 O hb=>Holds.is (.is (.is (.is (.is (.is (.is (.cons (.cons (.is .nil) (λ_ h=>⟨h.1.ext (Ext.freshL hb),h.2⟩)) (λ_ ⟨A2,e,h⟩=>⟨A2,e,h.1.ext (Ext.freshL hb),h.2⟩))))))));refine QI (W:=W5) 10 [Is (C (J ⟨B,0,Z⟩)),Is (C (J ⟨B,0,Z⟩)),Is (C (J ⟨B,0,Z⟩)),Is (C (J ⟨B,31,Z⟩)),Is (uB j V),Is (C (J ⟨w.heap.size,1,Z⟩)),Is (H G ah),λv w'=>∃A2,v=S #[A2,H G (stopE j.now ah)]/\IsTx (aA w' ((w.heap.size+1)::X)) A2 (stopT j.now ah)/\RoomTx A2,λv w'=>IsTx (aA w' ((w.heap.size+1)::X)) v (stopT j.now ah)/\RoomTx v,Is (H G (stopE j.now ah))] (by kernel_rfl) (by kernel_rfl) (by kernel_rfl) (by kernel_rfl) (by kernel_rfl) (Ub _ _).drew ⟨?_,?_,?_,?_,?_,?_,?_,?_,?_,?_,trivial⟩ ?_
 iterate 7
  refine OA D λa w' A8 F A3=>⟨_,?_,rfl⟩
  have m:=(A8.other 0 rfl).trans p;have i:=(A8.other 3 rfl).trans u;have B0:=Act.eval_const a;have A7:=Act.eval_func a;obtain⟨c0,_⟩:=kA ((E.o.below F).k);unfold rA at c0;obtain⟨c1,_⟩:=kA ((E.o.below F).tl.b0.2.1)
  revert A3 m i B0 A7
  generalize a.eval=ρ;intro A3 m i B0 A7;simp[Region.binds,lf,Is]at A3;simp only[execOp,uB]
  go_simp
 .refine OC D HL λa w' A8 F A3=>⟨59,#[uB j V,H G ah],?_,(lH E.o.r.now E.o.r.room s.o F (QT _ _ _ _ ((E.o.r.now.ext (Ext.seenL _ _)).below F) hg)).mono λ_ _ ⟨A2,e,hb,h⟩=>⟨_,e,⟨A2,rfl,h _ λ_ h=>.inl h⟩,hb⟩⟩
  simp[Region.binds,lf,Is]at A3;have A7:=Act.eval_func a
  revert A3 A7
  generalize a.eval=ρ;intro A3 A7;simp only[execOp]
  go_simp
 .refine OA D λa w' A8 F A3=>?_;obtain⟨A2,A6,L⟩:∃A2,a.eval (.tmp 40)=S #[A2,H G (stopE j.now ah)]/\_:=A3 ⟨7,.data⟩ (by simp) rfl;exact⟨A2,by revert A6;generalize a.eval=ρ;intro A6;simp only[execOp];go_simp,L⟩
 .refine OA D λa w' A8 F A3=>?_;obtain⟨A2,A6,L⟩:∃A2,a.eval (.tmp 40)=S #[A2,H G (stopE j.now ah)]/\_:=A3 ⟨7,.data⟩ (by simp) rfl;exact⟨_,by revert A6;generalize a.eval=ρ;intro A6;simp only[execOp];go_simp,rfl⟩
 intro a O A8 F A3;obtain⟨A6,L⟩:IsTx (aA O ((w.heap.size+1)::X)) (a.eval (.tmp 41)) (stopT j.now ah)/\RoomTx (a.eval (.tmp 41)):=A3 8 (by decide);have d:a.eval (.tmp 42)=H G (stopE j.now ah):=A3 9 (by decide);have R:a.eval (.tmp 33)=C (J ⟨B,0,Z⟩):=A3 0 (by decide);have U:=E.o.below F;refine cH D A8 56 #[C (J ⟨B,0,Z⟩),a.eval (.tmp 41),H G (stopE j.now ah)] ?_ ((hrun B _ j O U.at _ _ A6 L _).mono ?_)
 .have A7:=Act.eval_func a
  revert d R A7
  clear A6 L A3;generalize a.eval=ρ;intro d R A7;simp only[execOp]
  go_simp
 rintro _ z ⟨rfl,hA,hB⟩;obtain⟨V3,M⟩:=U.of hA hB;refine⟨_,rfl,λa' A5 Y _=>?_⟩;have M:=zA M;have N:=(A5.other 4 rfl).trans v4;have f0:=(A5.other 0 rfl).trans p;generalize runJ j (stopT j.now ah) (stopE j.now ah)=q at *;obtain⟨y,yf⟩:=kA M.o.b0.2.1;refine xM (w':=yB z (w.heap.size+1) [(0,H G q.2.code),(1,H G q.2.n),(2,A q.2.text)]) ?_ ?_
 .revert Y N
  generalize a'.eval=ρ;intro Y N;dsimp only[vRp,yB]at *;simp only[execOp]
  go_simp
 obtain⟨g,hg,rfl⟩:=nB a' 67 (A5.size.trans D) (A5.defers.trans Q);rw[hg]at N;simp only[List.range,List.range.loop,List.map_cons,List.map_nil,N];show KK _ _;apply B1;go_wp2;exact M.o.told rfl l M.o.b0 (Fc _) λW c=>by simp[results,results24,go_sem,c]
theorem xP(s:ByteArray):oA (fitT s)=I:=by
 have:(fitT s).size=32:=by
  show(bD s).toArray.size=32;have hl:s.data.toList.length=s.size:=rfl;simp only[bD,List.size_toArray,List.length_append,List.length_take,List.length_replicate];omega
 simp[oA,this]
theorem hZ(B:Nat)(X:List Nat)(j:Jn)(w:K)(h:JAt w B X j)(hX:∀x∈X,x<w.heap.size)(B7:nA j.now=I)(ah ab an:Int)(B0:ByteArray)(ht:B0.size<=maxLen):
  Calls prog 60 #[C (J ⟨B,0,Z⟩),.agg #[H G 2,H G ah,H G ab,H G an,A B0]] w (IB w B X (writeJ j ⟨2,ah,ab,an,B0⟩)):=by
 have N:=h.1;have A6:=h.lt;obtain⟨V,D⟩:=h.js2 (.cells #[H G 2,H G ah,H G ab,H G an,A B0] 24) (.cells #[H G 0,H G 0,A ⟨#[]⟩] 31);have D:=zA D;have HX:=zA (pC (W:=(w.alloc (.cells #[H G 2,H G ah,H G ab,H G an,A B0] 24)).alloc (.cells #[H G 0,H G 0,A ⟨#[]⟩] 31)) (b:=w.heap.size+1) hX (by simp) (by simp;omega));clear h hX;go_enter func60,ntmps60;go_wp2;rename_i KK p;refine(show∀W,W=_->Code.wp prog _ _ _ W from λi hW=>?_) _ rfl;rw[<-hW]at D HX;clear hW;refine(show∀A0:Act,A0=_->Code.wp prog _ _ A0 _ from λA0 B1=>?_) _ rfl;have S:A0.tmps.size=45:=by rw[B1];rfl
 have l:A0.defers=[]:=by rw[B1]
 have v0:A0.eval (.tmp 0)=C (J ⟨B,0,Z⟩):=by rw[B1];rfl
 have v3:A0.eval (.tmp 3)=C (J ⟨w.heap.size,0,Z⟩):=by rw[B1];rfl
 have v4:A0.eval (.tmp 4)=C (J ⟨w.heap.size+1,0,Z⟩):=by rw[B1];rfl
 have v5:A0.eval (.tmp 5)=undef:=by rw[B1];rfl
 clear B1;refine YE (W:=i) 11 5 [C (J ⟨B,0,Z⟩),C (J ⟨B,0,Z⟩),C (J ⟨B,31,Z⟩),uB j V,C (J ⟨w.heap.size,1,Z⟩),H G ah,C (J ⟨w.heap.size,2,Z⟩),H G ab,C (J ⟨w.heap.size,4,Z⟩),A B0,A (fitT B0)] (H G (changeE j.now ah ab (fitT B0))) ((w.heap.size+1)::X) (λv w=>IsTx w v (ZB j.now ah ab (fitT B0))/\RoomTx v) 52 #[H G 0,M Z 0 0,M Z 0 0,M Z 0 0,.bool O,H G 0,.bool O,H G 0,.bool O,H G 0] (by kernel_rfl) S v5 (Ub _ _).drew (by kernel_rfl) (by kernel_rfl) (by kernel_rfl) ⟨?_,?_,?_,?_,?_,?_,?_,?_,?_,?_,?_,trivial⟩ (λ_ _ _ he h=>⟨h.1.ext he,h.2⟩) (λv w h=>by obtain⟨a,c,b,d,e,f,rfl,_⟩:=h.1;exact⟨_,rfl,rfl,by simp[Value.oneCell']⟩) ?_ ?_ ?_ ?_ ?_ ?_ ?_
 iterate 10
  refine⟨rfl,⟨_,rfl,by decide,by decide⟩,λa w' F Q B3=>.inl ?_⟩;have z0:=(F.other 0 rfl).trans v0;have z3:=(F.other 3 rfl).trans v3;have pc:=Act.eval_const a;have B4:=Act.eval_func a;obtain⟨c0,_⟩:=kA ((D.o.below Q).k);unfold rA at c0;obtain⟨c1,_⟩:=kA ((D.o.below Q).tl.b0.2.1)
  revert B3 z0 z3 pc B4
  generalize a.eval=ρ;intro B3 z0 z3 pc B4;simp[Region.binds]at B3;simp only[execOp,uB,List.getD_cons_succ,List.getD_cons_zero]
  go_simp
 .refine⟨rfl,⟨_,rfl,by decide,by decide⟩,λa w' F Q B3=>.inr ⟨48,#[A B0],?_,OF _ _ ht⟩⟩;simp[Region.binds]at B3;have B4:=Act.eval_func a
  revert B3 B4
  generalize a.eval=ρ;intro B3 B4;simp only[execOp]
  go_simp
 .intro a w' F Q B3;simp[Region.binds]at B3;refine⟨109,#[uB j V,H G ah,H G ab,A (fitT B0)],?_,lH D.o.r.now D.o.r.room HX.o Q (Ga _ _ _ _ _ _ ((D.o.r.now.ext (Ext.seenL _ _)).below Q) B7 (xP B0))⟩;have B4:=Act.eval_func a
  revert B3 B4
  generalize a.eval=ρ;intro B3 B4;simp only[execOp]
  go_simp
 rotate_left
 iterate 5 (intros;simp only[execOp];go_simp)
 intro a w2 T cs F Y pT pE hT m B9;obtain⟨ua,uc,ub,ud,ue,uf,A1,_⟩:=id B9.1;cases A1;have f0:=(F.other 0 rfl).trans v0;have f3:=(F.other 3 rfl).trans v3;have u:=(F.other 4 rfl).trans v4;obtain⟨g,hg,rfl⟩:=nB a 45 (F.size.trans S) (F.defers.trans l);rw[hg]at pT pE f0 f3 u;simp only[List.range,List.range.loop,List.map_cons,List.map_nil,pT,pE,f0,f3,u];show KK _ _;apply p;have B8:=zA ((D.o.below Y).has (by have:=D.o.lt;omega) m);have K2:=zA (B9.1.ext (Ext.lessL T));have M2:=zA B9.2;clear F Y m B9 pT pE f0 f3 u hg p D HX B7 hT v0 v3 v4 v5 S l;by_cases he:changeE j.now ah ab (fitT B0)=0
 rotate_left
 .have E:Hid (writeJ j ⟨2,ah,ab,an,B0⟩=(j,eA (changeE j.now ah ab (fitT B0)))):=Qb he;have A4:((changeE j.now ah ab (fitT B0))==0)=O:=Ec.2 he;clear he;generalize changeE j.now ah ab (fitT B0)=ec at *;go_wp2_with fail;refine(B8.o.code ec).mono ?_;rintro _ w9 ⟨rfl,B2⟩;have B2:=zA B2;obtain⟨y,yf⟩:=kA B2.o.tl.b0.2.1;have hy:=B2.o.tl.b0.1;go_wp2;exact B2.o.told E.o N B2.o.tl.b0 (Fc _) λW c=>by simp[results,results60,go_sem,c]
 obtain⟨A8,A2⟩:=EQ he;obtain⟨B5,rfl⟩:∃n:Nat,ab=n:=⟨ab.toNat,by omega⟩;have q:B5<12:=by omega
 have A9:(B5:Int)<12:=by omega
 have E:=zA (show writeJ j ⟨2,ah,(B5:Int),an,B0⟩=_ from Rb he);dsimp only[Int.toNat_natCast]at E;rw[he];clear he A2;obtain⟨x,xf⟩:=kA B8.o.tl.tl.b0.2.1;go_wp2
 go_quiet (fail)
 obtain⟨i,R⟩:∃W,W=w2.drewN nq:=⟨_,rfl⟩;have U:Below w2.heap.size w2 i:=by rw[R];exact Qc (Ub _ _) _
 have L:=zA (B8.o.below U);have K5:=zA (K2.o.ext (Ext.freshL U));rw[<-R];clear R U B8 K2 x xf;obtain⟨r0,r1⟩:=L.o.roleAt q;have rf:=(kA L.o.k).2;have A5:=L.o.lt;by_cases hr:j.role B5=2
 .rw[Rb hr]at E;rw[hr]at r0;clear hr;go_wp2_with fail;refine(L.o.code 8).mono ?_;rintro _ w9 ⟨rfl,B2⟩;have B2:=zA B2;obtain⟨y,yf⟩:=kA B2.o.tl.b0.2.1;have hy:=B2.o.tl.b0.1;go_wp2;exact B2.o.told E.o N B2.o.tl.b0 (Fc _) λW c=>by simp[results,results60,go_sem,c]
 rw[Qb hr]at E;have A3:(j.role B5==2)=O:=Ec.2 hr;clear hr;obtain⟨z,zf⟩:=kA L.o.b0.2.1;have A7:=L.o.b0.1;go_wp2_with fail;have s:=L.o.role q 1;have C0:=hrun B _ _ _ s.at (ZB j.now ah (B5:Int) (fitT B0)) _ (K5.o.ext (Ext.butL ((((ButL.refl [B] _ i).set (.inl (by simp)) (7+B5*2) (H G 1)).wider (by simp[N]))))) M2.o 0;rw[runJ,Rb rfl]at C0;refine C0.mono ?_;rintro _ w7 ⟨rfl,hA,Y⟩;obtain⟨V7,B6⟩:=s.of hA Y;have B6:=zA B6;clear s hA Y C0;dsimp only[vRp,eA];obtain⟨y,yf⟩:=kA B6.o.tl.b0.2.1;have hy:=B6.o.tl.b0.1;go_wp2;exact B6.o.told E.o N B6.o.tl.b0 (Fc _) λW c=>by simp[results,results60,go_sem,c]
theorem LX(B:Nat)(X:List Nat)(j:Jn)(w:K)(h:JAt w B X j)(hX:∀x∈X,x<w.heap.size)(B6:nA j.now=I)(ah ab an:Int)(A9:ByteArray)(ht:A9.size<=maxLen):
  Calls prog 61 #[C (J ⟨B,0,Z⟩),.agg #[H G 3,H G ah,H G ab,H G an,A A9]] w (IB w B X (fillJ j ⟨3,ah,ab,an,A9⟩)):=by
 have N:=h.1;have A5:=h.lt;obtain⟨V,F⟩:=h.js2 (.cells #[H G 3,H G ah,H G ab,H G an,A A9] 24) (.cells #[H G 0,H G 0,A ⟨#[]⟩] 31);have F:=zA F;have HX:=zA (pC (W:=(w.alloc (.cells #[H G 3,H G ah,H G ab,H G an,A A9] 24)).alloc (.cells #[H G 0,H G 0,A ⟨#[]⟩] 31)) (b:=w.heap.size+1) hX (by simp) (by simp;omega));clear h hX;go_enter func61,ntmps61;go_wp2;rename_i KK u;refine(show∀W,W=_->Code.wp prog _ _ _ W from λQ hW=>?_) _ rfl;rw[<-hW]at F HX;clear hW;refine(show∀A0:Act,A0=_->Code.wp prog _ _ A0 _ from λA0 B1=>?_) _ rfl;have B8:A0.tmps.size=57:=by rw[B1];rfl
 have q:A0.defers=[]:=by rw[B1]
 have v0:A0.eval (.tmp 0)=C (J ⟨B,0,Z⟩):=by rw[B1];rfl
 have v3:A0.eval (.tmp 3)=C (J ⟨w.heap.size,0,Z⟩):=by rw[B1];rfl
 have v4:A0.eval (.tmp 4)=C (J ⟨w.heap.size+1,0,Z⟩):=by rw[B1];rfl
 have v5:A0.eval (.tmp 5)=undef:=by rw[B1];rfl
 clear B1;refine YE (W:=Q) 11 5 [C (J ⟨B,0,Z⟩),C (J ⟨B,0,Z⟩),C (J ⟨B,31,Z⟩),uB j V,C (J ⟨w.heap.size,1,Z⟩),H G ah,C (J ⟨w.heap.size,2,Z⟩),H G ab,C (J ⟨w.heap.size,4,Z⟩),A A9,A (fitT A9)] (H G (fillE j.now ah ab (fitT A9))) ((w.heap.size+1)::X) (λv w=>IsTx w v (xC j.now ah ab (fitT A9))/\RoomTx v) 52 #[H G 0,M Z 0 0,M Z 0 0,M Z 0 0,.bool O,H G 0,.bool O,H G 0,.bool O,H G 0] (by kernel_rfl) B8 v5 (Ub _ _).drew (by kernel_rfl) (by kernel_rfl) (by kernel_rfl) ⟨?_,?_,?_,?_,?_,?_,?_,?_,?_,?_,?_,trivial⟩ (λ_ _ _ he h=>⟨h.1.ext he,h.2⟩) (λv w h=>by obtain⟨a,c,b,d,e,f,rfl,_⟩:=h.1;exact⟨_,rfl,rfl,by simp[Value.oneCell']⟩) ?_ ?_ ?_ ?_ ?_ ?_ ?_
 iterate 10
  refine⟨rfl,⟨_,rfl,by decide,by decide⟩,λa w' B2 S B3=>.inl ?_⟩;have z0:=(B2.other 0 rfl).trans v0;have z3:=(B2.other 3 rfl).trans v3;have pc:=Act.eval_const a;have L:=Act.eval_func a;obtain⟨c0,_⟩:=kA ((F.o.below S).k);unfold rA at c0;obtain⟨c1,_⟩:=kA ((F.o.below S).tl.b0.2.1)
  revert B3 z0 z3 pc L
  generalize a.eval=ρ;intro B3 z0 z3 pc L;simp[Region.binds]at B3;simp only[execOp,uB,List.getD_cons_succ,List.getD_cons_zero]
  go_simp
 .refine⟨rfl,⟨_,rfl,by decide,by decide⟩,λa w' B2 S B3=>.inr ⟨48,#[A A9],?_,OF _ _ ht⟩⟩;simp[Region.binds]at B3;have L:=Act.eval_func a
  revert B3 L
  generalize a.eval=ρ;intro B3 L;simp only[execOp]
  go_simp
 .intro a w' B2 S B3;simp[Region.binds]at B3;refine⟨110,#[uB j V,H G ah,H G ab,A (fitT A9)],?_,lH F.o.r.now F.o.r.room HX.o S (pb _ _ _ _ _ _ ((F.o.r.now.ext (Ext.seenL _ _)).below S) B6 (xP A9))⟩;have L:=Act.eval_func a
  revert B3 L
  generalize a.eval=ρ;intro B3 L;simp only[execOp]
  go_simp
 rotate_left
 iterate 5 (intros;simp only[execOp];go_simp)
 intro a w2 T cs B2 l pT pE hT s B7;obtain⟨ua,uc,ub,ud,ue,uf,A1,_⟩:=id B7.1;cases A1;have f0:=(B2.other 0 rfl).trans v0;have f3:=(B2.other 3 rfl).trans v3;have f4:=(B2.other 4 rfl).trans v4;obtain⟨g,hg,rfl⟩:=nB a 57 (B2.size.trans B8) (B2.defers.trans q);rw[hg]at pT pE f0 f3 f4;simp only[List.range,List.range.loop,List.map_cons,List.map_nil,pT,pE,f0,f3,f4];show KK _ _;apply u;have m:=zA ((F.o.below l).has (by have:=F.o.lt;omega) s);have K2:=zA (B7.1.ext (Ext.lessL T));have M2:=zA B7.2;clear B2 l s B7 pT pE f0 f3 f4 hg u F HX B6 hT v0 v3 v4 v5 B8 q;by_cases he:fillE j.now ah ab (fitT A9)=0
 rotate_left
 .have E:Hid (fillJ j ⟨3,ah,ab,an,A9⟩=(j,eA (fillE j.now ah ab (fitT A9)))):=Qb he;have A4:((fillE j.now ah ab (fitT A9))==0)=O:=Ec.2 he;clear he;generalize fillE j.now ah ab (fitT A9)=ec at *;go_wp2_with fail;refine(m.o.code ec).mono ?_;rintro _ w9 ⟨rfl,B0⟩;have B0:=zA B0;obtain⟨y,yf⟩:=kA B0.o.tl.b0.2.1;have hy:=B0.o.tl.b0.1;go_wp2;exact B0.o.told E.o N B0.o.tl.b0 (Fc _) λW c=>by simp[results,results61,go_sem,c]
 obtain⟨A7,A2⟩:=cM he;obtain⟨B4,rfl⟩:∃n:Nat,ab=n:=⟨ab.toNat,by omega⟩;have i:B4<12:=by omega
 have A8:(B4:Int)<12:=by omega
 have E:=zA (show fillJ j ⟨3,ah,(B4:Int),an,A9⟩=_ from Rb he);dsimp only[Int.toNat_natCast]at E;rw[he];clear he A2;obtain⟨x,xf⟩:=kA m.o.tl.tl.b0.2.1;go_wp2
 go_quiet (fail)
 obtain⟨Q,Y⟩:∃W,W=w2.drewN nq:=⟨_,rfl⟩;have B5:Below w2.heap.size w2 Q:=by rw[Y];exact Qc (Ub _ _) _
 have D:=zA (m.o.below B5);have K5:=zA (K2.o.ext (Ext.freshL B5));rw[<-Y];clear Y B5 m K2 x xf;obtain⟨r0,r1⟩:=D.o.roleAt i;have rf:=(kA D.o.k).2;have p:=D.o.lt;by_cases hr:j.role B4=1
 .rw[Rb hr]at E;rw[hr]at r0;clear hr;go_wp2_with fail;refine(D.o.code 8).mono ?_;rintro _ w9 ⟨rfl,B0⟩;have B0:=zA B0;obtain⟨y,yf⟩:=kA B0.o.tl.b0.2.1;have hy:=B0.o.tl.b0.1;go_wp2;exact B0.o.told E.o N B0.o.tl.b0 (Fc _) λW c=>by simp[results,results61,go_sem,c]
 rw[Qb hr]at E;have A3:(j.role B4==1)=O:=Ec.2 hr;obtain⟨x,xf⟩:=kA D.o.k;unfold rA at x;clear hr;go_wp2
 go_quiet (fail)
 obtain⟨W6,U⟩:∃W,W=Q.drewN nq:=⟨_,rfl⟩;have B5:Below Q.heap.size Q W6:=by rw[U];exact Qc (Ub _ _) _
 replace D:=zA (D.o.below B5)
 replace K5:=zA (K5.o.ext (Ext.freshL B5))
 rw[<-U];clear U B5 x xf r0 r1 rf p;obtain⟨r0,r1⟩:=D.o.roleAt i;have rf:=(kA D.o.k).2;have p:=D.o.lt;by_cases hf:j.last<j.freed B4
 .rw[Rb hf]at E;go_wp2_with fail;refine(D.o.code 9).mono ?_;rintro _ w9 ⟨rfl,B0⟩;have B0:=zA B0;obtain⟨y,yf⟩:=kA B0.o.tl.b0.2.1;have hy:=B0.o.tl.b0.1;go_wp2;exact B0.o.told E.o N B0.o.tl.b0 (Fc _) λW c=>by simp[results,results61,go_sem,c]
 rw[Qb hf]at E;obtain⟨z,zf⟩:=kA D.o.b0.2.1;have A6:=D.o.b0.1;go_wp2_with fail;have S6:=D.o.role i 2;have B9:=hrun B _ _ _ S6.at (xC j.now ah (B4:Int) (fitT A9)) _ (K5.o.ext (Ext.butL ((((ButL.refl [B] _ W6).set (.inl (by simp)) (7+B4*2) (H G 2)).wider (by simp[N]))))) M2.o 0;rw[runJ,Rb rfl]at B9;refine B9.mono ?_;rintro _ w7 ⟨rfl,hA,l⟩;obtain⟨V7,R⟩:=S6.of hA l;have R:=zA R;clear S6 hA l B9;dsimp only[vRp,eA];obtain⟨y,yf⟩:=kA R.o.tl.b0.2.1;have hy:=R.o.tl.b0.1;go_wp2;exact R.o.told E.o N R.o.tl.b0 (Fc _) λW c=>by simp[results,results61,go_sem,c]
theorem SV(B:Nat)(X:List Nat)(j:Jn)(w:K)(h:JAt w B X j)(hX:∀x∈X,x<w.heap.size)(B7:nA j.now=I)(ah ab an:Int)(B2:ByteArray):
  Calls prog 62 #[C (J ⟨B,0,Z⟩),.agg #[H G 4,H G ah,H G ab,H G an,A B2]] w (IB w B X (revokeJ j ⟨4,ah,ab,an,B2⟩)):=by
 have B9:=h.1;have A6:=h.lt;obtain⟨V,D⟩:=h.js2 (.cells #[H G 4,H G ah,H G ab,H G an,A B2] 24) (.cells #[H G 0,H G 0,A ⟨#[]⟩] 31);have D:=zA D;have HX:=zA (pC (W:=(w.alloc (.cells #[H G 4,H G ah,H G ab,H G an,A B2] 24)).alloc (.cells #[H G 0,H G 0,A ⟨#[]⟩] 31)) (b:=w.heap.size+1) hX (by simp) (by simp;omega));clear h hX;go_enter func62,ntmps62;go_wp2;rename_i KK p;refine(show∀W,W=_->Code.wp prog _ _ _ W from λi hW=>?_) _ rfl;rw[<-hW]at D HX;clear hW;refine(show∀A0:Act,A0=_->Code.wp prog _ _ A0 _ from λA0 B0=>?_) _ rfl;have R:A0.tmps.size=44:=by rw[B0];rfl
 have l:A0.defers=[]:=by rw[B0]
 have v0:A0.eval (.tmp 0)=C (J ⟨B,0,Z⟩):=by rw[B0];rfl
 have v3:A0.eval (.tmp 3)=C (J ⟨w.heap.size,0,Z⟩):=by rw[B0];rfl
 have v4:A0.eval (.tmp 4)=C (J ⟨w.heap.size+1,0,Z⟩):=by rw[B0];rfl
 have v5:A0.eval (.tmp 5)=undef:=by rw[B0];rfl
 clear B0;refine YE (W:=i) 8 5 [C (J ⟨B,0,Z⟩),C (J ⟨B,0,Z⟩),C (J ⟨B,31,Z⟩),uB j V,C (J ⟨w.heap.size,1,Z⟩),H G ah,C (J ⟨w.heap.size,2,Z⟩),H G ab] (H G (revokeE j.now ah ab)) ((w.heap.size+1)::X) (λv w=>IsTx w v (GB j.now ah ab)/\RoomTx v) 52 #[H G 0,M Z 0 0,M Z 0 0,M Z 0 0,.bool O,H G 0,.bool O,H G 0,.bool O,H G 0] (by kernel_rfl) R v5 (Ub _ _).drew (by kernel_rfl) (by kernel_rfl) (by kernel_rfl) ⟨?_,?_,?_,?_,?_,?_,?_,?_,trivial⟩ (λ_ _ _ he h=>⟨h.1.ext he,h.2⟩) (λv w h=>by obtain⟨a,c,b,d,e,f,rfl,_⟩:=h.1;exact⟨_,rfl,rfl,by simp[Value.oneCell']⟩) ?_ ?_ ?_ ?_ ?_ ?_ ?_
 iterate 8
  refine⟨rfl,⟨_,rfl,by decide,by decide⟩,λa w' B3 U B5=>.inl ?_⟩;have z0:=(B3.other 0 rfl).trans v0;have z3:=(B3.other 3 rfl).trans v3;have pc:=Act.eval_const a;have B6:=Act.eval_func a;obtain⟨c0,_⟩:=kA ((D.o.below U).k);unfold rA at c0;obtain⟨c1,_⟩:=kA ((D.o.below U).tl.b0.2.1)
  revert B5 z0 z3 pc B6
  generalize a.eval=ρ;intro B5 z0 z3 pc B6;simp[Region.binds]at B5;simp only[execOp,uB,List.getD_cons_succ,List.getD_cons_zero]
  go_simp
 .intro a w' B3 U B5;simp[Region.binds]at B5;refine⟨111,#[uB j V,H G ah,H G ab],?_,lH D.o.r.now D.o.r.room HX.o U (OW _ _ _ _ _ ((D.o.r.now.ext (Ext.seenL _ _)).below U) B7)⟩;have B6:=Act.eval_func a
  revert B5 B6
  generalize a.eval=ρ;intro B5 B6;simp only[execOp]
  go_simp
 rotate_left
 iterate 5 (intros;simp only[execOp];go_simp)
 intro a w2 T cs B3 Y pT pE hT m L;obtain⟨ua,uc,ub,ud,ue,uf,A1,_⟩:=id L.1;cases A1;have f0:=(B3.other 0 rfl).trans v0;have f3:=(B3.other 3 rfl).trans v3;have u:=(B3.other 4 rfl).trans v4;obtain⟨g,hg,rfl⟩:=nB a 44 (B3.size.trans R) (B3.defers.trans l);rw[hg]at pT pE f0 f3 u;simp only[List.range,List.range.loop,List.map_cons,List.map_nil,pT,pE,f0,f3,u];show KK _ _;apply p;have B8:=zA ((D.o.below Y).has (by have:=D.o.lt;omega) m);have K2:=zA (L.1.ext (Ext.lessL T));have M2:=zA L.2;clear B3 Y m L pT pE f0 f3 u hg p D HX B7 hT v0 v3 v4 v5 R l;by_cases he:revokeE j.now ah ab=0
 rotate_left
 .have E:Hid (revokeJ j ⟨4,ah,ab,an,B2⟩=(j,eA (revokeE j.now ah ab))):=Qb he;have A4:((revokeE j.now ah ab)==0)=O:=Ec.2 he;clear he;generalize revokeE j.now ah ab=ec at *;go_wp2_with fail;refine(B8.o.code ec).mono ?_;rintro _ w9 ⟨rfl,B1⟩;have B1:=zA B1;obtain⟨y,yf⟩:=kA B1.o.tl.b0.2.1;have hy:=B1.o.tl.b0.1;go_wp2;exact B1.o.told E.o B9 B1.o.tl.b0 (Fc _) λW c=>by simp[results,results62,go_sem,c]
 obtain⟨A8,A2⟩:=JN he;obtain⟨F,rfl⟩:∃n:Nat,ab=n:=⟨ab.toNat,by omega⟩;have q:F<12:=by omega
 have A9:(F:Int)<12:=by omega
 have E:=zA (show revokeJ j ⟨4,ah,(F:Int),an,B2⟩=_ from Rb he);dsimp only[Int.toNat_natCast]at E;rw[he];clear he A2;obtain⟨x,xf⟩:=kA B8.o.tl.tl.b0.2.1;go_wp2
 go_quiet (fail)
 obtain⟨i,Q⟩:∃W,W=w2.drewN nq:=⟨_,rfl⟩;have S:Below w2.heap.size w2 i:=by rw[Q];exact Qc (Ub _ _) _
 have B4:=zA (B8.o.below S);have K5:=zA (K2.o.ext (Ext.freshL S));rw[<-Q];clear Q S B8 K2 x xf;obtain⟨r0,r1⟩:=B4.o.roleAt q;have rf:=(kA B4.o.k).2;have A5:=B4.o.lt;by_cases hr:j.role F=0
 .rw[Rb hr]at E;rw[hr]at r0;clear hr;go_wp2_with fail;refine(B4.o.code 8).mono ?_;rintro _ w9 ⟨rfl,B1⟩;have B1:=zA B1;obtain⟨y,yf⟩:=kA B1.o.tl.b0.2.1;have hy:=B1.o.tl.b0.1;go_wp2;exact B1.o.told E.o B9 B1.o.tl.b0 (Fc _) λW c=>by simp[results,results62,go_sem,c]
 rw[Qb hr]at E;have A3:(j.role F==0)=O:=Ec.2 hr;clear hr;obtain⟨z,zf⟩:=kA B4.o.b0.2.1;have A7:=B4.o.b0.1;go_wp2_with fail;have s:=B4.o.freed q 0 (GB j.now ah (F:Int)).seq;have C0:=hrun B _ _ _ s.at (GB j.now ah (F:Int)) _ (K5.o.ext (Ext.butL (((((ButL.refl [B] _ i).set (.inl (by simp)) (7+F*2) (H G 0)).set (.inl (by simp)) (7+F*2+1) (H G (GB j.now ah (F:Int)).seq)).wider (by simp[B9]))))) M2.o 0;rw[runJ,Rb rfl]at C0;refine C0.mono ?_;rintro _ w7 ⟨rfl,hA,Y⟩;obtain⟨V7,N⟩:=s.of hA Y;have N:=zA N;clear s hA Y C0;dsimp only[vRp,eA];obtain⟨y,yf⟩:=kA N.o.tl.b0.2.1;have hy:=N.o.tl.b0.1;go_wp2;exact N.o.told E.o B9 N.o.tl.b0 (Fc _) λW c=>by simp[results,results62,go_sem,c]
theorem PG(l:List Tx):(newestL l).length<=1000:=ac (QG _ 12) (by decide)
theorem XP(B:Nat)(X:List Nat)(j:Jn)(w:K)(h:JAt w B X j)(i:∀x∈X,x<w.heap.size)(Q:Int)(a:Option Addr)(c:Nat)(l:List (Int×ByteArray))(u:SegW w a l)(hn:l.length*24<=140737488355328)(p q:Int)(r:pB l p q=0):
  Calls prog 54 #[C (J ⟨B,0,Z⟩),H G Q,M a l.length c,H G p,H G q] w λe w'=>e=N (H G 0)/\JAt w' B X {j with work:=Q,steps:=checkS l p q}/\ButL [B] w.heap.size w w':=by
 obtain⟨V,s⟩:=h.js;have S:=zA s;have I:=zA i;have F:=zA u;have z:=zA r;clear h s i u r;go_enter func54,ntmps54;go_wp2_with fail;refine(NZ a c l p q _ F.o hn).mono ?_;rintro _ w1 ⟨L,c2,rfl,E,D,A1,y⟩;have A:=zA ((S.o.below A1).gives (G':=λw=>SegSt w L _) (D.hideF (X:=X) y I.o) λ_ _ e h=>h.ext e);have A0:=A.o.lt;rw[z.o];clear D A1 y S F z I;obtain⟨x,xf⟩:=kA A.o.k;unfold rA at x;go_wp2;go_ret;have t:=A.o.steps Q A.o.g E;exact⟨rfl,t.at,t.b⟩
theorem PU(B:Nat)(X:List Nat)(j:Jn)(w:K)(h:JAt w B X j)(hX:∀x∈X,x<w.heap.size)(B2:j.done.length<=maxLen)(B3:IntKind.i64.wrap (j.last+1)=j.last+1)(hE:j.steps=[]->¬j.done=[]->pB (newestL j.done) j.rh (j.last+1)=0):
  Calls prog 64 #[C (J ⟨B,0,Z⟩)] w (IB w B X (checkJ j)):=by
 have B4:=h.1;have A1:=h.lt;have A2:B≠w.heap.size:=by omega
 obtain⟨V,s⟩:=h.js;obtain⟨x,xf⟩:=kA s.k;unfold rA at x;have A7:=zA (s.one (T #[H G 0,H G 0,A ⟨#[]⟩] 31) rfl);have HX:=zA (pC (W:=w.alloc (T #[H G 0,H G 0,A ⟨#[]⟩] 31)) (b:=w.heap.size) hX (by simp) (by simp));have U:=zA hE;clear h hX hE s;go_enter func64,ntmps64;go_wp2_with fail;refine(gH B (w.heap.size::X) j _ A7.o.at).mono ?_;rintro _ _ ⟨rfl,rfl⟩;by_cases hs:j.steps=[]
 rotate_left
 .have E:Hid (checkJ j=(j,eA 9)):=Rb hs;rw[show decide (0<j.steps.length)=I by simpa[List.length_pos_iff] using hs];clear hs U;go_wp2_with fail;refine(A7.o.code 9).mono ?_;rintro _ w9 ⟨rfl,D⟩;have D:=zA D;obtain⟨y,d⟩:=kA D.o.b0.2.1;have hy:=D.o.b0.1;go_wp2;exact D.o.told E.o B4 D.o.b0 (Sb _) λW c=>by simp[results,results64,go_sem,c]
 rw[show decide (0<j.steps.length)=O by rw[hs];rfl];by_cases hd:j.done=[]
 .have E:Hid (checkJ j=(j,eA 4)):=(Qb (by simp[hs])).trans (Rb hd);rw[hd]at x;clear hs hd U;go_wp2_with fail;refine(A7.o.code 4).mono ?_;rintro _ w9 ⟨rfl,D⟩;have D:=zA D;obtain⟨y,d⟩:=kA D.o.b0.2.1;have hy:=D.o.b0.1;go_wp2;exact D.o.told E.o B4 D.o.b0 (Sb _) λW c=>by simp[results,results64,go_sem,c]
 have A3:((j.done.length:Int)==0)=O:=Ec.2 (by have:=mf.2 hd;omega);have L:=U.o hs hd;have E:Hid (checkJ j=({j with work:=7,steps:=checkS (newestL j.done) j.rh (j.last+1)},eA 0)):=by rw[Hid,checkJ,Qb (by simp[hs]),Qb hd,ZF,Rb L]
 have H0:=zA L;have HD:=zA B2;have hw:=B3;clear hs hd U L B2 B3;go_wp2;rename_i KK p;refine(show∀W,W=_->Code.wp prog _ _ _ W from λW5 hW=>?_) _ rfl;rw[<-hW]at A7 HX;clear hW;clear x xf;refine(show∀A0:Act,A0=_->Code.wp prog _ _ A0 _ from λA0 A6=>?_) _ rfl;have F:A0.tmps.size=33:=by rw[A6];rfl
 have l:A0.defers=[]:=by rw[A6]
 have z:A0.eval (.tmp 0)=C (J ⟨B,0,Z⟩):=by rw[A6];rfl
 have v2:A0.eval (.tmp 2)=C (J ⟨w.heap.size,0,Z⟩):=by rw[A6];rfl
 clear A6;have HL:ZC [Is (C (J ⟨B,0,Z⟩)),Is (C (J ⟨B,0,Z⟩)),Is (C (J ⟨B,0,Z⟩)),Is (C (J ⟨B,51,Z⟩)),Is (M V.ca j.done.length V.cc),λv w'=>∃a c,v=M a (newestL j.done).length c/\SegW w' a (newestL j.done),Is (C (J ⟨B,0,Z⟩)),Is (C (J ⟨B,0,Z⟩)),Is (C (J ⟨B,3,Z⟩)),Is (C (J ⟨B,3,Z⟩)),Is (H G j.rh),Is (C (J ⟨B,0,Z⟩)),Is (C (J ⟨B,0,Z⟩)),Is (C (J ⟨B,5,Z⟩)),Is (H G j.last),Is (H G (j.last+1))]:=λw1 Y hb=>Holds.is (.is (.is (.is (.is (.cons (.is (.is (.is (.is (.is (.is (.is (.is (.is (.is .nil)))))))))) (λ_ ⟨a,c,e,h⟩=>⟨a,c,e,h.below hb⟩))))));refine QI (W:=W5) 16 [Is (C (J ⟨B,0,Z⟩)),Is (C (J ⟨B,0,Z⟩)),Is (C (J ⟨B,0,Z⟩)),Is (C (J ⟨B,51,Z⟩)),Is (M V.ca j.done.length V.cc),λv w'=>∃a c,v=M a (newestL j.done).length c/\SegW w' a (newestL j.done),Is (C (J ⟨B,0,Z⟩)),Is (C (J ⟨B,0,Z⟩)),Is (C (J ⟨B,3,Z⟩)),Is (C (J ⟨B,3,Z⟩)),Is (H G j.rh),Is (C (J ⟨B,0,Z⟩)),Is (C (J ⟨B,0,Z⟩)),Is (C (J ⟨B,5,Z⟩)),Is (H G j.last),Is (H G (j.last+1))] (by kernel_rfl) (by kernel_rfl) (by kernel_rfl) (by kernel_rfl) (by kernel_rfl) (Ub _ _).drew ⟨?_,?_,?_,?_,?_,?_,?_,?_,?_,?_,?_,?_,?_,?_,?_,?_,trivial⟩ ?_
 iterate 5
  refine OA F λa w' B1 A9 A4=>⟨_,?_,rfl⟩
  have Q:=(B1.other 0 rfl).trans z;have A8:=Act.eval_const a;have A5:=Act.eval_func a;obtain⟨c0,_⟩:=kA ((A7.o.below A9).k);unfold rA at c0
  revert A4 Q A8 A5
  generalize a.eval=ρ;intro A4 Q A8 A5;simp[Region.binds,lf,Is]at A4;simp only[execOp]
  go_simp
 .refine OC F HL λa w' B1 A9 A4=>⟨115,#[M V.ca j.done.length V.cc],?_,(UO _ _ j.done _ ((A7.o.below A9).r.done.ext (Ext.seenL _ _)) HD.o).mono λ_ w3 ⟨v3,he,ho,hb3⟩=>?_⟩
  .simp[Region.binds,lf,Is]at A4;have A5:=Act.eval_func a
   revert A4 A5
   generalize a.eval=ρ;intro A4 A5;simp only[execOp]
   go_simp
  obtain⟨R,c3,rfl,u,_⟩:=SegC.of_owns ho;exact⟨_,he,⟨R,c3,rfl,u⟩,hb3⟩
 iterate 10
  refine OA F λa w' B1 A9 A4=>⟨_,?_,rfl⟩
  have Q:=(B1.other 0 rfl).trans z;have A8:=Act.eval_const a;have A5:=Act.eval_func a;obtain⟨c0,_⟩:=kA ((A7.o.below A9).k);unfold rA at c0
  revert A4 Q A8 A5
  generalize a.eval=ρ;intro A4 Q A8 A5;simp[Region.binds,lf,Is]at A4;simp only[execOp]
  go_simp
 intro a Y B1 A9 A4;obtain⟨R,c3,n,hS⟩:∃a' c,a.eval (.tmp 20)=M a' (newestL j.done).length c/\SegW Y a' (newestL j.done):=A4 5 (by decide);have L:a.eval (.tmp 15)=C (J ⟨B,0,Z⟩):=A4 0 (by decide);have m:a.eval (.tmp 25)=H G j.rh:=A4 10 (by decide);have i:a.eval (.tmp 30)=H G (j.last+1):=A4 15 (by decide);have q:=A7.o.below A9;refine cH F B1 54 #[C (J ⟨B,0,Z⟩),H G 7,M R (newestL j.done).length c3,H G j.rh,H G (j.last+1)] ?_ ((XP B (w.heap.size::X) j Y q.at (λx hx=>Xb (HX.o x hx) A9.size) 7 R c3 (newestL j.done) hS (by have:=PG j.done;omega) _ _ H0.o).mono ?_)
 .have A8:=Act.eval_const a;clear A4;have A5:=Act.eval_func a
  revert L m i n A8 A5
  generalize a.eval=ρ;intro L m i n A8 A5;simp only[execOp]
  go_simp
 rintro _ w3 ⟨rfl,hA,hB⟩;obtain⟨V3,S3⟩:=q.of hA hB;refine⟨_,rfl,λa4 B5 p4 _=>?_⟩;refine cH F B5 20 #[H G 0] ?_ ((S3.code 0).mono ?_)
 .have A5:=Act.eval_func a4
  revert p4 A5
  generalize a4.eval=ρ;intro p4 A5;simp only[execOp]
  go_simp
 rintro _ w5 ⟨rfl,N⟩;refine⟨_,rfl,λa5 B0 B6 _=>?_⟩;have S:=(B0.other 2 rfl).trans v2;have N:=zA N;obtain⟨y,d⟩:=kA N.o.b0.2.1;refine xM (w':=yB w5 w.heap.size [(0,H G 0),(1,H G 0),(2,A ⟨#[]⟩)]) ?_ ?_
 .dsimp only[yB]
  revert B6 S
  generalize a5.eval=ρ;intro B6 S;simp only[execOp]
  go_simp
 obtain⟨g,hg,rfl⟩:=nB a5 33 (B0.size.trans F) (B0.defers.trans l);rw[hg]at S;simp only[List.range,List.range.loop,List.map_cons,List.map_nil,S];show KK _ _;apply p;go_wp2;exact N.o.told E.o B4 N.o.b0 (Sb _) λW c=>by simp[results,results64,go_sem,c]
def uE (b:Int):List (Option Addr×Nat×List (Int×ByteArray))->Option ByteArray
 |[]=>Z
 |x::r=>match uA b x.2.2 with
  |some s=>J s
  |none=>uE b r
theorem UR{b:Int}{L:List (Option Addr×Nat×List (Int×ByteArray))}{x:Option Addr×Nat×List (Int×ByteArray)}(h:L[k]?=J x):uE b (L.drop k)=match uA b x.2.2 with|some s=>J s|none=>uE b (L.drop (k+1)):=by
 have A:=(gd.1 h).1;rw[me A,(gd.1 h).2,uE]
theorem jW(j:Jn)(b:Int)(na nb sa sb D:Option Addr)(nc nd sc sd Q:Nat):textJ j b=match uE b [(na,nc,j.now.info),(nb,nd,j.now.data),(sa,sc,j.sealed.info),(sb,sd,j.sealed.data),(D,Q,newestL j.done)] with|some s=>(s,0)|none=>(jA j.disk (25+b),readE j.disk (25+b)):=by
 simp only[textJ,uE]
 cases uA b j.now.info with
 |some s=>rfl
 |none=>
  cases uA b j.now.data with
  |some s=>rfl
  |none=>
   cases uA b j.sealed.info with
   |some s=>rfl
   |none=>
    cases uA b j.sealed.data with
    |some s=>rfl
    |none=>cases uA b (newestL j.done)<;>rfl
theorem yZ(B:Nat)(X:List Nat)(j:Jn)(w:K)(b:Int)(h:JAt w B X j)(hn:j.done.length<=maxLen)(B6:0<=b)(B7:b<=11):
  Calls prog 116 #[C (J ⟨B,0,Z⟩),H G b] w λe w'=>e=N (S #[A (textJ j b).1,H G (textJ j b).2])/\JAt w' B X j/\ButL [B] w.heap.size w w':=by
 obtain⟨V,s⟩:=h.js;have p:=zA s;clear h s;go_enter func116,ntmps116;go_wp2;rename_i KK A1;refine(show∀A0:Act,A0=_->Code.wp prog _ _ A0 _ from λA0 A9=>?_) _ rfl;have E:A0.tmps.size=59:=by rw[A9];rfl
 have z:A0.defers=[]:=by rw[A9]
 have v0:A0.eval (.tmp 0)=C (J ⟨B,0,Z⟩):=by rw[A9];rfl
 have v1:A0.eval (.tmp 1)=H G b:=by rw[A9];rfl
 have v4:A0.eval (.tmp 4)=A ⟨#[]⟩:=by rw[A9];rfl
 have v5:A0.eval (.tmp 5)=H G 0:=by rw[A9];rfl
 clear A9;have HL:ZC [Is (C (J ⟨B,0,Z⟩)),Is (C (J ⟨B,0,Z⟩)),Is (C (J ⟨B,31,Z⟩)),Is (C (J ⟨B,32,Z⟩)),Is (M V.na j.now.info.length V.nc),Is (C (J ⟨B,0,Z⟩)),Is (C (J ⟨B,0,Z⟩)),Is (C (J ⟨B,31,Z⟩)),Is (C (J ⟨B,33,Z⟩)),Is (M V.nb j.now.data.length V.nd),Is (C (J ⟨B,0,Z⟩)),Is (C (J ⟨B,0,Z⟩)),Is (C (J ⟨B,41,Z⟩)),Is (C (J ⟨B,42,Z⟩)),Is (M V.sa j.sealed.info.length V.sc),Is (C (J ⟨B,0,Z⟩)),Is (C (J ⟨B,0,Z⟩)),Is (C (J ⟨B,41,Z⟩)),Is (C (J ⟨B,43,Z⟩)),Is (M V.sb j.sealed.data.length V.sd),Is (C (J ⟨B,0,Z⟩)),Is (C (J ⟨B,0,Z⟩)),Is (C (J ⟨B,51,Z⟩)),Is (M V.ca j.done.length V.cc),λv w'=>∃a c,v=M a (newestL j.done).length c/\SegW w' a (newestL j.done),λv w'=>∃(g:Nat) (u:Option Addr) (c:Nat),v=M (J ⟨g,0,Z⟩) 5 5/\w'.heap[g]?=J (T #[M V.na j.now.info.length V.nc,M V.nb j.now.data.length V.nd,M V.sa j.sealed.info.length V.sc,M V.sb j.sealed.data.length V.sd,M u (newestL j.done).length c] 46 (0,0))/\SegW w' u (newestL j.done),Is (H G 5),Is (H G 0)]:=λw1 w2 hb=>Holds.is (.is (.is (.is (.is (.is (.is (.is (.is (.is (.is (.is (.is (.is (.is (.is (.is (.is (.is (.is (.is (.is (.is (.is (.cons (.cons (.is (.is .nil)) (λ_ ⟨g,a,c,e,h,k⟩=>⟨g,a,c,e,yA hb (Wb.1 h).1 h,k.below hb⟩)) (λ_ ⟨a,c,e,h⟩=>⟨a,c,e,h.below hb⟩)))))))))))))))))))))))));refine SG (W:=w) [Is (C (J ⟨B,0,Z⟩)),Is (C (J ⟨B,0,Z⟩)),Is (C (J ⟨B,31,Z⟩)),Is (C (J ⟨B,32,Z⟩)),Is (M V.na j.now.info.length V.nc),Is (C (J ⟨B,0,Z⟩)),Is (C (J ⟨B,0,Z⟩)),Is (C (J ⟨B,31,Z⟩)),Is (C (J ⟨B,33,Z⟩)),Is (M V.nb j.now.data.length V.nd),Is (C (J ⟨B,0,Z⟩)),Is (C (J ⟨B,0,Z⟩)),Is (C (J ⟨B,41,Z⟩)),Is (C (J ⟨B,42,Z⟩)),Is (M V.sa j.sealed.info.length V.sc),Is (C (J ⟨B,0,Z⟩)),Is (C (J ⟨B,0,Z⟩)),Is (C (J ⟨B,41,Z⟩)),Is (C (J ⟨B,43,Z⟩)),Is (M V.sb j.sealed.data.length V.sd),Is (C (J ⟨B,0,Z⟩)),Is (C (J ⟨B,0,Z⟩)),Is (C (J ⟨B,51,Z⟩)),Is (M V.ca j.done.length V.cc),λv w'=>∃a c,v=M a (newestL j.done).length c/\SegW w' a (newestL j.done),λv w'=>∃(g:Nat) (u:Option Addr) (c:Nat),v=M (J ⟨g,0,Z⟩) 5 5/\w'.heap[g]?=J (T #[M V.na j.now.info.length V.nc,M V.nb j.now.data.length V.nd,M V.sa j.sealed.info.length V.sc,M V.sb j.sealed.data.length V.sd,M u (newestL j.done).length c] 46 (0,0))/\SegW w' u (newestL j.done),Is (H G 5),Is (H G 0)] (by kernel_rfl) (by kernel_rfl) (by kernel_rfl) (Ub _ _).drew ⟨?_,?_,?_,?_,?_,?_,?_,?_,?_,?_,?_,?_,?_,?_,?_,?_,?_,?_,?_,?_,?_,?_,?_,?_,?_,?_,?_,?_,trivial⟩ ?_
 iterate 24
  refine OA E λa w' D I A7=>⟨_,?_,rfl⟩
  have z0:=(D.other 0 rfl).trans v0;have l:=Act.eval_const a;have Y:=Act.eval_func a;obtain⟨c0,_⟩:=kA ((p.o.below I).k);unfold rA at c0
  revert A7 z0 l Y
  generalize a.eval=ρ;intro A7 z0 l Y;simp[Region.binds,lf,Is]at A7;simp only[execOp]
  go_simp
 .refine OC E HL λa w' D I A7=>⟨115,#[M V.ca j.done.length V.cc],?_,(UO _ _ j.done _ ((p.o.below I).r.done.ext (Ext.seenL _ _)) hn).mono λ_ B0 ⟨v3,he,ho,hb3⟩=>?_⟩
  .simp[Region.binds,lf,Is]at A7;have Y:=Act.eval_func a
   revert A7 Y
   generalize a.eval=ρ;intro A7 Y;simp only[execOp]
   go_simp
  obtain⟨a3,c3,rfl,A2,_⟩:=SegC.of_owns ho;exact⟨_,he,⟨a3,c3,rfl,A2⟩,hb3⟩
 .refine zI E HL λa w' D I A7=>?_;have p0:a.eval (.tmp 14)=M V.na j.now.info.length V.nc:=A7 ⟨4,.data⟩ (by simp) rfl;have p1:a.eval (.tmp 19)=M V.nb j.now.data.length V.nd:=A7 ⟨9,.data⟩ (by simp) rfl;have p2:a.eval (.tmp 24)=M V.sa j.sealed.info.length V.sc:=A7 ⟨14,.data⟩ (by simp) rfl;have p3:a.eval (.tmp 29)=M V.sb j.sealed.data.length V.sd:=A7 ⟨19,.data⟩ (by simp) rfl;obtain⟨B1,R,p4,hS⟩:∃a' c,a.eval (.tmp 34)=M a' (newestL j.done).length c/\SegW w' a' (newestL j.done):=A7 ⟨24,.data⟩ (by simp) rfl;refine⟨_,w'.alloc (T #[M V.na j.now.info.length V.nc,M V.nb j.now.data.length V.nd,M V.sa j.sealed.info.length V.sc,M V.sb j.sealed.data.length V.sd,M B1 (newestL j.done).length R] 46),?_,⟨_,B1,R,rfl,Cc _ _,hS.below (qA _ _)⟩,qA _ _⟩;clear A7
  revert p0 p1 p2 p3 p4
  generalize a.eval=ρ;intro p0 p1 p2 p3 p4;simp only[execOp]
  go_simp
 .refine OA E λa w' D I A7=>?_;obtain⟨g,B1,R,p4,_⟩:∃(g:Nat) (u:Option Addr) (c:Nat),a.eval (.tmp 35)=M (J ⟨g,0,Z⟩) 5 5/\w'.heap[g]?=J (T #[M V.na j.now.info.length V.nc,M V.nb j.now.data.length V.nd,M V.sa j.sealed.info.length V.sc,M V.sb j.sealed.data.length V.sd,M u (newestL j.done).length c] 46 (0,0))/\SegW w' u (newestL j.done):=A7 ⟨25,.data⟩ (by simp) rfl;refine⟨_,?_,rfl⟩;clear A7
  revert p4
  generalize a.eval=ρ;intro p4;simp only[execOp]
  go_simp
 .refine OA E λa w' D I A7=>⟨_,?_,rfl⟩
  have l:=Act.eval_const a;clear A7
  revert l
  generalize a.eval=ρ;intro l;simp only[execOp]
  go_simp
 intro a B0 D I A7;obtain⟨Bx,B1,R,p35,d,y⟩:∃(g:Nat) (u:Option Addr) (c:Nat),a.eval (.tmp 35)=M (J ⟨g,0,Z⟩) 5 5/\B0.heap[g]?=J (T #[M V.na j.now.info.length V.nc,M V.nb j.now.data.length V.nd,M V.sa j.sealed.info.length V.sc,M V.sb j.sealed.data.length V.sd,M u (newestL j.done).length c] 46 (0,0))/\SegW B0 u (newestL j.done):=A7 25 (by decide);have p36:a.eval (.tmp 36)=H G 5:=A7 26 (by decide);have p37:a.eval (.tmp 37)=H G 0:=A7 27 (by decide);have f0:=(D.other 0 rfl).trans v0;have f1:=(D.other 1 rfl).trans v1;have f4:=(D.other 4 rfl).trans v4;have f5:=(D.other 5 rfl).trans v5;obtain⟨g,hg,rfl⟩:=nB a 59 (D.size.trans E) (D.defers.trans z);rw[hg]at p35 p36 p37 f0 f1 f4 f5;simp only[List.range,List.range.loop,List.map_cons,List.map_nil,p35,p36,p37,f0,f1,f4,f5];show KK _ _;apply A1;have m:=zA (p.o.below I);clear D I A7 p35 p36 p37 f0 f1 f4 f5 hg A1 v0 v1 v4 v5 HL E z p;have Q:=zA (jW j b V.na V.nb V.sa V.sb B1 V.nc V.nd V.sc V.sd R);obtain⟨F,O⟩:∃F,F=[(V.na,V.nc,j.now.info),(V.nb,V.nd,j.now.data),(V.sa,V.sc,j.sealed.info),(V.sb,V.sd,j.sealed.data),(B1,R,(newestL j.done))]:=⟨_,rfl⟩;rw[<-O]at Q
 have B5:Hid (∀k x,F[k]?=J x->B0.cell? ⟨Bx,k,Z⟩=J (M x.1 x.2.2.length x.2.1)/\SegW B0 x.1 x.2.2/\x.2.2.length<=maxLen):=by
  intro k x A8;rw[O]at A8;obtain⟨n1,n2,_,n4,n5,_⟩:=(m.o.r.now.ext (Ext.seenL _ _)).rows;obtain⟨s1,s2,_,s4,s5,_⟩:=(m.o.r.sealed.ext (Ext.seenL _ _)).rows;rw[(kA d).1]
  match k,A8 with
  |0,A8=>cases A8;exact⟨rfl,n1,n4⟩
  |1,A8=>cases A8;exact⟨rfl,n2,n5⟩
  |2,A8=>cases A8;exact⟨rfl,s1,s4⟩
  |3,A8=>cases A8;exact⟨rfl,s2,s5⟩
  |4,A8=>cases A8;exact⟨rfl,y,ac (PG j.done) (by unfold maxLen;decide)⟩
  |k+5,A8=>simp at A8
 have q:Hid (F.length=5):=by rw[Hid,O];rfl
 have A3:Bx<B0.heap.size:=(Wb.1 d).1;clear O d y;go_wp2
 go_loopw [37] (λi wr=>∃k:Nat,k<=5/\i=H G k/\Hid (uE b F=uE b (F.drop k))/\Hid (Below B0.heap.size B0 wr)) (λi _=>5 - (intOf i).toNat)
 case atStart=>exact⟨0,by omega,rfl,rfl,Ub _ _⟩
 case round=>
  obtain⟨k,hk,rfl,B4,L⟩:=hrel;by_cases hk5:k<5
  .have A5:(k:Int)<5:=by omega
   obtain⟨x,A8⟩:∃x,F[k]?=J x:=⟨_,Ic (by have:=q.o;omega)⟩;obtain⟨r1,r2,r3⟩:=B5.o k x A8;have c:=xA L.o A3 r1;have HS:=zA (r2.below L.o);have HM:=zA r3;have B3:=zA (UR (b:=b) A8);obtain⟨xa,xc,xl⟩:=x;dsimp only at c HS HM B3;clear r1 r2 r3 A8;go_wp2_with fail;refine(xI xa xc xl b _ HS.o HM.o).mono ?_;rintro _ wq ⟨rfl,B2⟩;have n:=zA (vA L.o B2);clear B2 c HS L
   cases ht:uA b xl with
   |some s=>
    have HT:Hid (textJ j b=(s,0)):=by
     have U:=B3.o;rw[ht]at U;rw[Hid,Q.o,B4.o,U]
    rw[Gf,Option.isSome_some];clear ht B3;go_wp2;exact Tb (results_tmp2 rfl _ _ _) rfl ⟨by rw[HT.o];rfl,(m.o.below n.o).at,(m.o.below n.o).b⟩
   |none=>
    have A4:Hid (uE b F=uE b (F.drop (k+1))):=by
     have U:=B3.o;rw[ht]at U;rw[Hid,B4.o,U]
    rw[Option.isSome_none];clear ht B3;go_wp2
    go_roundw
    case rel=>exact⟨k+1,by omega,by go_num,A4,n⟩
    case measure=>first|(simp[intOf];omega)|simp[intOf]
  .have e:k=5:=by omega
   subst e
   have HT:Hid (textJ j b=(jA j.disk (25+b),readE j.disk (25+b))):=by
    rw[Hid,Q.o,B4.o,Gd (by have:=q.o;omega)];rfl
   have S4:=zA (m.o.below L.o);obtain⟨x,xf⟩:=kA S4.o.k;unfold rA at x;have A6:IntKind.i64.wrap (25+b)=25+b:=by rw[Bc];omega
   clear B4 Q B5;go_wp2_with fail;refine(vK _ j.disk (25+b) _ (S4.o.r.disk.ext (Ext.seenL _ _))).mono ?_;rintro _ wq ⟨rfl,B2⟩;have S5:=zA (S4.o.below B2);clear B2 x xf;go_wp2;exact Tb (results_tmp2 rfl _ _ _) rfl ⟨by rw[HT.o];rfl,S5.o.at,S5.o.b⟩
theorem wZ(B:Nat)(X:List Nat)(j:Jn)(w:K)(b:Int)(h:JAt w B X j)(s:j.done.length<=maxLen):
  Calls prog 65 #[C (J ⟨B,0,Z⟩),H G b] w (IB w B X (j,readJ j b)):=by
 have F:=h.1;have A1:=h.lt;have A3:B≠w.heap.size:=by omega
 obtain⟨V,D⟩:=h.js1 (T #[H G 0,H G 0,A ⟨#[]⟩] 31);have D:=zA D;clear h;go_enter func65,ntmps65;by_cases h0:b<0
 .have E:Hid ((j,readJ j b)=(j,eA 4)):=by rw[Hid,readJ,Rb (.inl h0)]
  go_wp2_with fail;refine(D.o.code 4).mono ?_;rintro _ L ⟨rfl,Q⟩;have Q:=zA Q;obtain⟨y,p⟩:=kA Q.o.b0.2.1;have r:=Q.o.b0.1;go_wp2;exact Q.o.told E.o F Q.o.b0 (Sb _) λW c=>by simp[results,results65,go_sem,c]
 by_cases h12:11<b
 .have E:Hid ((j,readJ j b)=(j,eA 4)):=by rw[Hid,readJ,Rb (.inr h12)]
  have A0:b>=12:=by omega
  go_wp2_with fail;refine(D.o.code 4).mono ?_;rintro _ L ⟨rfl,Q⟩;have Q:=zA Q;obtain⟨y,p⟩:=kA Q.o.b0.2.1;have r:=Q.o.b0.1;go_wp2;exact Q.o.told E.o F Q.o.b0 (Sb _) λW c=>by simp[results,results65,go_sem,c]
 have I:Hid (readJ j b=if(textJ j b).2=0 then⟨0,j.role b.toNat,(textJ j b).1⟩ else eA (textJ j b).2):=by rw[Hid,readJ,Qb (by omega)]
 have A4:¬(b>=12):=by omega
 have u:0<=b:=by omega
 have A2:b<12:=by omega
 go_wp2_with fail;refine(yZ B (w.heap.size::X) j _ b D.o.at s u (by omega)).mono ?_;rintro _ w2 ⟨rfl,N,M⟩;obtain⟨V2,i⟩:=D.o.of N M;have i:=zA i;clear N M D;by_cases he:(textJ j b).2=0
 rotate_left
 .have E:Hid ((j,readJ j b)=(j,eA (textJ j b).2)):=by rw[Hid,I.o,Qb he]
  have A5:((textJ j b).2==0)=O:=Ec.2 he;clear he I;generalize (textJ j b).2=ec at *;go_wp2_with fail;refine(i.o.code ec).mono ?_;rintro _ L ⟨rfl,Q⟩;have Q:=zA Q;obtain⟨y,p⟩:=kA Q.o.b0.2.1;have r:=Q.o.b0.1;go_wp2;exact Q.o.told E.o F Q.o.b0 (Sb _) λW c=>by simp[results,results65,go_sem,c]
 have E:Hid ((j,readJ j b)=(j,⟨0,j.role b.toNat,(textJ j b).1⟩)):=by rw[Hid,I.o,Rb he]
 rw[he];clear he I;generalize (textJ j b).1=TT at *;obtain⟨k,rfl⟩:∃k:Nat,b=(k:Int):=⟨b.toNat,by omega⟩;obtain⟨e1,_⟩:=i.o.roleAt (b:=k) (by omega);rw[pd]at E;obtain⟨y,p⟩:=kA i.o.b0.2.1;have r:=i.o.b0.1;go_wp2;exact i.o.told E.o F i.o.b0 (Sb _) λW c=>by simp[results,results65,go_sem,c]
theorem TD{e:TypeId}{size:Nat}{Q:List E}(h:w.ownsRow base e size v n Q)(s:∀x∈X,x<base):(aA w X).ownsRow base e size v n Q:=by
 refine⟨h.1,?_⟩;rcases h.2 with h0|⟨g,cap,D,i,hg,p,r⟩
 .exact .inl h0
 .exact .inr ⟨g,cap,D,i,hg,(VQ (jF s hg)).trans p,r⟩
theorem ScPost.foundH{e:Ending}(h:ScPost w w' d e)(p:∀x∈X,x<w.heap.size):∃i r,e=N (S #[.agg #[M i (fndL d).length r,H G (fndN d),H G (fndP d)],H G (MA d)])/\SegTx (aA w' X) i (fndL d)/\Below w.heap.size w w':=by
 obtain⟨v,rfl,hb,O,K⟩:=h;by_cases hE:MA d=0
 .obtain⟨q,i,r,rfl,F,Q,C⟩:=K hE;have D:=TD Q p
  have E:∀x∈q,OwnR (aA w' X) w.heap.size x:=λx s=>by
   obtain⟨L,u,J⟩:=C x s;exact⟨TD L p,TD u p,TD J p⟩
  obtain⟨a,c,I,y,_⟩:=SegTx.of_owns D E;simp only[Value.slice.injEq]at I;obtain⟨rfl,_,rfl⟩:=I;have B:fndL d=q.map (·.t):=by rw[fndL,Rb hE,F]
  have A:q.length=(GA d).1.length:=by rw[<-F,xd]
  refine⟨i,r,?_,by rw[B];exact y,hb⟩;rw[B,fndN,fndP,Rb hE,Rb hE,xd,A]
 .rw[O hE];refine⟨Z,0,?_,.inl (by rw[fndL,Qb hE]),hb⟩;rw[fndL,fndN,fndP,Qb hE,Qb hE,Qb hE];rfl
theorem hback(B:Nat)(X:List Nat)(j:Jn)(w:K)(h:JAt w B X j)(hX:∀x∈X,x<w.heap.size)(hE:j.steps=[]->j.down=I->MA j.disk=0/\pB (newestL (fndL j.disk)) (fndP j.disk) (fndN j.disk)=0/\∀t∈(fndL j.disk),Few t):
  Calls prog 23 #[C (J ⟨B,0,Z⟩)] w (IB w B X (comeBackJ j)):=by
 have d:=h.1;have A6:=h.lt;have A5:B≠w.heap.size:=by omega
 obtain⟨V,s⟩:=h.js;obtain⟨x,m⟩:=kA s.k;unfold rA at x;have L:=zA (s.one (T #[H G 0,H G 0,A ⟨#[]⟩] 31) rfl);have u:=zA (pC (W:=w.alloc (T #[H G 0,H G 0,A ⟨#[]⟩] 31)) (b:=w.heap.size) hX (by simp) (by simp));have q:=zA hE;clear h hX s hE;go_enter func23,ntmps23
 cases hd:j.down with
 |false=>
  have E:Hid (comeBackJ j=(j,eA 9)):=Rb (.inl hd);rw[hd]at x;clear hd q;go_wp2_with fail;refine(L.o.code 9).mono ?_;rintro _ w9 ⟨rfl,A7⟩;have A7:=zA A7;obtain⟨y,yf⟩:=kA A7.o.b0.2.1;have p:=A7.o.b0.1;go_wp2;exact A7.o.told E.o d A7.o.b0 (Sb _) λW c=>by simp[results,results23,go_sem,c]
 |true=>
  rw[hd]at x;go_wp2_with fail;refine(show∀W,W=_->Calls _ _ _ W _ from λW1 hW=>?_) _ rfl;rw[<-hW]at L u;clear hW;clear x m;refine(gH B (w.heap.size::X) j _ L.o.at).mono ?_;rintro _ _ ⟨rfl,rfl⟩;by_cases hs:j.steps=[]
  rotate_left
  .have E:Hid (comeBackJ j=(j,eA 9)):=Rb (.inr hs);rw[show decide (0<j.steps.length)=I by simpa[List.length_pos_iff] using hs];clear hs q hd;go_wp2_with fail;refine(L.o.code 9).mono ?_;rintro _ w9 ⟨rfl,A7⟩;have A7:=zA A7;obtain⟨y,yf⟩:=kA A7.o.b0.2.1;have p:=A7.o.b0.1;go_wp2;exact A7.o.told E.o d A7.o.b0 (Sb _) λW c=>by simp[results,results23,go_sem,c]
  rw[show decide (0<j.steps.length)=O by rw[hs];rfl];obtain⟨e1,e2,e3⟩:=q.o hs hd;have E:Hid (comeBackJ j=({j with work:=11,steps:=(checkS (newestL (fndL j.disk)) (fndP j.disk) (fndN j.disk)),fL:=(fndL j.disk),fN:=(fndN j.disk),fP:=(fndP j.disk)},eA 0)):=by rw[Hid,comeBackJ,Qb (by simp[hs,hd]),Rb e1,Rb e2]
  have H2:=zA e2;have H3:=zA e3;obtain⟨x,m⟩:=kA L.o.k;unfold rA at x;clear hs hd q e2 e3;go_wp2_with fail;refine(LV _ _ _ _ j.disk _ (L.o.r.disk.ext (Ext.seenL _ _))).mono ?_;intro e B1 hP;obtain⟨Q,R,rfl,A2,i⟩:=hP.foundH u.o;rw[e1];have B3:=zA (((L.o.below i).gives (G':=λw=>SegTx w Q (fndL j.disk)) A2 λ_ _ e h=>h.ext e).add (T #[M Q (fndL j.disk).length R,H G (fndN j.disk),H G (fndP j.disk)] 57));have S:Hid (∀y∈(w.heap.size::X),y<(B1.alloc (T #[M Q (fndL j.disk).length R,H G (fndN j.disk),H G (fndP j.disk)] 57)).heap.size):=λy p=>by have:=u.o y p;have:=i.size;simp;omega
  clear A2 i hP x m L u e1;go_wp2;rename_i KK A1;refine(show∀W,W=_->Code.wp prog _ _ _ W from λW5 hW=>?_) _ rfl;rw[<-hW]at B3 S;clear hW;refine(show∀A0:Act,A0=_->Code.wp prog _ _ A0 _ from λA0 A9=>?_) _ rfl;have B4:A0.tmps.size=44:=by rw[A9];rfl
  have A4:A0.defers=[]:=by rw[A9]
  have l:A0.eval (.tmp 0)=C (J ⟨B,0,Z⟩):=by rw[A9];rfl
  have v2:A0.eval (.tmp 2)=C (J ⟨w.heap.size,0,Z⟩):=by rw[A9];rfl
  have Y:A0.eval (.tmp 3)=C (J ⟨B1.heap.size,0,Z⟩):=by rw[A9];rfl
  clear A9;have HL:ZC [Is (C (J ⟨B,0,Z⟩)),Is (C (J ⟨B1.heap.size,0,Z⟩)),Is (M Q (fndL j.disk).length R),λv w'=>∃a c,v=M a (newestL (fndL j.disk)).length c/\SegW w' a (newestL (fndL j.disk)),Is (C (J ⟨B1.heap.size,2,Z⟩)),Is (H G (fndP j.disk)),Is (C (J ⟨B1.heap.size,1,Z⟩)),Is (H G (fndN j.disk))]:=λB1 w2 hb=>Holds.is (.is (.is (.cons (.is (.is (.is (.is .nil)))) (λ_ ⟨a,c,e,h⟩=>⟨a,c,e,h.below hb⟩))));refine QI (W:=W5) 8 [Is (C (J ⟨B,0,Z⟩)),Is (C (J ⟨B1.heap.size,0,Z⟩)),Is (M Q (fndL j.disk).length R),λv w'=>∃a c,v=M a (newestL (fndL j.disk)).length c/\SegW w' a (newestL (fndL j.disk)),Is (C (J ⟨B1.heap.size,2,Z⟩)),Is (H G (fndP j.disk)),Is (C (J ⟨B1.heap.size,1,Z⟩)),Is (H G (fndN j.disk))] (by kernel_rfl) (by kernel_rfl) (by kernel_rfl) (by kernel_rfl) (by kernel_rfl) (Ub _ _).drew ⟨?_,?_,?_,?_,?_,?_,?_,?_,trivial⟩ ?_
  iterate 3
   refine OA B4 λa w' D B0 A8=>⟨_,?_,rfl⟩
   have U:=(D.other 0 rfl).trans l;have B5:=(D.other 3 rfl).trans Y;have N:=Act.eval_const a;have F:=Act.eval_func a;obtain⟨c0,_⟩:=kA ((B3.o.below B0).k);unfold rA at c0;obtain⟨c1,_⟩:=kA ((B3.o.below B0).b0.2.1)
   revert A8 U B5 N F
   generalize a.eval=ρ;intro A8 U B5 N F;simp[Region.binds,lf,Is]at A8;simp only[execOp]
   go_simp
  .refine OC B4 HL λa w' D B0 A8=>⟨55,#[M Q (fndL j.disk).length R],?_,(mS _ _ (fndL j.disk) _ ((B3.o.below B0).g.ext (Ext.seenL _ _)) (by have:=OH j.disk;omega) H3.o).mono λ_ w3 ⟨Y,he,ho,hb3⟩=>?_⟩
   .simp[Region.binds,lf,Is]at A8;have F:=Act.eval_func a
    revert A8 F
    generalize a.eval=ρ;intro A8 F;simp only[execOp]
    go_simp
   obtain⟨n,c3,rfl,A3,_⟩:=SegC.of_owns ho;exact⟨_,he,⟨n,c3,rfl,A3⟩,hb3⟩
  iterate 4
   refine OA B4 λa w' D B0 A8=>⟨_,?_,rfl⟩
   have U:=(D.other 0 rfl).trans l;have B5:=(D.other 3 rfl).trans Y;have N:=Act.eval_const a;have F:=Act.eval_func a;obtain⟨c0,_⟩:=kA ((B3.o.below B0).k);unfold rA at c0;obtain⟨c1,_⟩:=kA ((B3.o.below B0).b0.2.1)
   revert A8 U B5 N F
   generalize a.eval=ρ;intro A8 U B5 N F;simp[Region.binds,lf,Is]at A8;simp only[execOp]
   go_simp
  intro a w2 D B0 A8;obtain⟨n,c3,h5,hS⟩:∃a' c,a.eval (.tmp 30)=M a' (newestL (fndL j.disk)).length c/\SegW w2 a' (newestL (fndL j.disk)):=A8 3 (by decide);have h0:a.eval (.tmp 27)=C (J ⟨B,0,Z⟩):=A8 0 (by decide);have h1:a.eval (.tmp 32)=H G (fndP j.disk):=A8 5 (by decide);have h2:a.eval (.tmp 34)=H G (fndN j.disk):=A8 7 (by decide);have S4:=B3.o.below B0;refine cH B4 D 54 #[C (J ⟨B,0,Z⟩),H G 11,M n (newestL (fndL j.disk)).length c3,H G (fndP j.disk),H G (fndN j.disk)] ?_ ((XP B (w.heap.size::X) j w2 S4.at (λx hx=>Xb (S.o x hx) B0.size) 11 n c3 (newestL (fndL j.disk)) hS (by have:=PG (fndL j.disk);omega) _ _ H2.o).mono ?_)
  .have N:=Act.eval_const a;clear A8;have F:=Act.eval_func a
   revert h0 h1 h2 h5 N F
   generalize a.eval=ρ;intro h0 h1 h2 h5 N F;simp only[execOp]
   go_simp
  rintro _ w5 ⟨rfl,hA,hB⟩;obtain⟨V5,B2⟩:=S4.of hA hB;have B2:=zA B2;refine⟨_,rfl,λa4 B6 p4 _=>WV B4 B6 (v:=H G 0) ?_ λa D p5 _=>?_⟩
  .have F:=Act.eval_func a4
   revert p4 F
   generalize a4.eval=ρ;intro p4 F;simp only[execOp]
   go_simp
  have f0:=(D.other 0 rfl).trans l;have f2:=(D.other 2 rfl).trans v2;have f3:=(D.other 3 rfl).trans Y;obtain⟨g,hg,rfl⟩:=nB a 44 (D.size.trans B4) (D.defers.trans A4);rw[hg]at p5 f0 f2 f3;simp only[List.range,List.range.loop,List.map_cons,List.map_nil,p5,f0,f2,f3];show KK _ _;apply A1;clear B6 p4 D p5 f0 f2 f3 hg A1 h0 h1 h2 h5 hS hA hB A8 B3 S4 S l v2 Y HL B0;obtain⟨x,m⟩:=kA B2.o.k;unfold rA at x;obtain⟨z,zf⟩:=kA B2.o.b0.2.1;have n1:=B2.o.b0.1;have n2:=B2.o.lt;go_wp2_with fail;have S6:=zA (B2.o.found (c:=R) (fndN j.disk) (fndP j.disk) B2.o.g);refine(S6.o.code 0).mono ?_;rintro _ w9 ⟨rfl,A7⟩;have A7:=zA A7;obtain⟨y,yf⟩:=kA A7.o.tl.b0.2.1;have p:=A7.o.tl.b0.1;go_wp2;exact A7.o.told E.o d A7.o.tl.b0 (Sb _) λW c=>by simp[results,results23,go_sem,c]
theorem SegZ.ext{l:List RZ}(h:SegZ w a l)(e:Ext w w'):SegZ w' a l:=by
 rcases h with h|⟨b,Q,rfl,D,p⟩
 .exact .inl h
 .exact .inr ⟨b,Q,rfl,Xb D e.size,λj u i=>e.cell _ _ _ (p j u i)⟩
theorem uW(B:Nat)(X:List Nat)(j:Jn)(w:K)(h:JAt w B X j)(hX:∀x∈X,x<w.heap.size)(hn:j.done.length<=900):
  Calls prog 94 #[C (J ⟨B,0,Z⟩)] w (IB w B X (WH j)):=by
 have A9:=h.1;have B0:=h.lt;have B2:B≠w.heap.size:=by omega
 have B1:B≠w.heap.size+1:=by omega
 obtain⟨V,s⟩:=h.js;obtain⟨x,m⟩:=kA s.k;unfold rA at x;have B6:=(s.gives (G':=λw=>IsTx w (.agg (txc j.sealed V.sa V.sc V.sb V.sd V.se V.sf)) j.sealed) s.r.sealed λ_ _ e h=>h.ext e).sealed0.oneT (T #[H G 0,H G 0,A ⟨#[]⟩] 31) (T (txc j.sealed V.sa V.sc V.sb V.sd V.se V.sf) 52) (KH _ _ _);dsimp only[yB,txc]at B6;have B6:=zA B6;have HX:=zA hX;clear h hX s;go_enter func94,ntmps94;go_wp2;rename_i KK A3;refine(show∀W,W=_->Code.wp prog _ _ _ W from λW5 hW=>?_) _ rfl;rw[<-hW]at B6;clear hW;clear x m
 have A2:Hid (∀y∈(w.heap.size::X),y<W5.heap.size):=λy M=>by
  have:=B6.o.tl.b0.2.2;rcases Xc.1 M with rfl|M
  .exact this
  .have:=HX.o y M;omega
 obtain⟨q,l,A6,A1⟩:=B6.o.r.done.rz;have n:=zA (And.intro l (And.intro A6 A1));have O:Hid (q.length=j.done.length):=by rw[Hid,<-xd (·.t),l]
 clear l A6 A1
 have A4:Hid (∀{B4:K} {B3 E:Nat},Below W5.heap.size W5 B4->B4.heap[E]?=J (T #[.slice V.ca j.done.length V.cc,.slice (J ⟨B3,0,Z⟩) 1 1] 53 (0,0))->B4.heap[B3]?=J (T (txc j.sealed V.sa V.sc V.sb V.sd V.se V.sf) 52 (0,0))->xO B4 E [(V.ca,V.cc,q),(J ⟨B3,0,Z⟩,1,[(⟨V.sa,V.sc,V.sb,V.sd,V.se,V.sf,j.sealed⟩:RZ)])]):=by
  intro B4 B3 E hb h2 h3;refine⟨(Wb.1 h2).1,λi x hx=>?_⟩
  match i,hx with
  |0,hx=>
   cases hx;refine⟨?_,(n.o.2.1.ext (Ext.seenL _ _)).below hb⟩;rw[O.o];exact((kA h2).1 0).trans rfl
  |1,hx=>
   cases hx;refine⟨((kA h2).1 1).trans rfl,.inr ⟨B3,0,rfl,(Wb.1 h3).1,λk u hu=>?_⟩⟩;rw[Dc,(kA h3).1,<-hu];simp[cellsZ,RZ.cells,txc]
  |i+2,hx=>simp at hx
 refine(show∀A0:Act,A0=_->Code.wp prog _ _ A0 _ from λA0 B5=>?_) _ rfl;have B7:A0.tmps.size=31:=by rw[B5];rfl
 have A7:A0.defers=[]:=by rw[B5]
 have v0:A0.eval (.tmp 0)=C (J ⟨B,0,Z⟩):=by rw[B5];rfl
 have v2:A0.eval (.tmp 2)=C (J ⟨w.heap.size,0,Z⟩):=by rw[B5];rfl
 have v3:A0.eval (.tmp 3)=C (J ⟨w.heap.size+1,0,Z⟩):=by rw[B5];rfl
 clear B5;have HL:ZC [Is (C (J ⟨B,0,Z⟩)),Is (C (J ⟨B,0,Z⟩)),Is (C (J ⟨B,0,Z⟩)),Is (C (J ⟨B,51,Z⟩)),Is (.slice V.ca j.done.length V.cc),Is (.agg (txc j.sealed V.sa V.sc V.sb V.sd V.se V.sf)),λv B4=>∃B3:Nat,v=.slice (J ⟨B3,0,Z⟩) 1 1/\B4.heap[B3]?=J (T (txc j.sealed V.sa V.sc V.sb V.sd V.se V.sf) 52 (0,0)),λv B4=>∃B3 E:Nat,v=.slice (J ⟨E,0,Z⟩) 2 2/\B4.heap[E]?=J (T #[.slice V.ca j.done.length V.cc,.slice (J ⟨B3,0,Z⟩) 1 1] 53 (0,0))/\B4.heap[B3]?=J (T (txc j.sealed V.sa V.sc V.sb V.sd V.se V.sf) 52 (0,0)),λv B4=>B4.ownsRow W5.heap.size 52 10 v (q.length+1) (cellsZ (q++[(⟨V.sa,V.sc,V.sb,V.sd,V.se,V.sf,j.sealed⟩:RZ)])),Is (C (J ⟨B,0,Z⟩)),Is (C (J ⟨B,51,Z⟩))]:=λw1 w2 hb=>Holds.is (.is (.is (.is (.is (.is (.cons (.cons (.cons (.is (.is .nil)) (λ_ h=>dA h hb)) (λ_ ⟨B3,E,e,k,h⟩=>⟨B3,E,e,yA hb (Wb.1 k).1 k,yA hb (Wb.1 h).1 h⟩)) (λ_ ⟨B3,e,h⟩=>⟨B3,e,yA hb (Wb.1 h).1 h⟩)))))));refine tG (W:=W5) 11 [Is (C (J ⟨B,0,Z⟩)),Is (C (J ⟨B,0,Z⟩)),Is (C (J ⟨B,0,Z⟩)),Is (C (J ⟨B,51,Z⟩)),Is (.slice V.ca j.done.length V.cc),Is (.agg (txc j.sealed V.sa V.sc V.sb V.sd V.se V.sf)),λv B4=>∃B3:Nat,v=.slice (J ⟨B3,0,Z⟩) 1 1/\B4.heap[B3]?=J (T (txc j.sealed V.sa V.sc V.sb V.sd V.se V.sf) 52 (0,0)),λv B4=>∃B3 E:Nat,v=.slice (J ⟨E,0,Z⟩) 2 2/\B4.heap[E]?=J (T #[.slice V.ca j.done.length V.cc,.slice (J ⟨B3,0,Z⟩) 1 1] 53 (0,0))/\B4.heap[B3]?=J (T (txc j.sealed V.sa V.sc V.sb V.sd V.se V.sf) 52 (0,0)),λv B4=>B4.ownsRow W5.heap.size 52 10 v (q.length+1) (cellsZ (q++[(⟨V.sa,V.sc,V.sb,V.sd,V.se,V.sf,j.sealed⟩:RZ)])),Is (C (J ⟨B,0,Z⟩)),Is (C (J ⟨B,51,Z⟩))] (by kernel_rfl) (by kernel_rfl) (by kernel_rfl) (by kernel_rfl) (Ub _ _).drew ⟨?_,?_,?_,?_,?_,?_,?_,?_,?_,?_,?_,trivial⟩ ?_
 iterate 6
  refine OA B7 λa B4 F I D=>⟨_,?_,rfl⟩
  have d:=(F.other 0 rfl).trans v0;have b:=(F.other 3 rfl).trans v3;have B8:=Act.eval_const a;have L:=Act.eval_func a;obtain⟨c0,_⟩:=kA ((B6.o.below I).k);unfold rA at c0;obtain⟨c1,_⟩:=kA ((B6.o.below I).b0.2.1)
  revert D d b B8 L
  generalize a.eval=ρ;intro D d b B8 L;simp[Region.binds,lf,Is]at D;simp only[execOp,txc]
  go_simp
 .refine zI B7 HL λa B4 F I D=>⟨_,_,?_,⟨_,rfl,Cc _ _⟩,qA _ _⟩
  simp[Region.binds,lf,Is]at D
  revert D
  generalize a.eval=ρ;intro D;unfold txc at D|-;simp only[execOp]
  go_simp
 .refine zI B7 HL λa B4 F I D=>?_;have Y:a.eval (.tmp 16)=.slice V.ca j.done.length V.cc:=D ⟨4,.data⟩ (by simp) rfl;obtain⟨B3,p2,R⟩:∃B3:Nat,a.eval (.tmp 18)=.slice (J ⟨B3,0,Z⟩) 1 1/\B4.heap[B3]?=J (T (txc j.sealed V.sa V.sc V.sb V.sd V.se V.sf) 52 (0,0)):=D ⟨6,.data⟩ (by simp) rfl;refine⟨_,_,?_,⟨B3,_,rfl,Cc _ (T #[.slice V.ca j.done.length V.cc,.slice (J ⟨B3,0,Z⟩) 1 1] 53),yA (qA _ _) (Wb.1 R).1 R⟩,qA _ _⟩
  revert Y p2
  clear D;generalize a.eval=ρ;intro Y p2;simp only[execOp]
  go_simp
 .refine OC B7 HL λa B4 F I D=>?_;obtain⟨B3,E,Y,A8,R⟩:∃B3 E:Nat,a.eval (.tmp 19)=.slice (J ⟨E,0,Z⟩) 2 2/\B4.heap[E]?=J (T #[.slice V.ca j.done.length V.cc,.slice (J ⟨B3,0,Z⟩) 1 1] 53 (0,0))/\B4.heap[B3]?=J (T (txc j.sealed V.sa V.sc V.sb V.sd V.se V.sf) 52 (0,0)):=D ⟨7,.data⟩ (by simp) rfl;refine⟨141,#[.slice (J ⟨E,0,Z⟩) 2 2],?_,(La E 2 2 [(V.ca,V.cc,q),(J ⟨B3,0,Z⟩,1,[(⟨V.sa,V.sc,V.sb,V.sd,V.se,V.sf,j.sealed⟩:RZ)])] B4 rfl (by decide) (A4.o I A8 R) (by have:=O.o;simp[flatZ];omega)).mono λ_ w2 ⟨v',he,hO,hb⟩=>?_⟩
  .clear D;have L:=Act.eval_func a
   revert Y L
   generalize a.eval=ρ;intro Y L;simp only[execOp]
   go_simp
  have A5:=qB hO I.size;simp only[flatZ,List.map_cons,List.map_nil,List.flatten_cons,List.flatten_nil,List.append_nil,List.length_append,List.length_cons,List.length_nil,Nat.zero_add]at A5;exact⟨_,he,A5,hb⟩
 iterate 2
  refine OA B7 λa B4 F I D=>⟨_,?_,rfl⟩
  have d:=(F.other 0 rfl).trans v0;have b:=(F.other 3 rfl).trans v3;have B8:=Act.eval_const a;have L:=Act.eval_func a;obtain⟨c0,_⟩:=kA ((B6.o.below I).k);unfold rA at c0;obtain⟨c1,_⟩:=kA ((B6.o.below I).b0.2.1)
  revert D d b B8 L
  generalize a.eval=ρ;intro D d b B8 L;simp[Region.binds,lf,Is]at D;simp only[execOp]
  go_simp
 intro a w6 F I D;have S:w6.ownsRow W5.heap.size 52 10 (a.eval (.tmp 20)) (q.length+1) (cellsZ (q++[(⟨V.sa,V.sc,V.sb,V.sd,V.se,V.sf,j.sealed⟩:RZ)])):=D 8 (by decide);have U:a.eval (.tmp 22)=C (J ⟨B,51,Z⟩):=D 10 (by decide);have p:=B6.o.below I
 obtain⟨ya,yc,M,Q,_⟩:=SegTx.of_rz (TD (X:=(w.heap.size::X)) S A2.o) (λx hx=>by
  rcases Mc.1 hx with h|h
  .exact(n.o.2.2 x h).ext (Ext.freshL I)
  .rw[Rc.1 h];exact p.g)
 rw[Ed,n.o.1]at Q
 change SegTx _ ya (j.done++[j.sealed]) at Q
 rw[show(q++[(⟨V.sa,V.sc,V.sb,V.sd,V.se,V.sf,j.sealed⟩:RZ)]).length=(j.done++[j.sealed]).length by simp[O.o]]at M;obtain⟨x,m⟩:=kA p.k;unfold rA at x;refine⟨w6.setCell ⟨B,51,Z⟩ (.slice ya (j.done++[j.sealed]).length yc),?_,?_⟩
 .clear D S;generalize (j.done++[j.sealed]).length=nn at *
  revert M U
  generalize a.eval=ρ;intro M U;simp only[execOp]
  go_simp
 have f0:=(F.other 0 rfl).trans v0;have f2:=(F.other 2 rfl).trans v2;have f3:=(F.other 3 rfl).trans v3;obtain⟨g,hg,rfl⟩:=nB a 31 (F.size.trans B7) (F.defers.trans A7);rw[hg]at f0 f2 f3;simp only[List.range,List.range.loop,List.map_cons,List.map_nil,f0,f2,f3];show KK _ _;apply A3;have s:=p.done (c:=yc) Q;dsimp only[yB]at s;have N:=zA s;clear s F I D S U Q M B6 p A2 n O A4 HL x m f0 f2 f3 hg A3;refine(show∀W,W=_->Code.wp prog _ _ _ W from λW7 hW=>?_) _ rfl;rw[<-hW]at N;clear hW;obtain⟨x,m⟩:=kA N.o.k;unfold rA at x;obtain⟨z,zf⟩:=kA N.o.b0.2.1;obtain⟨y,yf⟩:=kA N.o.tl.b0.2.1;have n1:=N.o.b0.1;have n2:=N.o.tl.b0.1;have n3:=N.o.lt;go_wp2;have s:=N.o.last j.sealed.seq;exact s.told rfl A9 s.tl.b0 (Sb _) λW c=>by simp[results,results94,go_sem,c]
theorem nY(B:Nat)(X:List Nat)(j:Jn)(w:K)(h:JAt w B X j)(hX:∀x∈X,x<w.heap.size)(q:Int)(hq:q<=9223372036854775807):
  Calls prog 22 #[C (J ⟨B,0,Z⟩),H G q] w (IB w B X (crashJ j q)):=by
 have B3:=h.1;have A2:=h.lt;have A4:B≠w.heap.size:=by omega
 obtain⟨V,s⟩:=h.js;obtain⟨x,xf⟩:=kA s.k;unfold rA at x;have S:=zA (s.one (T #[H G 0,H G 0,A ⟨#[]⟩] 31) rfl);have u:=zA (pC (W:=w.alloc (T #[H G 0,H G 0,A ⟨#[]⟩] 31)) (b:=w.heap.size) hX (by simp) (by simp));clear h hX s;go_enter func22,ntmps22;go_wp2_with fail;refine(show∀W,W=_->Calls _ _ _ W _ from λW1 hW=>?_) _ rfl;rw[<-hW]at S u;clear hW;clear x xf;refine(oP S.o.r.disk u.o (Ub _ _) ((xZ _ j.disk q _ (S.o.r.disk.ext (Ext.seenL _ _)) hq).mono λ_ _ ⟨v,h1,h2,_,h3,h4⟩=>⟨v,h1,h2,h3,h4⟩)).mono ?_;rintro _ w1 ⟨v1,rfl,hb,hv⟩;have d:=hv (w.heap.size::X) λy l=>.inl l;obtain⟨L,B0,N,A9,rfl,_⟩:=id d;have F:=zA (((S.o.below hb).gives (G':=λw=>IsDk w (.agg #[M L (crashK j.disk q).safe.length B0,M N (crashK j.disk q).wr.length A9]) (crashK j.disk q)) d λ_ _ e h=>h.ext e).add (T #[M L (crashK j.disk q).safe.length B0,M N (crashK j.disk q).wr.length A9] 45));clear d hv hb S u;by_cases he:(crashE j.disk q)=0
 rotate_left
 .have E:Hid (crashJ j q=(j,eA (crashE j.disk q))):=Qb he;have A3:((crashE j.disk q)==0)=O:=Ec.2 he;clear he;generalize (crashE j.disk q)=ec at *;go_wp2_with fail;refine(F.o.code ec).mono ?_;rintro _ w9 ⟨rfl,A6⟩;have A6:=zA A6;obtain⟨y,yf⟩:=kA A6.o.tl.b0.2.1;have l:=A6.o.tl.b0.1;go_wp2;exact A6.o.told E.o B3 A6.o.tl.b0 (Sb _) λW c=>by simp[results,results22,go_sem,c]
 have E:Hid (crashJ j q=((⟨j.acts,(crashK j.disk q),0,0,j.last,I,λ_=>0,λ_=>0,gA 0,gA 0,[],[],0,0,0,[]⟩:Jn),eA 0)):=Rb he;rw[he];clear he;go_wp2;rename_i KK Y;refine(show∀W,W=_->Code.wp prog _ _ _ W from λW5 hW=>?_) _ rfl;rw[<-hW]at F;clear hW;refine(show∀A0:Act,A0=_->Code.wp prog _ _ A0 _ from λA0 A7=>?_) _ rfl;have B2:A0.tmps.size=33:=by rw[A7];rfl
 have A1:A0.defers=[]:=by rw[A7]
 have U:A0.eval (.tmp 0)=C (J ⟨B,0,Z⟩):=by rw[A7];rfl
 have v4:A0.eval (.tmp 4)=C (J ⟨w.heap.size,0,Z⟩):=by rw[A7];rfl
 have p:A0.eval (.tmp 5)=C (J ⟨w1.heap.size,0,Z⟩):=by rw[A7];rfl
 clear A7;refine tG (W:=W5) 12 [Is (C (J ⟨B,0,Z⟩)),Is (C (J ⟨B,0,Z⟩)),Is (C (J ⟨B,0,Z⟩)),Is (C (J ⟨B,0,Z⟩)),Is (H G j.acts),Is (.agg #[M L (crashK j.disk q).safe.length B0,M N (crashK j.disk q).wr.length A9]),Is (C (J ⟨B,0,Z⟩)),Is (C (J ⟨B,0,Z⟩)),Is (C (J ⟨B,5,Z⟩)),Is (H G j.last),Is (.agg (rA (⟨j.acts,(crashK j.disk q),0,0,j.last,I,λ_=>0,λ_=>0,gA 0,gA 0,[],[],0,0,0,[]⟩:Jn) (⟨L,B0,N,A9,Z,0,Z,0,Z,0,Z,0,Z,0,Z,0,Z,0,Z,0,Z,0⟩:Sl))),Is (C (J ⟨B,0,Z⟩))] (by kernel_rfl) (by kernel_rfl) (by kernel_rfl) (by kernel_rfl) (Ub _ _).drew ⟨?_,?_,?_,?_,?_,?_,?_,?_,?_,?_,?_,?_,trivial⟩ ?_
 iterate 10
  refine OA B2 λa w' D hR A5=>⟨_,?_,rfl⟩
  have R:=(D.other 0 rfl).trans U;have B1:=(D.other 5 rfl).trans p;have A8:=Act.eval_const a;have Q:=Act.eval_func a;obtain⟨c0,_⟩:=kA ((F.o.below hR).k);unfold rA at c0;obtain⟨c1,_⟩:=kA ((F.o.below hR).b0.2.1)
  revert A5 R B1 A8 Q
  generalize a.eval=ρ;intro A5 R B1 A8 Q;simp[Region.binds,lf,Is]at A5;simp only[execOp]
  go_simp
 .refine OA B2 λa w' D hR A5=>⟨_,?_,rfl⟩
  simp[Region.binds,lf,Is]at A5;have A8:=Act.eval_const a
  revert A5 A8
  generalize a.eval=ρ;intro A5 A8;simp only[execOp,rA,gA]
  go_simp
 refine OA B2 λa w' D hR A5=>⟨_,?_,rfl⟩
 have R:=(D.other 0 rfl).trans U;have B1:=(D.other 5 rfl).trans p;have A8:=Act.eval_const a;have Q:=Act.eval_func a;obtain⟨c0,_⟩:=kA ((F.o.below hR).k);unfold rA at c0;obtain⟨c1,_⟩:=kA ((F.o.below hR).b0.2.1)
 revert A5 R B1 A8 Q
 generalize a.eval=ρ;intro A5 R B1 A8 Q;simp[Region.binds,lf,Is]at A5;simp only[execOp]
 go_simp
 intro a w6 D n A5;have p31:a.eval (.tmp 31)=C (J ⟨B,0,Z⟩):=A5 11 (by decide);have p30:a.eval (.tmp 30)=.agg (rA (⟨j.acts,(crashK j.disk q),0,0,j.last,I,λ_=>0,λ_=>0,gA 0,gA 0,[],[],0,0,0,[]⟩:Jn) (⟨L,B0,N,A9,Z,0,Z,0,Z,0,Z,0,Z,0,Z,0,Z,0,Z,0,Z,0⟩:Sl)):=A5 10 (by decide);refine⟨_,WI 74 (.tmp 31) (.tmp 30) B _ rfl p31 p30 _ _ (F.o.below n).k rfl rfl (by simp[rA,Value.oneCell']),?_⟩;have s:=F.o.below n;have i:=(D.other 0 rfl).trans U;have m:=(D.other 4 rfl).trans v4;obtain⟨g,z,rfl⟩:=nB a 33 (D.size.trans B2) (D.defers.trans A1);rw[z]at i m;simp only[List.range,List.range.loop,List.map_cons,List.map_nil,i,m];show KK _ _;apply Y;have S7:=zA (s.all (j':=(⟨j.acts,(crashK j.disk q),0,0,j.last,I,λ_=>0,λ_=>0,gA 0,gA 0,[],[],0,0,0,[]⟩:Jn)) (V':=(⟨L,B0,N,A9,Z,0,Z,0,Z,0,Z,0,Z,0,Z,0,Z,0,Z,0,Z,0⟩:Sl)) ⟨s.g,FC _ _,FC _ _,.inl rfl,.inl rfl,.inl rfl,Sb _,bF _⟩);clear D n A5 p31 p30 F i m z Y s U v4 p;go_wp2_with fail;refine(S7.o.code 0).mono ?_;rintro _ w9 ⟨rfl,A6⟩;have A6:=zA A6;obtain⟨y,yf⟩:=kA A6.o.tl.b0.2.1;have l:=A6.o.tl.b0.1;go_wp2;exact A6.o.told E.o B3 A6.o.tl.b0 (Sb _) λW c=>by simp[results,results22,go_sem,c]
def AltP (w:K)(v:E)(t T:Tx)(Q:Int)(x:Ending)(w':K):Prop:=∃D,x=N (S #[D,H G Q])/\Below w.heap.size w w'/\(D=v/\T=t\/IsTx w' D T/\DF w.heap.size D T)
theorem GR(kind:Int)(t:Tx)(a:Option Addr)(c:Nat)(b:Option Addr)(d:Nat)(e:Option Addr)(f:Nat)(h n:Int)(s:ByteArray)(T:Tx)(E:Int)(w:K)(hT:IsTx w (txv t a c b d e f) t)(hg:nA t=I)(Q:reachE t h n=4)(r:E=4)(p:T=t):
  Calls prog 90 #[H G kind,txv t a c b d e f,H G h,H G n,A s] w (AltP w (txv t a c b d e f) t T E):=by
 have F:=zA p;have D:=zA r;clear p r
 have Q:h<0\/2<h\/(IA t h).on=O\/sA n 0 11=O:=by
  rw[reachE,Qb (by rw[hg];decide)]at Q;by_cases hx:h<0\/2<h\/(IA t h).on=O\/n<0\/11<n
  .rcases hx with h1|h1|h1|h1
   .exact .inl h1
   .exact .inr (.inl h1)
   .exact .inr (.inr (.inl h1))
   .refine .inr (.inr (.inr ?_))
    cases u:sA n 0 11 with
    |false=>rfl
    |true=>have:=QC.1 u;omega
  .rw[Qb hx]at Q;cases Q
 have M:=zA hT;have L:=zA hg;clear hT;unfold txv txc at *;go_enter func90,ntmps90;go_wp2_with fail;refine(pF t a c b d e f _ (M.o.below (vA (qA _ _) (qA _ _))) L.o).mono ?_;rintro _ J ⟨rfl,B⟩;have A1:w.heap.size+1<J.heap.size:=by have:=B.size;simp at this;omega
 have A0:w.heap.size<J.heap.size:=by omega
 have K1:=zA (sB B);have K2:=zA (JB B);obtain⟨x,xf⟩:=kA (sB B);obtain⟨y,yf⟩:=kA (JB B);have C:=zA (vA (vA (qA _ _) (qA _ _)) B);clear B;have i:Hid (t=t):=rfl;by_cases h1:h<0
 .clear Q;go_wp2;refine Tb (by simp[results,results90,go_sem,y];rfl) rfl ⟨_,by rw[D.o],?_,.inl ⟨by first|rfl|rw[i.o,HL.o]|rw[i.o],F.o⟩⟩
  repeat refine Zb ?_ (by simp) _
  exact C.o
 by_cases h2:2<h
 .clear Q;go_wp2;refine Tb (by simp[results,results90,go_sem,y];rfl) rfl ⟨_,by rw[D.o],?_,.inl ⟨by first|rfl|rw[i.o,HL.o]|rw[i.o],F.o⟩⟩
  repeat refine Zb ?_ (by simp) _
  exact C.o
 have z:h=0\/h=1\/h=2:=by omega
 have Q:=(Q.resolve_left h1).resolve_left h2
 cases ho:(IA t h).on with
 |false=>
  clear Q h1 h2 i;rcases z with rfl|rfl|rfl
  all_goals
   simp[IA]at ho;have i:=zA ho;rw[ho]at x;go_wp2;refine Tb (by simp[results,results90,go_sem,y];rfl) rfl ⟨_,by rw[D.o],?_,.inl ⟨by first|rfl|rw[i.o,HL.o]|rw[i.o],F.o⟩⟩
   repeat refine Zb ?_ (by simp) _
   exact C.o
 |true=>
  have u:sA n 0 11=O:=Q.resolve_left (by rw[ho];simp);clear Q h1 h2 i;rcases z with rfl|rfl|rfl
  all_goals
   simp[IA]at ho;have i:=zA ho;rw[ho]at x;go_wp2_with (go_at_call 39;refine(xF _ _).mono ?_;rintro _ w' ⟨rfl,rfl⟩);refine Tb (by simp[results,results90,go_sem,y];rfl) rfl ⟨_,by rw[D.o],?_,.inl ⟨by first|rfl|rw[i.o,HL.o]|rw[i.o],F.o⟩⟩
   repeat refine Zb ?_ (by simp) _
   exact C.o
theorem iL{α:Type}(key:α->Int)(l:List α)(b:Int)(x:α):(putAt key l b x).length<=2*l.length+1:=by
 have h1:=Pd (λy=>decide (key y<b)) l;have h2:=Pd (λy=>decide (b<key y)) l;simp[putAt];omega
theorem kM{α:Type}(key:α->Int)(l:List α)(b:Int):(dropAt key l b).length<=2*l.length:=by
 have h1:=Pd (λy=>decide (key y<b)) l;have h2:=Pd (λy=>decide (b<key y)) l;simp[dropAt];omega
theorem tM(l:List Int)(b:Int)(r:Bool)(j:Nat):(docR l b r j).length<=1:=by
 unfold docR;split<;>simp
def Over (m:Nat)(w w':K):Prop:=w'.heap.size=w.heap.size/\∀k,m<=k->w'.heap[k]?=w.heap[k]?
theorem Over.set(h:Over m w w'){p:Addr}(hp:p.block<m)(u:E):Over m w (w'.setCell p u):=⟨by simpa[World.setCell] using h.1,λk D=>(Sc _ _ _ _ (by omega)).trans (h.2 k D)⟩
theorem SegW.over{l:List (Int×ByteArray)}(h:SegW w a l)(s:From m a)(o:Over m w w'):SegW w' a l:=by
 rcases h with h|⟨b,D,rfl,Q,p⟩
 .exact .inl h
 .have hb:=o.2 b (s b D rfl);exact .inr ⟨b,D,rfl,by rw[o.1];exact Q,λi r=>⟨(Cd hb).trans (p i r).1,(Cd hb).trans (p i r).2⟩⟩
theorem SegI.over{l:List Int}(h:SegI w a l)(s:From m a)(o:Over m w w'):SegI w' a l:=by
 rcases h with h|⟨b,D,rfl,Q,p⟩
 .exact .inl h
 .exact .inr ⟨b,D,rfl,by rw[o.1];exact Q,λi r=>(Cd (o.2 b (s b D rfl))).trans (p i r)⟩
theorem XJ{W':K}{T:Tx}{b:Option Addr}{d:Nat}(o:Over (m+2) W W')(h1:SegW W a T.info)(h2:SegW W b T.data)(r:SegI W e T.rev)(f1:From (m+2) a)(D:From (m+2) b)(Q:From (m+2) e)(n1:T.info.length<=1000)(n2:T.data.length<=1000)(n3:T.rev.length<=1000)(i:T.info.length<=c)(s:T.data.length<=d)(h:T.rev.length<=f):IsTx W' (txv T a c b d e f) T/\DF m (txv T a c b d e f) T:=
 ⟨⟨a,c,b,d,e,f,rfl,h1.over f1 o,h2.over D o,r.over Q o,by unfold maxLen;omega,by unfold maxLen;omega,by unfold maxLen;omega⟩,⟨a,c,b,d,e,f,rfl,λx p q=>by have:=f1 x p q;omega,λx p q=>by have:=D x p q;omega,λx p q=>by have:=Q x p q;omega⟩,_,_,_,_,_,_,_,_,_,_,_,_,_,_,_,_,rfl,i,s,h⟩
theorem OwnR.txF{m d r:E}(h:OwnR w base ⟨m,d,r,t⟩):∃a c Q i e f,m=M a t.info.length c/\d=M Q t.data.length i/\r=M e t.rev.length f/\SegW w a t.info/\SegW w Q t.data/\SegI w e t.rev/\From base a/\From base Q/\From base e/\t.info.length<=c/\t.data.length<=i/\t.rev.length<=f:=by
 obtain⟨B,A,C⟩:=h;dsimp only at B A C;obtain⟨a,c,rfl,J,F⟩:=SegC.of_owns B;obtain⟨Q,i,rfl,I,D⟩:=SegC.of_owns A;obtain⟨e,f,rfl,p,K⟩:=SegI.of_owns C;exact⟨a,c,Q,i,e,f,rfl,rfl,rfl,J,I,p,F,D,K,DD B,DD A,DD C⟩
structure AlS (w:World)(V0 V3:Array Value)(B:Nat)(w':World):Prop where
 i:w'.heap[w.heap.size]?=some (.cells V0 52 (0,0))
 r:w'.heap[w.heap.size+1]?=some (.cells #[.int .i64 0,.slice none 0 0,.slice none 0 0,.slice none 0 0,.bool false,.int .i64 0,.bool false,.int .i64 0,.bool false,.int .i64 0] 52 (0,0))
 o:w'.heap[B]?=some (.cells V3 52 (0,0))
 b:Below w.heap.size w w'
 l:w.heap.size+1<B
section
variable {w w' w2:World} {V0 V3:Array Value} {B:Nat}
theorem AlS.first(D:w2.heap[w.heap.size]?=J (T V0 52 (0,0)))(Q:w2.heap[w.heap.size+1]?=J (T #[H G 0,M Z 0 0,M Z 0 0,M Z 0 0,.bool O,H G 0,.bool O,H G 0,.bool O,H G 0] 52 (0,0)))(h:Below w.heap.size w w2)(hb:Below (w2.alloc (T V3 52)).heap.size (w2.alloc (T V3 52)) w'):AlS w V0 V3 w2.heap.size w':=by
 have C:=(Wb.1 D).1;have B:=(Wb.1 Q).1;have A:=vA (qA _ _) hb;exact⟨yA A C D,yA A B Q,yA hb (by simp) (Cc _ _),vA h A,B⟩
theorem AlS.below(h:AlS w V0 V3 B w')(hb:Below w'.heap.size w' w2):AlS w V0 V3 B w2:=
 ⟨yA hb (Wb.1 h.i).1 h.i,yA hb (Wb.1 h.r).1 h.r,yA hb (Wb.1 h.o).1 h.o,vA h.b hb,h.l⟩
theorem AlS.set(h:AlS w V0 V3 B w')(k:Nat)(u:E){V:Array E}(e:V3.setIfInBounds k u=V):AlS w V0 V B (w'.setCell ⟨B,k,Z⟩ u):=by
 have l:=h.l;refine⟨(Sc _ _ _ _ (by show w.heap.size≠B;omega)).trans h.i,(Sc _ _ _ _ (by show w.heap.size+1≠B;omega)).trans h.r,?_,h.b.setCell (by show w.heap.size<=B;omega) _,l⟩;rw[zc _ _ k _ _ _ h.o,e]
theorem AlS.all(h:AlS w V0 V3 B w'):(∀k,w'.cell? ⟨w.heap.size,k,Z⟩=V0[k]?)/\(∀k,w'.cell? ⟨w.heap.size+1,k,Z⟩=#[H G 0,M Z 0 0,M Z 0 0,M Z 0 0,.bool O,H G 0,.bool O,H G 0,.bool O,H G 0][k]?)/\(∀k,w'.frozen? ⟨w.heap.size+1,k,Z⟩=O)/\(∀k,w'.cell? ⟨B,k,Z⟩=V3[k]?)/\(∀k,w'.frozen? ⟨B,k,Z⟩=O)/\w.heap.size<w'.heap.size/\w.heap.size+1<w'.heap.size/\B<w'.heap.size:=
 ⟨(kA h.i).1,(kA h.r).1,(kA h.r).2,(kA h.o).1,(kA h.o).2,(Wb.1 h.i).1,(Wb.1 h.r).1,(Wb.1 h.o).1⟩
end
theorem VY(t:Tx)(a:Option Addr)(c:Nat)(b:Option Addr)(d:Nat)(e:Option Addr)(f:Nat)(h n:Int)(s:ByteArray)(w:K)(hT:IsTx w (txv t a c b d e f) t)(hg:nA t=I)(hr:reachE t h n=0)(hs:oA s=I):
  Calls prog 90 #[H G 1,txv t a c b d e f,H G h,H G n,A s] w (AltP w (txv t a c b d e f) t (xC t h n s) (fillE t h n s)):=by
 have HE:Hid (fillE t h n s=if EB t n=I then 8 else 0):=by rw[Hid,fillE,Qb (by rw[hr];simp),Qb (by rw[hs];simp)]
 have HN:Hid (fillE t h n s=8->xC t h n s=t):=λe=>by rw[xC,Qb (by rw[e];decide)]
 have HY:Hid (fillE t h n s=0->xC t h n s={t with data:=putAt (·.1) t.data n (n,s)}):=λe=>by rw[xC,Rb e]
 have B:=vD hr;have hk:=B.2.1;have S:=B.2.2.1;have j:=B.2.2.2.1;have X:=B.2.2.2.2;have hb:sA n 0 11=I:=QC.2 ⟨j,X⟩;have A2:=iB hg;have F:=((VA t).1 hg).2.2.1;have RI:=zA F.1;have RD:=zA F.2.1;have RR:=zA F.2.2;have hz:(s.size:Int)=32:=by simpa[oA] using hs
 have J:=zA (IsTx.rows hT);clear B F hr hs;have HT:=zA hT;have HG:=zA hg;clear hT;unfold txv txc at *;go_enter func90,ntmps90;go_wp2_with fail;refine(pF t a c b d e f _ (HT.o.below (vA (qA _ _) (qA _ _))) HG.o).mono ?_;rintro _ w1 ⟨rfl,A4⟩;have C:w.heap.size+1<w1.heap.size:=by have:=A4.size;simp at this;omega
 have R:w.heap.size<w1.heap.size:=by omega
 have l:=zA (sB A4);have K2:=zA (JB A4);obtain⟨x,q⟩:=kA (sB A4);obtain⟨y,A5⟩:=kA (JB A4);have Q:=zA (vA (vA (qA _ _) (qA _ _)) A4);clear A4;rcases hk with rfl|rfl|rfl
 all_goals
  simp[IA]at S;have U:=zA S;have N:=HT;rw[S]at x l N;clear S;go_wp2_with (go_at_call 39;refine(xF _ _).mono ?_;rintro _ w' ⟨rfl,rfl⟩);refine(pL _ t _ (N.o.below Q.o) (by omega) (by omega) (by omega)).mono ?_;rintro _ L ⟨m2,d2,r2,rfl,hN,D⟩;obtain⟨a1,c1,a2,c2,a3,c3,rfl,rfl,rfl,Y,A8,k,q1,q2,q3,k1,k2,k3⟩:=hN.txF;have R1:=zA k1;have R2:=zA k2;have R3:=zA k3;clear hN k1 k2 k3;have Q1:=zA Y;have Q2:=zA A8;have Q3:=zA k;have F1:=zA (From.mono q1 C);have F2:=zA (From.mono q2 C);have F3:=zA (From.mono q3 C);have r:=zA (yA D R l.o);have KB:=zA (yA D C K2.o);have i:=zA (vA Q.o D);have A3:w.heap.size+1<L.heap.size:=by have:=D.size;omega
  have A1:w.heap.size<L.heap.size:=by omega
  clear Y A8 k q1 q2 q3 D l K2 Q x q y A5 C R N;obtain⟨x,q⟩:=kA r.o;obtain⟨y,A5⟩:=kA KB.o;go_wp2_with fail;refine(eG a c t.info n _ (J.o.1.below (vA i.o (qA _ _))) J.o.2.2.2.1).mono ?_;rintro _ w4 ⟨rfl,hb⟩;have A6:=zA (AlS.first r.o KB.o i.o hb);have P4:=zA (vA (qA _ _) hb);clear hb x q y A5 r KB;obtain⟨x,y,A5,z,zf,l0,l1,u⟩:=A6.o.all
  cases hi:(uA n t.info).isSome with
  |true=>
   have E:=zA (HE.o.trans (Rb (by rw[EB,hi];rfl)));have O:=zA (HN.o E.o);clear hi;go_wp2;refine Tb (by simp[results,results90,go_sem,y];rfl) rfl ⟨_,by rw[E.o],?_,.inl ⟨by first|rfl|rw[U.o,HL.o]|rw[U.o],O.o⟩⟩
   repeat refine Zb ?_ (by simp) _
   exact A6.o.b
  |false=>
   go_wp2_with fail;refine(kE e f t.rev n _ (J.o.2.2.1.below A6.o.b) J.o.2.2.2.2.2).mono ?_;rintro _ w' ⟨rfl,rfl⟩
   cases ha:tA t.rev n with
   |true=>
    have E:=zA (HE.o.trans (Rb (by rw[EB,hi,ha];rfl)));have O:=zA (HN.o E.o);clear hi ha;go_wp2;refine Tb (by simp[results,results90,go_sem,y];rfl) rfl ⟨_,by rw[E.o],?_,.inl ⟨by first|rfl|rw[U.o,HL.o]|rw[U.o],O.o⟩⟩
    repeat refine Zb ?_ (by simp) _
    exact A6.o.b
   |false=>
    have E:=zA (HE.o.trans (Qb (by rw[EB,hi,ha];simp)));have O:=zA (HY.o E.o);clear hi ha;go_wp2_with fail;refine(pK b d t.data n s _ (J.o.2.1.below A6.o.b) J.o.2.2.2.2.1).mono ?_;rintro _ w6 ⟨v6,rfl,A7,hb⟩;have S6:=zA (A6.o.below hb);have P6:=zA (vA P4.o hb);have m4:=u;clear x y A5 z zf l0 l1 u;obtain⟨x,y,A5,z,zf,l0,l1,u⟩:=S6.o.all;rw[uN RD.o j X s]at A7;obtain⟨p6,q6,rfl,A0,g6⟩:=SegC.of_owns A7;have hp:=iL (·.1) t.data n (n,s);have f6:From (w.heap.size+2) p6:=λx o e=>by have:=g6 x o e;omega
    go_wp2
    refine Tb (by simp[results,results90,go_sem,y];rfl) rfl ⟨_,by rw[E.o],?_,.inr (by
     rw[O.o];refine XJ (m:=w.heap.size) (T:={t with data:=putAt (·.1) t.data n (n,s)}) (W:=w6.setCell ⟨L.heap.size,2,Z⟩ (M p6 (putAt (·.1) t.data n (n,s)).length q6)) ?_ (Q1.o.below (P6.o.setCell (Sb _) _)) (A0.setNe (λx o e=>by have:=g6 x o e;show x≠L.heap.size;omega) _) (Q3.o.below (P6.o.setCell (Sb _) _)) F1.o f6 F3.o (by dsimp only;omega) (by dsimp only;omega) (by dsimp only;omega) R1.o (DD A7) R3.o
     iterate 10 (refine Over.set ?_ (by simp) _)
     exact⟨rfl,λ_ _=>rfl⟩)⟩
    iterate 10 (refine Zb ?_ (by simp) _)
    exact S6.o.b.setCell (p:=⟨L.heap.size,2,Z⟩) (by show w.heap.size<=L.heap.size;omega) _
theorem QN(t:Tx)(h n:Int):nameE t h n=0/\nameT t h n=t/\(uA n t.info).isSome=I\/nameE t h n=0/\nameT t h n=t/\(uA n t.info).isSome=O/\tA t.rev n=I\/nameE t h n=7/\(uA n t.info).isSome=O/\tA t.rev n=O/\(IA t h).left=0\/nameE t h n=0/\nameT t h n=QB t h ⟨(IA t h).on,(IA t h).left - 1⟩/\(uA n t.info).isSome=O/\tA t.rev n=O/\¬(IA t h).left=0:=by
 cases hi:(uA n t.info).isSome<;>cases ha:tA t.rev n
 .by_cases hl:(IA t h).left=0<;>simp[nameE,nameT,EB,hi,ha,hl]
 all_goals simp[nameE,nameT,EB,hi,ha]
theorem UP(t:Tx)(h b:Int):(nameT t h b).seq=t.seq:=by
 unfold nameT QB;split
 .rfl
 .split
  .rfl
  .split<;>rfl
theorem EO{x:Hd}(h:hdB x=I):0<=x.left/\x.left<=24:=by
 have:=(nC x).1 h;omega
theorem IS(t:Tx)(a:Option Addr)(c:Nat)(b:Option Addr)(d:Nat)(e:Option Addr)(f:Nat)(h n:Int)(s:ByteArray)(w:K)(hT:IsTx w (txv t a c b d e f) t)(hg:nA t=I)(hr:reachE t h n=0)(hs:oA s=I):
  Calls prog 90 #[H G 0,txv t a c b d e f,H G h,H G n,A s] w (AltP w (txv t a c b d e f) t (ZB t h n s) (changeE t h n s)):=by
 have A9:Hid ((uA n t.data).isSome=I->changeE t h n s=8):=λe=>by rw[changeE,Qb (by rw[hr];simp),Qb (by rw[hs];simp),Rb e]
 have HE:Hid ((uA n t.data).isSome=O->changeE t h n s=nameE t h n):=λe=>by rw[changeE,Qb (by rw[hr];simp),Qb (by rw[hs];simp),Qb (by rw[e];simp)]
 have HN:Hid (¬changeE t h n s=0->ZB t h n s=t):=λe=>by rw[ZB,Qb e]
 have HY:Hid (changeE t h n s=0->ZB t h n s=⟨t.seq,putAt (·.1) t.info n (n,s),t.data,dropAt id t.rev n,(nameT t h n).h0,(nameT t h n).h1,(nameT t h n).h2⟩):=λe=>by
  rw[ZB,Rb e,iD,<-UP t h n,<-(kG t h n).2.1]
 have HC:=zA (QN t h n);have B6:=EO (NF hg h);obtain⟨C,B0⟩:∃C,C=nameT t h n:=⟨_,rfl⟩;rw[<-B0]at HY HC;clear B0;have Q:=vD hr;have hk:=Q.2.1;have ho:=Q.2.2.1;have B2:=Q.2.2.2.1;have A5:=Q.2.2.2.2;have hb:sA n 0 11=I:=QC.2 ⟨B2,A5⟩;have C8:=iB hg;have E0:=((VA t).1 hg).2.2.1;have RI:=zA E0.1;have RD:=zA E0.2.1;have RR:=zA E0.2.2;have hz:(s.size:Int)=32:=by simpa[oA] using hs
 have D4:=zA (IsTx.rows hT);clear Q E0 hr hs;have HT:=zA hT;have HG:=zA hg;clear hT;unfold txv txc at *;go_enter func90,ntmps90;go_wp2_with fail;refine(pF t a c b d e f _ (HT.o.below (vA (qA _ _) (qA _ _))) HG.o).mono ?_;rintro _ w1 ⟨rfl,D8⟩;have R:w.heap.size+1<w1.heap.size:=by have:=D8.size;simp at this;omega
 have A4:w.heap.size<w1.heap.size:=by omega
 have K1:=zA (sB D8);have K2:=zA (JB D8);obtain⟨x,xf⟩:=kA (sB D8);obtain⟨y,D⟩:=kA (JB D8);have A1:=zA (vA (vA (qA _ _) (qA _ _)) D8);clear D8;rcases hk with rfl|rfl|rfl
 all_goals
  simp[IA]at ho;have HO:=zA ho;have A0:=HT;rw[ho]at x K1 A0;clear ho;go_wp2_with (go_at_call 39;refine(xF _ _).mono ?_;rintro _ w' ⟨rfl,rfl⟩);refine(pL _ t _ (A0.o.below A1.o) (by omega) (by omega) (by omega)).mono ?_;rintro _ D3 ⟨m2,d2,r2,rfl,hN,U⟩;obtain⟨a1,c1,a2,c2,a3,c3,rfl,rfl,rfl,A6,A7,B7,q1,q2,q3,k1,k2,k3⟩:=hN.txF;have R1:=zA k1;have R2:=zA k2;have R3:=zA k3;clear hN k1 k2 k3;have Q1:=zA A6;have Q2:=zA A7;have Q3:=zA B7;have F1:=zA (From.mono q1 R);have F2:=zA (From.mono q2 R);have F3:=zA (From.mono q3 R);have KA:=zA (yA U A4 K1.o);have KB:=zA (yA U R K2.o);have B1:=zA (vA A1.o U);have C9:w.heap.size+1<D3.heap.size:=by have:=U.size;omega
  have C5:w.heap.size<D3.heap.size:=by omega
  clear A6 A7 B7 q1 q2 q3 U K1 K2 A1 x xf y D R A4 A0;obtain⟨x,xf⟩:=kA KA.o;obtain⟨y,D⟩:=kA KB.o;go_wp2_with fail;refine(eG b d t.data n _ (D4.o.2.1.below (vA B1.o (qA _ _))) D4.o.2.2.2.2.1).mono ?_;rintro _ w4 ⟨rfl,hb⟩;have S4:=zA (AlS.first KA.o KB.o B1.o hb);have P4:=zA (vA (qA _ _) hb);clear hb x xf y D KA KB;obtain⟨x,y,D,z,S,N,D6,D5⟩:=S4.o.all;cases hd:(uA n t.data).isSome
  rotate_left
  .have D7:=zA (A9.o hd);clear hd;have E2:=zA (HN.o (by rw[D7.o];decide));go_wp2;refine Tb (by simp[results,results90,go_sem,y];rfl) rfl ⟨_,by rw[D7.o],?_,.inl ⟨by first|rfl|rw[HO.o,HL.o]|rw[HO.o],E2.o⟩⟩
   repeat refine Zb ?_ (by simp) _
   exact S4.o.b
  have EE:=zA (HE.o hd);clear hd HE A9;go_wp2_with fail;refine(eG a c t.info n _ (D4.o.1.below S4.o.b) D4.o.2.2.2.1).mono ?_;rintro _ w5 ⟨rfl,hb⟩;have Y:=zA (S4.o.below hb);have P5:=zA (vA P4.o hb);have m4:=D5;clear x y D z S N D6 D5;obtain⟨x,y,D,z,S,N,D6,D5⟩:=Y.o.all;clear hb;rcases HC.o with⟨e1,h1,hi⟩|⟨e1,h1,hi,ha⟩|⟨e1,hi,ha,hl⟩|⟨e1,h1,hi,ha,hl⟩
  rotate_left 2
  .have D7:=zA (EE.o.trans e1);simp[IA]at hl;have HL:=zA hl;clear e1 HC;have E2:=zA (HN.o (by rw[D7.o];decide));go_wp2_with (go_at_call 76;refine(kE e f t.rev n _ (D4.o.2.2.1.below Y.o.b) D4.o.2.2.2.2.2).mono ?_;rintro _ w' ⟨rfl,rfl⟩);refine Tb (by simp[results,results90,go_sem,y];rfl) rfl ⟨_,by rw[D7.o],?_,.inl ⟨by first|rfl|rw[HO.o,HL.o]|rw[HO.o],E2.o⟩⟩
   repeat refine Zb ?_ (by simp) _
   exact Y.o.b
  all_goals
   have D7:=zA (EE.o.trans e1);have E2:=zA (HY.o D7.o);clear e1 HC HN HY EE
   try (simp[IA]at hl)
   try (have D2:=Ec.2 hl)
   simp[IA]at B6;obtain⟨C7,D1⟩:=B6
   try (simp[IA,QB]at h1)
   have H1:=zA h1;clear h1;go_wp2_with (go_at_call 76;refine(kE e f t.rev n _ (D4.o.2.2.1.below Y.o.b) D4.o.2.2.2.2.2).mono ?_;rintro _ w' ⟨rfl,rfl⟩)
   go_loopw [115] (λi wx=>∃j:Nat,j<=12/\i=H G j/\∃u:E,Hid (AlS w _ #[H G t.seq,M a1 t.info.length c1,M a2 t.data.length c2,u,.bool C.h0.on,H G C.h0.left,.bool C.h1.on,H G C.h1.left,.bool C.h2.on,H G C.h2.left] D3.heap.size wx)/\Hid (wx.ownsRow (D3.heap.size+1) 3 1 u ((List.range j).flatMap (docR t.rev n O)).length (cellsI ((List.range j).flatMap (docR t.rev n O))))/\Hid (Below D3.heap.size D3 wx)) (λi _=>12 - (intOf i).toNat)
   case atStart=>exact⟨0,Vb _,rfl,M Z 0 0,by rw[H1.o];first|exact Y.o.set 3 _ rfl|exact(Y.o.set _ _ rfl).set 3 _ rfl,Kc _ _ _ _,by first|exact P5.o.setCell (Sb _) _|exact(P5.o.setCell (Sb _) _).setCell (Sb _) _⟩
   case round=>
    clear x y D z S N D6 D5;clear Y P5;obtain⟨j,hj,rfl,u,F,B,P8⟩:=hrel;obtain⟨x,y,D,z,S,N,D6,D5⟩:=F.o.all;by_cases hlt:j<12
    .have C4:(j:Int)<12:=by omega
     have hq:=ZL (docR t.rev n O) (tM t.rev n O) j;have HF:=zA (PL (docR t.rev n O) j);generalize (List.range j).flatMap (docR t.rev n O)=q at *;by_cases he:(j:Int)=n
     .have B9:((j:Int)==n)=I:=by simpa using he
      have D9:Hid ((List.range (j+1)).flatMap (docR t.rev n O)=q):=by rw[Hid,HF.o,docR,Qb (by simp[he])];simp
      clear HF;go_wp2
      go_roundw
      case rel=>exact⟨j+1,by omega,by go_num,u,F,by rw[D9.o];exact B,P8⟩
      case measure=>simp[intOf];omega
     .have B9:((j:Int)==n)=O:=by simpa using he
      go_wp2_with fail;refine(kE e f t.rev (j:Int) _ (D4.o.2.2.1.below F.o.b) D4.o.2.2.2.2.2).mono ?_;rintro _ w' ⟨rfl,rfl⟩
      cases hm:tA t.rev (j:Int) with
      |false=>
       have D9:Hid ((List.range (j+1)).flatMap (docR t.rev n O)=q):=by rw[Hid,HF.o,docR,Qb (by simp[he,hm])];simp
       clear HF;go_wp2
       go_roundw
       case rel=>exact⟨j+1,by omega,by go_num,u,F,by rw[D9.o];exact B,P8⟩
       case measure=>simp[intOf];omega
      |true=>
       have D9:Hid ((List.range (j+1)).flatMap (docR t.rev n O)=q++[(j:Int)]):=by rw[Hid,HF.o,docR,Rb (.inr ⟨he,hm⟩)]
       clear HF;go_wp2_with (at_builtin;refine NI _ _ (D3.heap.size+1) rfl _ _ rfl _ q.length (cellsI q) rfl (dA B.o (qA _ _)) (J ⟨wr.heap.size,0,Z⟩) 1 [(j:Int)] rfl (.inr ⟨wr.heap.size,0,rfl,by simp,λi hi=>?_⟩) (by simp;omega) (by simp;omega) (Ub _ _) ?_)
       .have:i=0:=by simpa using hi
        subst this;simp[go_sem]
       .intro v' w9 k L;have S9:Hid (AlS w _ #[H G t.seq,M a1 t.info.length c1,M a2 t.data.length c2,u,.bool C.h0.on,H G C.h0.left,.bool C.h1.on,H G C.h1.left,.bool C.h2.on,H G C.h2.left] D3.heap.size w9):=⟨(L.o.block _ (by omega)).trans ((kd _ _ _ N).trans F.o.i),(L.o.block _ (by omega)).trans ((kd _ _ _ D6).trans F.o.r),(L.o.block _ (by omega)).trans ((kd _ _ _ D5).trans F.o.o),(vA F.o.b (qA _ _)).trans (L.o.mono (by omega)),F.o.l⟩;have P9:Hid (Below D3.heap.size D3 w9):=(vA P8.o (qA _ _)).trans (L.o.mono (by omega));have A3:Hid (w9.ownsRow (D3.heap.size+1) 3 1 v' (q++[(j:Int)]).length (cellsI (q++[(j:Int)]))):=by rw[Hid,Yb,AF];exact k.o
        obtain⟨q2,B5⟩:∃q2,q2=q++[(j:Int)]:=⟨_,rfl⟩;rw[<-B5]at A3 D9;clear k L B5;obtain⟨p9,r9,rfl,_,_⟩:=SegI.of_owns A3.o;clear B F P8;clear x y D z S N D6 D5;obtain⟨x,y,D,z,S,N,D6,D5⟩:=S9.o.all;go_wp2
        go_roundw
        case rel=>exact⟨j+1,by omega,by go_num,_,S9.o.set 3 _ rfl,by rw[D9.o];exact Jc A3.o (by simp) _,P9.o.setCell (Sb _) _⟩
        case measure=>simp[intOf];omega
    .have e:j=12:=by omega
     subst e;rw[KW RR.o]at B;obtain⟨p3,r3,rfl,A2,g3⟩:=SegI.of_owns B.o;have O3:=zA (DD B.o);go_wp2_with fail;refine(pK a c t.info n s _ (D4.o.1.below F.o.b) D4.o.2.2.2.1).mono ?_;rintro _ C1 ⟨C6,rfl,X,hb⟩;have B3:=zA (F.o.below hb);have C2:=zA (vA P8.o hb);have m8:=D5;clear x y D z S N D6 D5;obtain⟨x,y,D,z,S,N,D6,D5⟩:=B3.o.all;rw[uN RI.o B2 A5 s]at X;obtain⟨A8,C0,rfl,B8,B4⟩:=SegC.of_owns X;have hp:=iL (·.1) t.info n (n,s);have hd:=kM id t.rev n;have A2:=A2.below hb;have C3:From (w.heap.size+2) A8:=λx o e=>by have:=B4 x o e;omega
     have f3:From (w.heap.size+2) p3:=λx o e=>by have:=g3 x o e;omega
     go_wp2
     refine Tb (by simp[results,results90,go_sem,y];rfl) rfl ⟨_,by rw[D7.o],?_,.inr (by
      rw[E2.o];refine XJ (m:=w.heap.size) (T:=⟨t.seq,putAt (·.1) t.info n (n,s),t.data,dropAt id t.rev n,_,_,_⟩) (W:=C1.setCell ⟨D3.heap.size,1,Z⟩ (M A8 (putAt (·.1) t.info n (n,s)).length C0)) ?_ (B8.setNe (λx o e=>by have:=B4 x o e;show x≠D3.heap.size;omega) _) (Q2.o.below (C2.o.setCell (Sb _) _)) (A2.setNe (λx o e=>by have:=g3 x o e;show x≠D3.heap.size;omega) _) C3 F2.o f3 (by dsimp only;omega) (by dsimp only;omega) (by dsimp only;omega) (DD X) R2.o O3.o
      iterate 10 (refine Over.set ?_ (by simp) _)
      exact⟨rfl,λ_ _=>rfl⟩)⟩
     iterate 10 (refine Zb ?_ (by simp) _)
     exact B3.o.b.setCell (p:=⟨D3.heap.size,1,Z⟩) (by show w.heap.size<=D3.heap.size;omega) _
def sD (P:Nat)(Q:Nat)(n:Int)(t:Tx)(a:Option Addr)(c:Nat)(b:Option Addr)(d:Nat)(m:Nat):Nat->E->K->Prop
 |0,v,_=>v=C (J ⟨P,1,Z⟩)
 |1,v,_=>v=M a t.info.length c
 |2,v,_=>v=H G n
 |3,v,w=>∃p q,v=M p (dropAt (·.1) t.info n).length q/\SegW w p (dropAt (·.1) t.info n)/\From m p/\(dropAt (·.1) t.info n).length<=q
 |4,v,_=>v=C (J ⟨P,2,Z⟩)
 |5,v,_=>v=M b t.data.length d
 |6,v,_=>v=H G n
 |7,v,w=>∃p q,v=M p (dropAt (·.1) t.data n).length q/\SegW w p (dropAt (·.1) t.data n)/\From m p/\(dropAt (·.1) t.data n).length<=q
 |8,v,_=>v=C (J ⟨Q,1,Z⟩)
 |_,_,_=>True
theorem GP{P:Nat}{Q:Nat}{n:Int}{b:Option Addr}{d:Nat}(hb:Below w.heap.size w w'){i:Nat}:∀D r,D≠i->sD P Q n t a c b d m D r w->sD P Q n t a c b d m D r w':=by
 intro D r _ h
 match D,h with
 |0,h|1,h|2,h=>exact h
 |3,⟨p,q,h1,h2,h3⟩=>exact⟨p,q,h1,h2.below hb,h3⟩
 |4,h|5,h|6,h=>exact h
 |7,⟨p,q,h1,h2,h3⟩=>exact⟨p,q,h1,h2.below hb,h3⟩
 |8,h=>exact h
 |_+9,_=>exact trivial
theorem mW(t:Tx)(a:Option Addr)(c:Nat)(b:Option Addr)(d:Nat)(e:Option Addr)(f:Nat)(h n:Int)(s:ByteArray)(w:K)(hT:IsTx w (txv t a c b d e f) t)(hg:nA t=I)(hr:reachE t h n=0)(hs:oA s=I):
  Calls prog 90 #[H G 2,txv t a c b d e f,H G h,H G n,A s] w (AltP w (txv t a c b d e f) t (GB t h n) (revokeE t h n)):=by
 have K0:Hid (tA t.rev n=I->revokeE t h n=5):=λe=>by rw[revokeE,Qb (by rw[hr];simp),Rb e]
 have HE:Hid (tA t.rev n=O->revokeE t h n=nameE t h n):=λe=>by rw[revokeE,Qb (by rw[hr];simp),Qb (by rw[e];simp)]
 have HN:Hid (¬revokeE t h n=0->GB t h n=t):=λe=>by rw[GB,Qb e]
 have HY:Hid (revokeE t h n=0->GB t h n=⟨t.seq,dropAt (·.1) t.info n,dropAt (·.1) t.data n,putAt id t.rev n n,(nameT t h n).h0,(nameT t h n).h1,(nameT t h n).h2⟩):=λe=>by
  rw[GB,Rb e,FD,<-UP t h n]
 have HC:=zA (QN t h n);have O2:=EO (NF hg h);obtain⟨X0,M9⟩:∃X0,X0=nameT t h n:=⟨_,rfl⟩;rw[<-M9]at HY HC;clear M9;have A4:=vD hr;have hk:=A4.2.1;have ho:=A4.2.2.1;have S2:=A4.2.2.2.1;have O6:=A4.2.2.2.2;have hb:sA n 0 11=I:=QC.2 ⟨S2,O6⟩;have W2:=iB hg;have A8:=((VA t).1 hg).2.2.1;have RI:=zA A8.1;have RD:=zA A8.2.1;have RR:=zA A8.2.2;have hz:(s.size:Int)=32:=by simpa[oA] using hs
 have u:=zA (IsTx.rows hT);clear A4 A8 hr hs;have HT:=zA hT;have HG:=zA hg;clear hT;unfold txv txc at *;go_enter func90,ntmps90;go_wp2_with fail;refine(pF t a c b d e f _ (HT.o.below (vA (qA _ _) (qA _ _))) HG.o).mono ?_;rintro _ w1 ⟨rfl,X3⟩;have A5:w.heap.size+1<w1.heap.size:=by have:=X3.size;simp at this;omega
 have H0:w.heap.size<w1.heap.size:=by omega
 have K1:=zA (sB X3);have K2:=zA (JB X3);obtain⟨x,xf⟩:=kA (sB X3);obtain⟨y,U⟩:=kA (JB X3);have I2:=zA (vA (vA (qA _ _) (qA _ _)) X3);clear X3;rcases hk with rfl|rfl|rfl
 all_goals
  simp[IA]at ho;have HO:=zA ho;have F5:=HT;rw[ho]at x K1 F5;clear ho;go_wp2_with (go_at_call 39;refine(xF _ _).mono ?_;rintro _ w' ⟨rfl,rfl⟩);refine(pL _ t _ (F5.o.below I2.o) (by omega) (by omega) (by omega)).mono ?_;rintro _ B ⟨m2,d2,r2,rfl,hN,D⟩;obtain⟨a1,c1,a2,c2,a3,c3,rfl,rfl,rfl,P5,T2,U9,q1,X2,q3,k1,k2,k3⟩:=hN.txF;have R1:=zA k1;have R2:=zA k2;have R3:=zA k3;clear hN k1 k2 k3;have Q1:=zA P5;have Q2:=zA T2;have Q3:=zA U9;have F1:=zA (From.mono q1 A5);have F2:=zA (From.mono X2 A5);have F3:=zA (From.mono q3 A5);have KA:=zA (yA D H0 K1.o);have KB:=zA (yA D A5 K2.o);have L8:=zA (vA I2.o D);have W6:w.heap.size+1<B.heap.size:=by have:=D.size;omega
  have W1:w.heap.size<B.heap.size:=by omega
  clear P5 T2 U9 q1 X2 q3 D K1 K2 I2 x xf y U A5 H0 F5;obtain⟨x,xf⟩:=kA KA.o;obtain⟨y,U⟩:=kA KB.o;go_wp2_with fail;refine(kE e f t.rev n _ (u.o.2.2.1.below (vA L8.o (qA _ _))) u.o.2.2.2.2.2).mono ?_;rintro _ w' ⟨rfl,rfl⟩;have S3:=zA (AlS.first (V3:=#[H G t.seq,M a1 t.info.length c1,M a2 t.data.length c2,M a3 t.rev.length c3,.bool t.h0.on,H G t.h0.left,.bool t.h1.on,H G t.h1.left,.bool t.h2.on,H G t.h2.left]) KA.o KB.o L8.o (Ub _ _));have P3:=zA (qA B (.cells #[H G t.seq,M a1 t.info.length c1,M a2 t.data.length c2,M a3 t.rev.length c3,.bool t.h0.on,H G t.h0.left,.bool t.h1.on,H G t.h1.left,.bool t.h2.on,H G t.h2.left] 52));obtain⟨w3,M1⟩:∃w3,w3=B.alloc (.cells #[H G t.seq,M a1 t.info.length c1,M a2 t.data.length c2,M a3 t.rev.length c3,.bool t.h0.on,H G t.h0.left,.bool t.h1.on,H G t.h1.left,.bool t.h2.on,H G t.h2.left] 52):=⟨_,rfl⟩;rw[<-M1]at S3 P3|-;clear M1 x xf y U KA KB;obtain⟨x,y,U,z,zf,X5,k,Y⟩:=S3.o.all;cases hd:tA t.rev n
  rotate_left
  .have X6:=zA (K0.o hd);clear hd;have E2:=zA (HN.o (by rw[X6.o];decide));go_wp2;refine Tb (by simp[results,results90,go_sem,y];rfl) rfl ⟨_,by rw[X6.o],?_,.inl ⟨by first|rfl|rw[HO.o,HL.o]|rw[HO.o],E2.o⟩⟩
   repeat refine Zb ?_ (by simp) _
   exact S3.o.b
  have EE:=zA (HE.o hd);have V7:=zA hd;clear hd HE K0;go_wp2_with fail;refine(eG a c t.info n _ (u.o.1.below S3.o.b) u.o.2.2.2.1).mono ?_;rintro _ w4 ⟨rfl,hb⟩;have S4:=zA (S3.o.below hb);have P4:=zA (vA P3.o hb);have m3:=Y;clear x y U z zf X5 k Y;obtain⟨x,y,U,z,zf,X5,k,Y⟩:=S4.o.all;clear hb;rcases HC.o with⟨e1,h1,hi⟩|⟨e1,h1,hi,ha⟩|⟨e1,hi,ha,hl⟩|⟨e1,h1,hi,ha,hl⟩
  rotate_left 2
  .have X6:=zA (EE.o.trans e1);simp[IA]at hl;have HL:=zA hl;clear e1 HC;have E2:=zA (HN.o (by rw[X6.o];decide));go_wp2_with (go_at_call 76;refine(kE e f t.rev n _ (u.o.2.2.1.below S4.o.b) u.o.2.2.2.2.2).mono ?_;rintro _ w' ⟨rfl,rfl⟩);refine Tb (by simp[results,results90,go_sem,y];rfl) rfl ⟨_,by rw[X6.o],?_,.inl ⟨by first|rfl|rw[HO.o,HL.o]|rw[HO.o],E2.o⟩⟩
   repeat refine Zb ?_ (by simp) _
   exact S4.o.b
  all_goals try (first|(exact absurd (V7.o.symm.trans ha) (by decide))|skip)
  all_goals
   have X6:=zA (EE.o.trans e1);have E2:=zA (HY.o X6.o);clear e1 HC HN HY EE
   try (simp[IA]at hl)
   try (have W8:=Ec.2 hl)
   simp[IA]at O2;obtain⟨W5,W4⟩:=O2
   try (simp[IA,QB]at h1)
   have H1:=zA h1;clear h1;go_wp2_with (go_at_call 76;refine(kE e f t.rev n _ (u.o.2.2.1.below S4.o.b) u.o.2.2.2.2.2).mono ?_;rintro _ w' ⟨rfl,rfl⟩)
   go_loopw [115] (λi wx=>∃j:Nat,j<=12/\i=H G j/\∃vr:E,Hid (AlS w _ #[H G t.seq,M a1 t.info.length c1,M a2 t.data.length c2,vr,.bool X0.h0.on,H G X0.h0.left,.bool X0.h1.on,H G X0.h1.left,.bool X0.h2.on,H G X0.h2.left] B.heap.size wx)/\Hid (wx.ownsRow (B.heap.size+1) 3 1 vr ((List.range j).flatMap (docR t.rev n I)).length (cellsI ((List.range j).flatMap (docR t.rev n I))))/\Hid (Below B.heap.size B wx)) (λi _=>12 - (intOf i).toNat)
   case atStart=>exact⟨0,Vb _,rfl,M Z 0 0,by rw[H1.o];first|exact S4.o.set 3 _ rfl|exact(S4.o.set _ _ rfl).set 3 _ rfl,Kc _ _ _ _,by first|exact P4.o.setCell (Sb _) _|exact(P4.o.setCell (Sb _) _).setCell (Sb _) _⟩
   case round=>
    clear x y U z zf X5 k Y;clear S4 P4;obtain⟨j,hj,rfl,vr,X1,Q,P8⟩:=hrel;obtain⟨x,y,U,z,zf,X5,k,Y⟩:=X1.o.all;by_cases hlt:j<12
    .have W0:(j:Int)<12:=by omega
     have hq:=ZL (docR t.rev n I) (tM t.rev n I) j;have HF:=zA (PL (docR t.rev n I) j);generalize (List.range j).flatMap (docR t.rev n I)=q at *;by_cases he:(j:Int)=n
     .have V1:((j:Int)==n)=I:=by simpa using he
      have A2:Hid ((List.range (j+1)).flatMap (docR t.rev n I)=q++[n]):=by rw[Hid,HF.o,docR,Rb (.inl ⟨he,rfl⟩),he]
      clear HF;go_wp2_with (at_builtin;refine NI _ _ (B.heap.size+1) rfl _ _ rfl _ q.length (cellsI q) rfl (dA Q.o (qA _ _)) (J ⟨wr.heap.size,0,Z⟩) 1 [n] rfl (.inr ⟨wr.heap.size,0,rfl,by simp,λi hi=>?_⟩) (by simp;omega) (by simp;omega) (Ub _ _) ?_)
      .have:i=0:=by simpa using hi
       subst this;simp[go_sem]
      .intro v' w9 X L;have S9:Hid (AlS w _ #[H G t.seq,M a1 t.info.length c1,M a2 t.data.length c2,vr,.bool X0.h0.on,H G X0.h0.left,.bool X0.h1.on,H G X0.h1.left,.bool X0.h2.on,H G X0.h2.left] B.heap.size w9):=⟨(L.o.block _ (by omega)).trans ((kd _ _ _ X5).trans X1.o.i),(L.o.block _ (by omega)).trans ((kd _ _ _ k).trans X1.o.r),(L.o.block _ (by omega)).trans ((kd _ _ _ Y).trans X1.o.o),(vA X1.o.b (qA _ _)).trans (L.o.mono (by omega)),X1.o.l⟩;have P9:Hid (Below B.heap.size B w9):=(vA P8.o (qA _ _)).trans (L.o.mono (by omega));have A1:Hid (w9.ownsRow (B.heap.size+1) 3 1 v' (q++[n]).length (cellsI (q++[n]))):=by rw[Hid,Yb,AF];exact X.o
       obtain⟨X2,A6⟩:∃X2,X2=q++[n]:=⟨_,rfl⟩;rw[<-A6]at A1 A2;clear X L A6;obtain⟨p9,r9,rfl,_,_⟩:=SegI.of_owns A1.o;clear Q X1 P8;clear x y U z zf X5 k Y;obtain⟨x,y,U,z,zf,X5,k,Y⟩:=S9.o.all;go_wp2
       go_roundw
       case rel=>exact⟨j+1,by omega,by go_num,_,S9.o.set 3 _ rfl,by rw[A2.o];exact Jc A1.o (by simp) _,P9.o.setCell (Sb _) _⟩
       case measure=>simp[intOf];omega
     .have V1:((j:Int)==n)=O:=by simpa using he
      go_wp2_with fail;refine(kE e f t.rev (j:Int) _ (u.o.2.2.1.below X1.o.b) u.o.2.2.2.2.2).mono ?_;rintro _ w' ⟨rfl,rfl⟩
      cases hm:tA t.rev (j:Int) with
      |false=>
       have A2:Hid ((List.range (j+1)).flatMap (docR t.rev n I)=q):=by rw[Hid,HF.o,docR,Qb (by simp[he,hm])];simp
       clear HF;go_wp2
       go_roundw
       case rel=>exact⟨j+1,by omega,by go_num,vr,X1,by rw[A2.o];exact Q,P8⟩
       case measure=>simp[intOf];omega
      |true=>
       have A2:Hid ((List.range (j+1)).flatMap (docR t.rev n I)=q++[(j:Int)]):=by rw[Hid,HF.o,docR,Rb (.inr ⟨he,hm⟩)]
       clear HF;go_wp2_with (at_builtin;refine NI _ _ (B.heap.size+1) rfl _ _ rfl _ q.length (cellsI q) rfl (dA Q.o (qA _ _)) (J ⟨wr.heap.size,0,Z⟩) 1 [(j:Int)] rfl (.inr ⟨wr.heap.size,0,rfl,by simp,λi hi=>?_⟩) (by simp;omega) (by simp;omega) (Ub _ _) ?_)
       .have:i=0:=by simpa using hi
        subst this;simp[go_sem]
       .intro v' w9 X L;have S9:Hid (AlS w _ #[H G t.seq,M a1 t.info.length c1,M a2 t.data.length c2,vr,.bool X0.h0.on,H G X0.h0.left,.bool X0.h1.on,H G X0.h1.left,.bool X0.h2.on,H G X0.h2.left] B.heap.size w9):=⟨(L.o.block _ (by omega)).trans ((kd _ _ _ X5).trans X1.o.i),(L.o.block _ (by omega)).trans ((kd _ _ _ k).trans X1.o.r),(L.o.block _ (by omega)).trans ((kd _ _ _ Y).trans X1.o.o),(vA X1.o.b (qA _ _)).trans (L.o.mono (by omega)),X1.o.l⟩;have P9:Hid (Below B.heap.size B w9):=(vA P8.o (qA _ _)).trans (L.o.mono (by omega));have A1:Hid (w9.ownsRow (B.heap.size+1) 3 1 v' (q++[(j:Int)]).length (cellsI (q++[(j:Int)]))):=by rw[Hid,Yb,AF];exact X.o
        obtain⟨X2,A6⟩:∃X2,X2=q++[(j:Int)]:=⟨_,rfl⟩;rw[<-A6]at A1 A2;clear X L A6;obtain⟨p9,r9,rfl,_,_⟩:=SegI.of_owns A1.o;clear Q X1 P8;clear x y U z zf X5 k Y;obtain⟨x,y,U,z,zf,X5,k,Y⟩:=S9.o.all;go_wp2
        go_roundw
        case rel=>exact⟨j+1,by omega,by go_num,_,S9.o.set 3 _ rfl,by rw[A2.o];exact Jc A1.o (by simp) _,P9.o.setCell (Sb _) _⟩
        case measure=>simp[intOf];omega
    .have e:j=12:=by omega
     subst e;rw[EW RR.o S2 O6]at Q;obtain⟨p3,r3,rfl,V9,g3⟩:=SegI.of_owns Q.o;have O3:=zA (DD Q.o);have N:=iL id t.rev n n;have hd1:=kM (·.1) t.info n;have hd2:=kM (·.1) t.data n;have f3:From (w.heap.size+2) p3:=λx o e=>by have:=g3 x o e;omega
     go_wp2_with fail;rename_i KK E0
     have H2:∀(g0 g1 g2 g3 g4 g5 g6 g7 g8 g9 O8 U5 Q8 J1 S0 J6 P0 Q4 R6 Q5 N8 P6 L6 P7 O1 L0 R0 T0 K7 U6 K3 M4 S1 T4 O9 M3 T9 R4 T3 L9 N2 S7 T5 Q6 L2 N9 J2 M2 M6 L5 N6 T8 M7 K6 J3 M0 U8 K9 J9 O5 N0 J5 J7 U2 Q9 S5 N5 K5 N4 J8 L1 M8 J4 S6 L3 K4 Q0 R7 N7 N1 P1 U1 R8 K8 R5 O7 O0 T7 L4 O4 T6 U4 M5 U0 P2 U7 Q7 R9 I9 B6 B7 E7 E4 H8 C9 B2 C4 E3 D5 B8 I7 I4 H4 F6 E6 B4 G4 H6 B9 D7 D6 D9 F4 G2 D8 C1 B5 G5 H9 E9 I8 F9 E1 E5 I0 G9 D4 G1 F0 C8 G0 E8 C3 F8 D2 I1 A9 G7 D3 H3 I5 C5 D1 G8 C2 I6 F7 H7 G3 C6:E) (W3:K) (p1:Option Addr) (q1:Nat) (p2:Option Addr) (X2:Nat) (V0:Array E),AlS w V0 #[H G t.seq,M p1 (dropAt (·.1) t.info n).length q1,M p2 (dropAt (·.1) t.data n).length X2,M p3 (putAt id t.rev n n).length r3,.bool X0.h0.on,H G X0.h0.left,.bool X0.h1.on,H G X0.h1.left,.bool X0.h2.on,H G X0.h2.left] B.heap.size W3->SegW W3 p1 (dropAt (·.1) t.info n)->SegW W3 p2 (dropAt (·.1) t.data n)->SegI W3 p3 (putAt id t.rev n n)->From (w.heap.size+2) p1->From (w.heap.size+2) p2->(dropAt (·.1) t.info n).length<=q1/\(dropAt (·.1) t.data n).length<=X2->KK ⟨#[g0,g1,g2,g3,g4,g5,g6,g7,g8,g9,C (J ⟨w.heap.size+1,0,Z⟩),O8,C (J ⟨B.heap.size,0,Z⟩),U5,Q8,J1,S0,J6,P0,Q4,R6,Q5,N8,P6,L6,P7,O1,L0,R0,T0,K7,U6,K3,M4,S1,T4,O9,M3,T9,R4,T3,L9,N2,S7,T5,Q6,L2,N9,J2,M2,M6,L5,N6,T8,M7,K6,J3,M0,U8,K9,J9,O5,N0,J5,J7,U2,Q9,S5,N5,K5,N4,J8,L1,M8,J4,S6,L3,K4,Q0,R7,N7,N1,P1,U1,R8,K8,R5,O7,O0,T7,L4,O4,T6,U4,M5,U0,P2,U7,Q7,R9,I9,B6,B7,E7,E4,H8,C9,B2,C4,E3,D5,B8,I7,I4,H4,F6,E6,B4,G4,H6,B9,D7,D6,D9,F4,G2,D8,C1,B5,G5,H9,E9,I8,F9,E1,E5,I0,G9,D4,G1,F0,C8,G0,E8,C3,F8,D2,I1,A9,G7,D3,H3,I5,C5,D1,G8,C2,I6,F7,H7,G3,C6],[]⟩ W3:=by
      intro g0 g1 g2 g3 g4 g5 g6 g7 g8 g9 O8 U5 Q8 J1 S0 J6 P0 Q4 R6 Q5 N8 P6 L6 P7 O1 L0 R0 T0 K7 U6 K3 M4 S1 T4 O9 M3 T9 R4 T3 L9 N2 S7 T5 Q6 L2 N9 J2 M2 M6 L5 N6 T8 M7 K6 J3 M0 U8 K9 J9 O5 N0 J5 J7 U2 Q9 S5 N5 K5 N4 J8 L1 M8 J4 S6 L3 K4 Q0 R7 N7 N1 P1 U1 R8 K8 R5 O7 O0 T7 L4 O4 T6 U4 M5 U0 P2 U7 Q7 R9 I9 B6 B7 E7 E4 H8 C9 B2 C4 E3 D5 B8 I7 I4 H4 F6 E6 B4 G4 H6 B9 D7 D6 D9 F4 G2 D8 C1 B5 G5 H9 E9 I8 F9 E1 E5 I0 G9 D4 G1 F0 C8 G0 E8 C3 F8 D2 I1 A9 G7 D3 H3 I5 C5 D1 G8 C2 I6 F7 H7 G3 C6 W3 p1 q1 p2 X2 V0 s3 k1 k2 k3 k4 k5 k6;apply E0;clear E0 x y U z zf X5 k Y;obtain⟨x,y,U,z,zf,X5,k,Y⟩:=s3.all;have k1:=zA k1;have k2:=zA k2;have k3:=zA k3;have k6:=zA k6;have S3:=zA s3;clear s3;go_wp2
      refine Tb (by simp[results,results90,go_sem,y];rfl) rfl ⟨_,by rw[X6.o],?_,.inr (by
       rw[E2.o];refine XJ (m:=w.heap.size) (T:=⟨t.seq,(dropAt (·.1) t.info n),(dropAt (·.1) t.data n),(putAt id t.rev n n),_,_,_⟩) (W:=W3) ?_ k1.o k2.o k3.o k4 k5 f3 (by dsimp only;omega) (by dsimp only;omega) (by dsimp only;omega) k6.o.1 k6.o.2 O3.o
       iterate 10 (refine Over.set ?_ (by simp) _)
       exact⟨rfl,λ_ _=>rfl⟩)⟩
      iterate 10 (refine Zb ?_ (by simp) _)
      exact S3.o.b
     have J0:=zA H2;clear H2 E0;refine(show∀A0:Act,A0=_->Code.wp prog _ _ A0 _ from λA0 X4=>?_) _ rfl;have R:A0.tmps.size=162:=by rw[X4];rfl
     have V2:A0.defers=[]:=by rw[X4]
     have v3:A0.eval (.tmp 3)=H G n:=by rw[X4];rfl
     have v6:A0.eval (.tmp 6)=C (J ⟨w.heap.size,0,Z⟩):=by rw[X4];rfl
     have V4:A0.eval (.tmp 10)=C (J ⟨w.heap.size+1,0,Z⟩):=by rw[X4];rfl
     have U3:A0.eval (.tmp 12)=C (J ⟨B.heap.size,0,Z⟩):=by rw[X4];rfl
     clear X4;refine nI 9 (λw'=>Below wr.heap.size wr w') [151,152,153,154,155,156,157,158,159] (sD w.heap.size B.heap.size n t a c b d wr.heap.size) (by kernel_rfl) (by kernel_rfl) (by kernel_rfl) (by kernel_rfl) (by decide) ((Ub _ _).drew) ⟨?_,?_,?_,?_,?_,?_,?_,?_,?_,trivial⟩ ?_
     .intro T1 w' F W9 N;have z6:=(F.other 6 rfl).trans v6;refine mC (C (J ⟨w.heap.size,1,Z⟩)) rfl rfl (by revert z6;generalize T1.eval=ρ;intro z6;simp only[execOp];go_simp) ⟨_,rfl,W9,?_,λ_ _ _ h=>h⟩;show sD _ _ _ _ _ _ _ _ _ _ ((T1.put (J 151) _).eval (.tmp 151)) w';rw[bB F R (by decide)];exact rfl
     .intro T1 w' F W9 N;have H5:T1.eval (.tmp 151)=C (J ⟨w.heap.size,1,Z⟩):=N ⟨0,.data⟩ (by simp) rfl;have c0:w'.cell? ⟨w.heap.size,1,Z⟩=J (M a t.info.length c):=((kA (X1.o.below W9).i).1 1).trans rfl;refine mC (M a t.info.length c) rfl rfl (by revert H5;generalize T1.eval=ρ;intro H5;simp only[execOp];go_simp) ⟨_,rfl,W9,?_,λ_ _ _ h=>h⟩;show sD _ _ _ _ _ _ _ _ _ _ ((T1.put (J 152) _).eval (.tmp 152)) w';rw[bB F R (by decide)];exact rfl
     .intro T1 w' F W9 N;have z3:=(F.other 3 rfl).trans v3;refine mC (H G n) rfl rfl (by revert z3;generalize T1.eval=ρ;intro z3;simp only[execOp];go_simp) ⟨_,rfl,W9,?_,λ_ _ _ h=>h⟩;show sD _ _ _ _ _ _ _ _ _ _ ((T1.put (J 153) _).eval (.tmp 153)) w';rw[bB F R (by decide)];exact rfl
     .intro T1 w' F W9 N;have I3:T1.eval (.tmp 152)=M a t.info.length c:=N ⟨1,.data⟩ (by simp) rfl;have B3:T1.eval (.tmp 153)=H G n:=N ⟨2,.data⟩ (by simp) rfl;refine cE 82 #[M a t.info.length c,H G n] rfl rfl (by have pf:=Act.eval_func T1 82;revert I3 B3 pf;generalize T1.eval=ρ;intro I3 B3 pf;simp only[execOp];go_simp) _ (LJ a c t.info n w' (u.o.1.below (X1.o.below W9).b) (by omega)) ?_;rintro _ w4 ⟨v2,rfl,A3,D⟩;refine⟨_,rfl,_,rfl,vA W9 D,?_,GP D⟩;show sD _ _ _ _ _ _ _ _ _ _ ((T1.put (J 154) _).eval (.tmp 154)) w4;rw[bB F R (by decide)];rw[QO RI.o n]at A3;obtain⟨p,q,rfl,h1,h2⟩:=SegC.of_owns A3;exact⟨p,q,rfl,h1,From.mono h2 W9.size,DD A3⟩
     .intro T1 w' F W9 N;have z6:=(F.other 6 rfl).trans v6;refine mC (C (J ⟨w.heap.size,2,Z⟩)) rfl rfl (by revert z6;generalize T1.eval=ρ;intro z6;simp only[execOp];go_simp) ⟨_,rfl,W9,?_,λ_ _ _ h=>h⟩;show sD _ _ _ _ _ _ _ _ _ _ ((T1.put (J 155) _).eval (.tmp 155)) w';rw[bB F R (by decide)];exact rfl
     .intro T1 w' F W9 N;have B1:T1.eval (.tmp 155)=C (J ⟨w.heap.size,2,Z⟩):=N ⟨4,.data⟩ (by simp) rfl;have c0:w'.cell? ⟨w.heap.size,2,Z⟩=J (M b t.data.length d):=((kA (X1.o.below W9).i).1 2).trans rfl;refine mC (M b t.data.length d) rfl rfl (by revert B1;generalize T1.eval=ρ;intro B1;simp only[execOp];go_simp) ⟨_,rfl,W9,?_,λ_ _ _ h=>h⟩;show sD _ _ _ _ _ _ _ _ _ _ ((T1.put (J 156) _).eval (.tmp 156)) w';rw[bB F R (by decide)];exact rfl
     .intro T1 w' F W9 N;have z3:=(F.other 3 rfl).trans v3;refine mC (H G n) rfl rfl (by revert z3;generalize T1.eval=ρ;intro z3;simp only[execOp];go_simp) ⟨_,rfl,W9,?_,λ_ _ _ h=>h⟩;show sD _ _ _ _ _ _ _ _ _ _ ((T1.put (J 157) _).eval (.tmp 157)) w';rw[bB F R (by decide)];exact rfl
     .intro T1 w' F W9 N;have B0:T1.eval (.tmp 156)=M b t.data.length d:=N ⟨5,.data⟩ (by simp) rfl;have C0:T1.eval (.tmp 157)=H G n:=N ⟨6,.data⟩ (by simp) rfl;refine cE 82 #[M b t.data.length d,H G n] rfl rfl (by have pf:=Act.eval_func T1 82;revert B0 C0 pf;generalize T1.eval=ρ;intro B0 C0 pf;simp only[execOp];go_simp) _ (LJ b d t.data n w' (u.o.2.1.below (X1.o.below W9).b) (by omega)) ?_;rintro _ w4 ⟨v2,rfl,A3,D⟩;refine⟨_,rfl,_,rfl,vA W9 D,?_,GP D⟩;show sD _ _ _ _ _ _ _ _ _ _ ((T1.put (J 158) _).eval (.tmp 158)) w4;rw[bB F R (by decide)];rw[QO RD.o n]at A3;obtain⟨p,q,rfl,h1,h2⟩:=SegC.of_owns A3;exact⟨p,q,rfl,h1,From.mono h2 W9.size,DD A3⟩
     .intro T1 w' F W9 N;have N3:=(F.other 12 rfl).trans U3;refine mC (C (J ⟨B.heap.size,1,Z⟩)) rfl rfl (by revert N3;generalize T1.eval=ρ;intro N3;simp only[execOp];go_simp) ⟨_,rfl,W9,?_,λ_ _ _ h=>h⟩;show sD _ _ _ _ _ _ _ _ _ _ ((T1.put (J 159) _).eval (.tmp 159)) w';rw[bB F R (by decide)];exact rfl
     .intro aa W F W9 N;obtain⟨p1,q1,e1,s1,g1,o1⟩:∃p q,aa.eval (.tmp 154)=M p (dropAt (·.1) t.info n).length q/\SegW W p (dropAt (·.1) t.info n)/\From wr.heap.size p/\(dropAt (·.1) t.info n).length<=q:=N 3 (by decide);obtain⟨p2,X2,e2,s2,g2,o2⟩:∃p q,aa.eval (.tmp 158)=M p (dropAt (·.1) t.data n).length q/\SegW W p (dropAt (·.1) t.data n)/\From wr.heap.size p/\(dropAt (·.1) t.data n).length<=q:=N 7 (by decide);have V5:aa.tmps.size=162:=F.size.trans R;have V6:aa.eval (.tmp 10)=C (J ⟨w.heap.size+1,0,Z⟩):=(F.other 10 rfl).trans V4;have V8:aa.eval (.tmp 12)=C (J ⟨B.heap.size,0,Z⟩):=(F.other 12 rfl).trans U3;have sW:=X1.o.below W9;have u0:aa.eval (.tmp 159)=C (J ⟨B.heap.size,1,Z⟩):=N 8 (by decide);obtain⟨S,X3⟩:∃S,S=aa:=⟨_,rfl⟩;have u1:S.eval (.tmp 159)=C (J ⟨B.heap.size,1,Z⟩):=by rw[X3];exact u0
      have u2:S.eval (.tmp 154)=M p1 (dropAt (·.1) t.info n).length q1:=by rw[X3];exact e1
      have u3:S.eval (.tmp 158)=M p2 (dropAt (·.1) t.data n).length X2:=by rw[X3];exact e2
      have u4:S.eval (.tmp 12)=C (J ⟨B.heap.size,0,Z⟩):=by rw[X3];exact V8
      have u5:S.eval (.tmp 10)=C (J ⟨w.heap.size+1,0,Z⟩):=by rw[X3];exact V6
      have u6:S.tmps.size=162:=by rw[X3];exact V5
      have u7:S.defers=[]:=by rw[X3];exact F.defers.trans V2
      obtain⟨d1,hd1⟩:∃d1,d1=(dropAt (·.1) t.info n).length:=⟨_,rfl⟩;obtain⟨d2,hd2⟩:∃d2,d2=(dropAt (·.1) t.data n).length:=⟨_,rfl⟩;have C7:=sW.set 1 (M p1 (dropAt (·.1) t.info n).length q1) rfl;have G6:=C7.set 2 (M p2 (dropAt (·.1) t.data n).length X2) rfl;rw[<-hd1]at u2;rw[<-hd2]at u3;show wpOps prog _ _ [9,10,11] aa W;rw[<-X3,Zd];clear X3;obtain⟨y1,W7⟩:=kA sW.o;refine IG rfl rfl (w':=W.setCell ⟨B.heap.size,1,Z⟩ (M p1 d1 q1)) (by clear C7 G6 s1 s2;revert u1 u2;generalize S.eval=ρ;intro u1 u2;simp only[execOp];go_simp) ?_;show wpOps prog _ _ [10,11] S _;rw[Zd];refine mC (C (J ⟨B.heap.size,2,Z⟩)) rfl rfl (by revert u4;generalize S.eval=ρ;intro u4;simp only[execOp];go_simp) ?_;obtain⟨S8,D⟩:∃S8,S8=S.put (J 160) (C (J ⟨B.heap.size,2,Z⟩)):=⟨_,rfl⟩;have t1:S8.eval (.tmp 160)=C (J ⟨B.heap.size,2,Z⟩):=by rw[D];exact Act.eval_put_same _ _ _ (by rw[u6];decide)
      have t3:S8.eval (.tmp 158)=M p2 d2 X2:=by rw[D,Act.eval_put_ne _ _ _ _ (by decide)];exact u3
      have t4:S8.eval (.tmp 12)=C (J ⟨B.heap.size,0,Z⟩):=by rw[D,Act.eval_put_ne _ _ _ _ (by decide)];exact u4
      have t5:S8.eval (.tmp 10)=C (J ⟨w.heap.size+1,0,Z⟩):=by rw[D,Act.eval_put_ne _ _ _ _ (by decide)];exact u5
      have t6:S8.tmps.size=162:=by rw[D,Act.size_put];exact u6
      have t7:S8.defers=[]:=by rw[D];exact u7
      show wpOps prog _ _ [11] (S.put (J 160) (C (J ⟨B.heap.size,2,Z⟩))) _;rw[<-D,Zd];clear D;refine IG rfl rfl (w':=(W.setCell ⟨B.heap.size,1,Z⟩ (M p1 d1 q1)).setCell ⟨B.heap.size,2,Z⟩ (M p2 d2 X2)) (by clear C7 G6 s1 s2;revert t1 t3;generalize S8.eval=ρ;intro t1 t3;simp only[execOp];go_simp) ?_;rw[hd1,hd2];show KK S8 _;have A7:S8=⟨#[_,_,_,_,_,_,_,_,_,_,_,_,_,_,_,_,_,_,_,_,_,_,_,_,_,_,_,_,_,_,_,_,_,_,_,_,_,_,_,_,_,_,_,_,_,_,_,_,_,_,_,_,_,_,_,_,_,_,_,_,_,_,_,_,_,_,_,_,_,_,_,_,_,_,_,_,_,_,_,_,_,_,_,_,_,_,_,_,_,_,_,_,_,_,_,_,_,_,_,_,_,_,_,_,_,_,_,_,_,_,_,_,_,_,_,_,_,_,_,_,_,_,_,_,_,_,_,_,_,_,_,_,_,_,_,_,_,_,_,_,_,_,_,_,_,_,_,_,_,_,_,_,_,_,_,_,_,_,_,_,_,_],[]⟩:=MG S8 162 t6 t7;dsimp only at A7;rw[t4,t5]at A7;have ne:∀q,wr.heap.size<=q->q≠B.heap.size:=λq hq=>by omega
      exact(congrArg (λy=>KK y _) A7).mpr (J0.o (S8.eval (.tmp 0)) (S8.eval (.tmp 1)) (S8.eval (.tmp 2)) (S8.eval (.tmp 3)) (S8.eval (.tmp 4)) (S8.eval (.tmp 5)) (S8.eval (.tmp 6)) (S8.eval (.tmp 7)) (S8.eval (.tmp 8)) (S8.eval (.tmp 9)) (S8.eval (.tmp 11)) (S8.eval (.tmp 13)) (S8.eval (.tmp 14)) (S8.eval (.tmp 15)) (S8.eval (.tmp 16)) (S8.eval (.tmp 17)) (S8.eval (.tmp 18)) (S8.eval (.tmp 19)) (S8.eval (.tmp 20)) (S8.eval (.tmp 21)) (S8.eval (.tmp 22)) (S8.eval (.tmp 23)) (S8.eval (.tmp 24)) (S8.eval (.tmp 25)) (S8.eval (.tmp 26)) (S8.eval (.tmp 27)) (S8.eval (.tmp 28)) (S8.eval (.tmp 29)) (S8.eval (.tmp 30)) (S8.eval (.tmp 31)) (S8.eval (.tmp 32)) (S8.eval (.tmp 33)) (S8.eval (.tmp 34)) (S8.eval (.tmp 35)) (S8.eval (.tmp 36)) (S8.eval (.tmp 37)) (S8.eval (.tmp 38)) (S8.eval (.tmp 39)) (S8.eval (.tmp 40)) (S8.eval (.tmp 41)) (S8.eval (.tmp 42)) (S8.eval (.tmp 43)) (S8.eval (.tmp 44)) (S8.eval (.tmp 45)) (S8.eval (.tmp 46)) (S8.eval (.tmp 47)) (S8.eval (.tmp 48)) (S8.eval (.tmp 49)) (S8.eval (.tmp 50)) (S8.eval (.tmp 51)) (S8.eval (.tmp 52)) (S8.eval (.tmp 53)) (S8.eval (.tmp 54)) (S8.eval (.tmp 55)) (S8.eval (.tmp 56)) (S8.eval (.tmp 57)) (S8.eval (.tmp 58)) (S8.eval (.tmp 59)) (S8.eval (.tmp 60)) (S8.eval (.tmp 61)) (S8.eval (.tmp 62)) (S8.eval (.tmp 63)) (S8.eval (.tmp 64)) (S8.eval (.tmp 65)) (S8.eval (.tmp 66)) (S8.eval (.tmp 67)) (S8.eval (.tmp 68)) (S8.eval (.tmp 69)) (S8.eval (.tmp 70)) (S8.eval (.tmp 71)) (S8.eval (.tmp 72)) (S8.eval (.tmp 73)) (S8.eval (.tmp 74)) (S8.eval (.tmp 75)) (S8.eval (.tmp 76)) (S8.eval (.tmp 77)) (S8.eval (.tmp 78)) (S8.eval (.tmp 79)) (S8.eval (.tmp 80)) (S8.eval (.tmp 81)) (S8.eval (.tmp 82)) (S8.eval (.tmp 83)) (S8.eval (.tmp 84)) (S8.eval (.tmp 85)) (S8.eval (.tmp 86)) (S8.eval (.tmp 87)) (S8.eval (.tmp 88)) (S8.eval (.tmp 89)) (S8.eval (.tmp 90)) (S8.eval (.tmp 91)) (S8.eval (.tmp 92)) (S8.eval (.tmp 93)) (S8.eval (.tmp 94)) (S8.eval (.tmp 95)) (S8.eval (.tmp 96)) (S8.eval (.tmp 97)) (S8.eval (.tmp 98)) (S8.eval (.tmp 99)) (S8.eval (.tmp 100)) (S8.eval (.tmp 101)) (S8.eval (.tmp 102)) (S8.eval (.tmp 103)) (S8.eval (.tmp 104)) (S8.eval (.tmp 105)) (S8.eval (.tmp 106)) (S8.eval (.tmp 107)) (S8.eval (.tmp 108)) (S8.eval (.tmp 109)) (S8.eval (.tmp 110)) (S8.eval (.tmp 111)) (S8.eval (.tmp 112)) (S8.eval (.tmp 113)) (S8.eval (.tmp 114)) (S8.eval (.tmp 115)) (S8.eval (.tmp 116)) (S8.eval (.tmp 117)) (S8.eval (.tmp 118)) (S8.eval (.tmp 119)) (S8.eval (.tmp 120)) (S8.eval (.tmp 121)) (S8.eval (.tmp 122)) (S8.eval (.tmp 123)) (S8.eval (.tmp 124)) (S8.eval (.tmp 125)) (S8.eval (.tmp 126)) (S8.eval (.tmp 127)) (S8.eval (.tmp 128)) (S8.eval (.tmp 129)) (S8.eval (.tmp 130)) (S8.eval (.tmp 131)) (S8.eval (.tmp 132)) (S8.eval (.tmp 133)) (S8.eval (.tmp 134)) (S8.eval (.tmp 135)) (S8.eval (.tmp 136)) (S8.eval (.tmp 137)) (S8.eval (.tmp 138)) (S8.eval (.tmp 139)) (S8.eval (.tmp 140)) (S8.eval (.tmp 141)) (S8.eval (.tmp 142)) (S8.eval (.tmp 143)) (S8.eval (.tmp 144)) (S8.eval (.tmp 145)) (S8.eval (.tmp 146)) (S8.eval (.tmp 147)) (S8.eval (.tmp 148)) (S8.eval (.tmp 149)) (S8.eval (.tmp 150)) (S8.eval (.tmp 151)) (S8.eval (.tmp 152)) (S8.eval (.tmp 153)) (S8.eval (.tmp 154)) (S8.eval (.tmp 155)) (S8.eval (.tmp 156)) (S8.eval (.tmp 157)) (S8.eval (.tmp 158)) (S8.eval (.tmp 159)) (S8.eval (.tmp 160)) (S8.eval (.tmp 161)) _ p1 q1 p2 X2 _ G6 ((s1.setNe (λx o e=>ne x (g1 x o e)) _).setNe (λx o e=>ne x (g1 x o e)) _) ((s2.setNe (λx o e=>ne x (g2 x o e)) _).setNe (λx o e=>ne x (g2 x o e)) _) (((V9.below W9).setNe (λx o e=>by have:=g3 x o e;show x≠B.heap.size;omega) _).setNe (λx o e=>by have:=g3 x o e;show x≠B.heap.size;omega) _) (From.mono g1 (by omega)) (From.mono g2 (by omega)) ⟨o1,o2⟩)
section
variable {w w' W:World} {R b k:Nat} {X Y:List Nat} {j:Jn} {V:Sl} {cs:Array Value} {t:TypeId} {v:Value}
theorem aC{o:Obj}(h:w.heap.size=n):(w.alloc o).heap[n]?=J o:=by rw[<-h];exact Cc _ _
theorem BD(j:Jn)(V:Sl)(hb:b<12):(fA j V)[26+b]?=J (H G (j.role b)):=rF (p:=λb=>(fA j V)[26+b]?=J (H G (j.role b))) ⟨rfl,rfl,rfl,rfl,rfl,rfl,rfl,rfl,rfl,rfl,rfl,rfl⟩ hb
theorem GE(j:Jn)(V:Sl)(hb:b<12):(fA j V)[38+b]?=J (H G (j.freed b)):=rF (p:=λb=>(fA j V)[38+b]?=J (H G (j.freed b))) ⟨rfl,rfl,rfl,rfl,rfl,rfl,rfl,rfl,rfl,rfl,rfl,rfl⟩ hb
theorem VS(j:Jn)(V:Sl)(x:Int)(hb:b<12):(fA j V).setIfInBounds (26+b) (H G x)=fA {j with role:=ZA j.role b x} V:=rF (p:=λb:Nat=>(fA j V).setIfInBounds (26+b) (H G x)=fA {j with role:=ZA j.role b x} V) (by refine⟨?_,?_,?_,?_,?_,?_,?_,?_,?_,?_,?_,?_⟩<;>kernel_rfl) hb
theorem QZ(j:Jn)(V:Sl)(x:Int)(hb:b<12):(fA j V).setIfInBounds (38+b) (H G x)=fA {j with freed:=ZA j.freed b x} V:=rF (p:=λb:Nat=>(fA j V).setIfInBounds (38+b) (H G x)=fA {j with freed:=ZA j.freed b x} V) (by refine⟨?_,?_,?_,?_,?_,?_,?_,?_,?_,?_,?_,?_⟩<;>kernel_rfl) hb
end
structure RS (w:World)(R:Nat)(X:List Nat)(j:Jn)(V:Sl)(W:World):Prop where
 x:R∈X
 b:ButL [R] w.heap.size w W
 k:W.heap[R]?=some (.cells (fA j V) 59 (0,0))
 r:RowsR (aA W X) j V
section
variable {w W W':World} {R:Nat} {X:List Nat} {j j':Jn} {V V':Sl}
theorem RAt.rs(h:RAt w R X j):∃V,RS w R X j V w:=by
 obtain⟨A,V,B,C⟩:=h;exact⟨V,A,ButL.refl _ _ _,B,C⟩
theorem RAt.rs2(h:RAt w R X j)(o:Obj):∃V,RS w R (w.heap.size::X) j V (w.alloc o):=by
 obtain⟨A,V,B,C⟩:=h.more (qA w o) (Sb _);exact⟨V,A,ButL.of_below (qA _ _),B,C⟩
theorem RS.at(h:RS w R X j V W):RAt W R X j:=⟨h.x,V,h.k,h.r⟩
theorem RS.lt(h:RS w R X j V W):R<W.heap.size:=(Wb.1 h.k).1
theorem RS.below(h:RS w R X j V W)(hb:Below W.heap.size W W'):RS w R X j V W':=⟨h.x,h.b.trans (Y:=[]) (ButL.of_below hb) h.b.size (by simp),yA hb h.lt h.k,h.r.ext (Ext.freshL hb)⟩
theorem RS.set(h:RS w R X j V W)(D:ButL [R] W.heap.size W W')(Q:W'.heap[R]?=J (T cs 59 (0,0)))(p:RowsR (aA W X) j V->Ext (aA W X) (aA W' X)->RowsR (aA W' X) j' V')(i:cs=fA j' V'):RS w R X j' V' W':=
 ⟨h.x,h.b.trans D h.b.size (by simp),by rw[<-i];exact Q,p h.r (Ext.butL (D.wider (by simpa using h.x)))⟩
theorem RS.reply(h:RS w R (w.heap.size::X) j V W)(D:R∈X)(A0:R<w.heap.size)(x y z:E):RAt (((W.setCell ⟨w.heap.size,0,Z⟩ x).setCell ⟨w.heap.size,1,Z⟩ y).setCell ⟨w.heap.size,2,Z⟩ z) R X j/\ButL [R] w.heap.size w (((W.setCell ⟨w.heap.size,0,Z⟩ x).setCell ⟨w.heap.size,1,Z⟩ y).setCell ⟨w.heap.size,2,Z⟩ z):=by
 have A:R≠w.heap.size:=by omega
 have hb:ButL (w.heap.size::X) W.heap.size W (((W.setCell ⟨w.heap.size,0,Z⟩ x).setCell ⟨w.heap.size,1,Z⟩ y).setCell ⟨w.heap.size,2,Z⟩ z):=(((ButL.refl _ _ _).set (.inl (by simp)) 0 x).set (.inl (by simp)) 1 y).set (.inl (by simp)) 2 z;exact⟨⟨D,V,CB (CB (CB h.k A) A) A,(h.r.ext (Ext.butL hb)).ext (Ext.lessL _)⟩,((h.b.set (.inr (Sb _)) 0 x).set (.inr (Sb _)) 1 y).set (.inr (Sb _)) 2 z⟩
theorem UJ(h:RAt W R X q/\ButL [R] w.heap.size w W):RAt W.drew R X q/\ButL [R] w.heap.size w W.drew:=⟨h.1.below (Ub _ _).drew,⟨h.2.os,h.2.tape,h.2.output,h.2.size,h.2.block⟩⟩
theorem RS.disk(h:RS w R X j V W){b:Option Addr}{e:Nat}(D:IsDk (aA W X) (.agg #[M a d.safe.length c,M b d.wr.length e]) d):RS w R X {j with disk:=d} {V with da:=a,dc:=c,db:=b,dd:=e} ((W.setCell ⟨R,0,Z⟩ (M a d.safe.length c)).setCell ⟨R,1,Z⟩ (M b d.wr.length e)):=
 h.set (by(iterate 2 refine ButL.set ?_ (.inl (by simp)) _ _);exact ButL.refl _ _ _) (by(iterate 2 apply XB);exact h.k) (λr E=>⟨D.ext E,(r.ext E).now,(r.ext E).sealed,(r.ext E).done,(r.ext E).found,(r.ext E).steps,r.cap,r.room⟩) (by kernel_rfl)
theorem ZK{s:St}{r:List St}(h:j.steps=s::r):wkR j≠0:=by
 unfold wkR;rw[Qb (by rw[h];simp)]
 repeat' split
 all_goals decide
theorem IY{s:St}{r:List St}(h:j.steps=s::r)(D:j.work=6\/j.work=7\/j.work=11):wkR j=1/\j.work=6\/wkR j=2/\j.work=7\/wkR j=3/\j.work=11:=by
 unfold wkR;rw[Qb (by rw[h];simp)];rcases D with e|e|e<;>rw[e]<;>simp
theorem Fa{s:St}{r:List St}(h:j.steps=s::r)(D:¬r=[])(d:Dk):wkR {j with disk:=d,steps:=r}=wkR j:=by
 have A:¬j.steps=[]:=by rw[h];simp
 simp only[wkR,D,A,if_false]
theorem RS.ended(h:RS w R X j V W)(a:Option Addr)(c:Nat):RS w R X {j with steps:=[]} {V with ta:=a,tc:=c} ((W.setCell ⟨R,51,Z⟩ (M a 0 c)).setCell ⟨R,50,Z⟩ (H G 0)):=
 h.set (by(iterate 2 refine ButL.set ?_ (.inl (by simp)) _ _);exact ButL.refl _ _ _) (by(iterate 2 apply XB);exact h.k) (λr E=>⟨(r.ext E).disk,(r.ext E).now,(r.ext E).sealed,(r.ext E).done,(r.ext E).found,.inl rfl,Vb _,r.room⟩) (by kernel_rfl)
theorem RS.home(h:RS w R X j V W):RS w R X {j with done:=[],ru:=0} {V with ca:=Z,cc:=0} ((W.setCell ⟨R,4,Z⟩ (H G 0)).setCell ⟨R,25,Z⟩ (M Z 0 0)):=
 h.set (by(iterate 2 refine ButL.set ?_ (.inl (by simp)) _ _);exact ButL.refl _ _ _) (by(iterate 2 apply XB);exact h.k) (λr E=>⟨(r.ext E).disk,(r.ext E).now,(r.ext E).sealed,.inl rfl,(r.ext E).found,(r.ext E).steps,r.cap,r.room⟩) (by kernel_rfl)
theorem RS.lastTo(h:RS w R X j V W)(x:Int):RS w R X {j with last:=x} V (W.setCell ⟨R,55,Z⟩ (H G x)):=
 h.set (by(iterate 1 refine ButL.set ?_ (.inl (by simp)) _ _);exact ButL.refl _ _ _) (by(iterate 1 apply XB);exact h.k) (λr E=>⟨(r.ext E).disk,(r.ext E).now,(r.ext E).sealed,(r.ext E).done,(r.ext E).found,(r.ext E).steps,r.cap,r.room⟩) (by kernel_rfl)
theorem RS.doneTo(h:RS w R X j V W)(D:SegTx (aA W X) a l):RS w R X {j with done:=l} {V with ca:=a,cc:=c} (W.setCell ⟨R,25,Z⟩ (M a l.length c)):=
 h.set (by(iterate 1 refine ButL.set ?_ (.inl (by simp)) _ _);exact ButL.refl _ _ _) (by(iterate 1 apply XB);exact h.k) (λr E=>⟨(r.ext E).disk,(r.ext E).now,(r.ext E).sealed,D.ext E,(r.ext E).found,(r.ext E).steps,r.cap,r.room⟩) (by kernel_rfl)
theorem RS.sealed0(h:RS w R X j V W):RS w R X {j with sealed:=gA 0} {V with sa:=Z,sc:=0,sb:=Z,sd:=0,se:=Z,sf:=0} ((((((((((W.setCell ⟨R,15,Z⟩ (H G 0)).setCell ⟨R,16,Z⟩ (M Z 0 0)).setCell ⟨R,17,Z⟩ (M Z 0 0)).setCell ⟨R,18,Z⟩ (M Z 0 0)).setCell ⟨R,19,Z⟩ (.bool O)).setCell ⟨R,20,Z⟩ (H G 0)).setCell ⟨R,21,Z⟩ (.bool O)).setCell ⟨R,22,Z⟩ (H G 0)).setCell ⟨R,23,Z⟩ (.bool O)).setCell ⟨R,24,Z⟩ (H G 0)):=
 h.set (by(iterate 10 refine ButL.set ?_ (.inl (by simp)) _ _);exact ButL.refl _ _ _) (by(iterate 10 apply XB);exact h.k) (λr E=>⟨(r.ext E).disk,(r.ext E).now,FC _ _,(r.ext E).done,(r.ext E).found,(r.ext E).steps,r.cap,r.room⟩) (by kernel_rfl)
theorem RS.all(h:RS w R X j V W)(D:RowsR (aA W X) j' V'):RS w R X j' V' (W.setRow R (fA j' V')):=
 h.set ((ButL.refl _ _ _).setRowB (.inl (by simp)) _) (Oe _ _ _ _ _ _ h.k) (λ_ E=>D.ext E) rfl
theorem RS.roles{f:Nat->Int}(h:RS w R X {j with role:=f} V W)(e:∀k,k<12->f k=g k):RS w R X {j with role:=g} V W:=by
 have A:fA {j with role:=f} V=fA {j with role:=g} V:=by
  unfold fA;dsimp only;rw[e 0 (by decide),e 1 (by decide),e 2 (by decide),e 3 (by decide),e 4 (by decide),e 5 (by decide),e 6 (by decide),e 7 (by decide),e 8 (by decide),e 9 (by decide),e 10 (by decide),e 11 (by decide)];rfl
 exact⟨h.x,h.b,by rw[<-A];exact h.k,h.r.disk,h.r.now,h.r.sealed,h.r.done,h.r.found,h.r.steps,h.r.cap,h.r.room⟩
theorem oM(f:Nat->Int)(b x y:Int):ZA (ZA f b x) b y=ZA f b y:=funext λk=>by
 unfold ZA;split<;>rfl
def sC (l:List Tx)(b:Int):Int:=LB l.reverse b
theorem lY(l:List Tx)(t:Tx)(b:Int)(h:tA t.rev b=I->(uA b t.info).isSome=O):sC (l++[t]) b=if(uA b t.info).isSome=I then 1 else if tA t.rev b=I then 0 else sC l b:=by
 unfold sC;rw[List.reverse_append,List.reverse_singleton,List.singleton_append,LB];by_cases h1:tA t.rev b=I
 .rw[Rb h1,Qb (by rw[h h1];simp),Rb h1]
 .rw[Qb h1,Qb h1]
theorem RS.role(h:RS w R X j V W)(D:n<12)(x:Int):RS w R X {j with role:=ZA j.role n x} V (W.setCell ⟨R,26+n,Z⟩ (H G x)):=
 h.set ((ButL.refl _ _ _).set (.inl (by simp)) _ _) (XB h.k) (λr E=>⟨(r.ext E).disk,(r.ext E).now,(r.ext E).sealed,(r.ext E).done,(r.ext E).found,(r.ext E).steps,r.cap,r.room⟩) (VS j V x D)
theorem RS.freed(h:RS w R X j V W)(D:n<12)(x:Int):RS w R X {j with freed:=ZA j.freed n x} V (W.setCell ⟨R,38+n,Z⟩ (H G x)):=
 h.set ((ButL.refl _ _ _).set (.inl (by simp)) _ _) (XB h.k) (λr E=>⟨(r.ext E).disk,(r.ext E).now,(r.ext E).sealed,(r.ext E).done,(r.ext E).found,(r.ext E).steps,r.cap,r.room⟩) (QZ j V x D)
theorem RS.now(h:RS w R X j V W){T:Tx}{b:Option Addr}{d:Nat}(hT:IsTx (aA W X) (txv T a c b d e f) T)(D:RoomTx (txv T a c b d e f)):RS w R X {j with now:=T} {V with na:=a,nc:=c,nb:=b,nd:=d,ne:=e,nf:=f} ((((((((((W.setCell ⟨R,5,Z⟩ (H G T.seq)).setCell ⟨R,6,Z⟩ (M a T.info.length c)).setCell ⟨R,7,Z⟩ (M b T.data.length d)).setCell ⟨R,8,Z⟩ (M e T.rev.length f)).setCell ⟨R,9,Z⟩ (.bool T.h0.on)).setCell ⟨R,10,Z⟩ (H G T.h0.left)).setCell ⟨R,11,Z⟩ (.bool T.h1.on)).setCell ⟨R,12,Z⟩ (H G T.h1.left)).setCell ⟨R,13,Z⟩ (.bool T.h2.on)).setCell ⟨R,14,Z⟩ (H G T.h2.left)):=
 h.set (by(iterate 10 refine ButL.set ?_ (.inl (by simp)) _ _);exact ButL.refl _ _ _) (by(iterate 10 apply XB);exact h.k) (λr E=>⟨(r.ext E).disk,hT.ext E,(r.ext E).sealed,(r.ext E).done,(r.ext E).found,(r.ext E).steps,r.cap,D⟩) (by kernel_rfl)
end
structure PS (w:World)(R F:Nat)(X:List Nat)(j:Jn)(V:Sl)(fc:Array Value)(a:Option Addr)(l:List Tx)(W:World):Prop where
 s:RS w R (w.heap.size::X) j V W
 k:W.heap[w.heap.size]?=some (.cells #[.int .i64 0,.int .i64 0,.string ⟨#[]⟩] 31 (0,0))
 f:W.heap[F]?=some (.cells fc 57 (0,0))
 t:SegTx (aA W (w.heap.size::X)) a l
 n:w.heap.size≠R/\F≠R
section
variable {w W W':World} {R F:Nat} {X:List Nat} {j:Jn} {V:Sl} {fc:Array Value} {a:Option Addr} {l:List Tx}
theorem PS.below(h:PS w R F X j V fc a l W)(hb:Below W.heap.size W W'):PS w R F X j V fc a l W':=
 ⟨h.s.below hb,yA hb (Wb.1 h.k).1 h.k,yA hb (Wb.1 h.f).1 h.f,h.t.ext (Ext.freshL hb),h.n⟩
theorem PS.role(h:PS w R F X j V fc a l W)(hb:b<12)(x:Int):PS w R F X {j with role:=ZA j.role b x} V fc a l (W.setCell ⟨R,26+b,Z⟩ (H G x)):=
 ⟨h.s.role hb x,CB h.k h.n.1,CB h.f h.n.2,h.t.ext (Ext.setL h.s.x _ _),h.n⟩
theorem PS.all(h:PS w R F X j V fc a l W):(∀k,W.cell? ⟨w.heap.size,k,Z⟩=#[H G 0,H G 0,A ⟨#[]⟩][k]?)/\(∀k,W.frozen? ⟨w.heap.size,k,Z⟩=O)/\(∀k,W.cell? ⟨F,k,Z⟩=fc[k]?)/\(∀k,W.frozen? ⟨R,k,Z⟩=O)/\w.heap.size<W.heap.size/\F<W.heap.size/\R<W.heap.size:=
 ⟨(kA h.k).1,(kA h.k).2,(kA h.f).1,(kA h.s.k).2,(Wb.1 h.k).1,(Wb.1 h.f).1,h.s.lt⟩
theorem PS.cell(h:PS w R F X j V fc a l W)(hb:b<12):W.cell? ⟨R,26+b,Z⟩=J (H G (j.role b)):=((kA h.s.k).1 _).trans (BD j V hb)
end
section
variable {W w:World} {X:List Nat} {t:Tx} {a b e:Option Addr} {c d f:Nat} (hT:IsTx (aA W X) (txv t a c b d e f) t) (hr:RoomTx (txv t a c b d e f)) (hX:∀x∈X,x<W.heap.size) (hg:nA t=true) (hb:Below W.heap.size W w)
include hT hr hb
theorem gK{T:Tx}(h1:T.info=t.info)(h2:T.data=t.data)(i:T.rev=t.rev)(Q:Below w.heap.size w w')(Y:List Nat)(p:∀y∈Y,y∈X\/W.heap.size<=y/\y<w.heap.size):IsTx (aA w' Y) (txv T a c b d e f) T/\RoomTx (txv T a c b d e f):=by
 obtain⟨F,A,D⟩:=RoomTx.is hr;obtain⟨B,C,E,K,J,I⟩:=IsTx.rows (hT.ext (Ext.amid (vA hb Q) λy h=>(p y h).imp_right And.left));unfold txv txc;rw[<-h1]at F B K;rw[<-h2]at A C J;rw[<-i]at D E I;exact⟨⟨a,c,b,d,e,f,rfl,B,C,E,K,J,I⟩,_,_,_,_,_,_,_,_,_,_,_,_,_,_,_,_,rfl,F,A,D⟩
include hX in
theorem AltP.post{T:Tx}{E:Int}{r:Ending}(h:AltP w (txv t a c b d e f) t T E r w'):GH W X T E w r w':=by
 obtain⟨B,C,A,h⟩:=h;refine⟨B,C,A,λY Q=>?_⟩;rcases h with⟨rfl,rfl⟩|⟨p,D⟩
 .exact gK hT hr hb rfl rfl rfl A Y Q
 .exact⟨p.hideF D.1 λy i=>by rcases Q y i with h3|h3;have:=hX y h3;have:=hb.size;omega;exact h3.2,D.2⟩
include hg
theorem wR(h n free:Int):Calls Tryz.prog 88 #[txv t a c b d e f,H G h,H G n,H G free] w (GH W X (beginT t h n free) (beginE t h n free) w):=by
 have A:(beginT t h n free).info=t.info/\(beginT t h n free).data=t.data/\(beginT t h n free).rev=t.rev:=by
  unfold beginT QB
  repeat' split
  all_goals exact⟨rfl,rfl,rfl⟩
 exact(TW t a c b d e f h n free w ((hT.ext (Ext.seenL W X)).below hb) hg).mono λ_ w' ⟨he,hb2⟩=>⟨_,he,hb2,gK hT hr hb A.1 A.2.1 A.2.2 hb2⟩
theorem SU(h:Int):Calls Tryz.prog 89 #[txv t a c b d e f,H G h] w (GH W X (stopT t h) (stopE t h) w):=by
 have A:(stopT t h).info=t.info/\(stopT t h).data=t.data/\(stopT t h).rev=t.rev:=by
  unfold stopT QB
  repeat' split
  all_goals exact⟨rfl,rfl,rfl⟩
 exact(wb t a c b d e f h w ((hT.ext (Ext.seenL W X)).below hb) hg).mono λ_ w' ⟨he,hb2⟩=>⟨_,he,hb2,gK hT hr hb A.1 A.2.1 A.2.2 hb2⟩
include hX
theorem DW(k h n:Int)(s:ByteArray)(i:oA s=I){T:Tx}{E:Int}(Q:k=0/\T=ZB t h n s/\E=changeE t h n s\/k=1/\T=xC t h n s/\E=fillE t h n s\/k=2/\T=GB t h n/\E=revokeE t h n):
  Calls Tryz.prog 90 #[H G k,txv t a c b d e f,H G h,H G n,A s] w (GH W X T E w):=by
 have p:=(hT.ext (Ext.seenL W X)).below hb;by_cases hr4:reachE t h n=0
 .rcases Q with⟨rfl,rfl,rfl⟩|⟨rfl,rfl,rfl⟩|⟨rfl,rfl,rfl⟩
  .exact(IS t a c b d e f h n s w p hg hr4 i).mono λ_ _ h=>h.post hT hr hX hb
  .exact(VY t a c b d e f h n s w p hg hr4 i).mono λ_ _ h=>h.post hT hr hX hb
  .exact(mW t a c b d e f h n s w p hg hr4 i).mono λ_ _ h=>h.post hT hr hX hb
 .have B:reachE t h n=4:=by
   unfold reachE at hr4|-;rw[Qb (by rw[hg];decide)]at hr4|-;split at hr4
   .rename_i B;rw[Rb B]
   .exact absurd rfl hr4
  have C:E=4:=by rcases Q with⟨_,_,rfl⟩|⟨_,_,rfl⟩|⟨_,_,rfl⟩<;>simp[changeE,fillE,revokeE,B]
  have D:T=t:=by
   have F:¬E=0:=by rw[C];decide
   rcases Q with⟨_,rfl,rfl⟩|⟨_,rfl,rfl⟩|⟨_,rfl,rfl⟩<;>simp only[ZB,xC,GB,F,if_false]
  exact(GR k t a c b d e f h n s T E w p hg B C D).mono λ_ _ h=>h.post hT hr hX hb
end
open Go.Proofs.Tryz
theorem bY(R:Nat)(X:List Nat)(j:Jn)(w:K)(h:RAt w R X j)(ah ab an:Int)(B2:ByteArray)(hg:nA j.now=I)(C1:0<=j.ru)(C0:j.ru<=24):
  Calls prog 42 #[C (J ⟨R,0,Z⟩),.agg #[.int G 1,.int G ah,.int G ab,.int G an,A B2]] w λe w'=>e=N (.int G (beginE j.now ah an (24 - j.ru)))/\RAt w' R X {j with now:=beginT j.now ah an (24 - j.ru)}/\ButL [R] w.heap.size w w':=by
 obtain⟨V,h⟩:=h.rs;have A3:=h.lt;have H:=zA h;clear h;go_enter func42,ntmps42;go_wp2_with fail;refine(iF _ _).mono ?_;rintro _ B5 ⟨rfl,E⟩;have l:=zA (yA E (by simp) (Cc w (T #[.int G 1,.int G ah,.int G ab,.int G an,A B2] 24)));have B8:=zA (vA (qA _ _) E);have B3:=zA (H.o.below B8.o);have m:w.heap.size<B5.heap.size:=by have:=E.size;simp at this;omega
 have A1:R<B5.heap.size:=by omega
 clear E H B8;obtain⟨x,xf⟩:=kA l.o;go_wp2;rename_i KK L;have A7:IntKind.i64.wrap (24 - j.ru)=24 - j.ru:=by rw[Bc];omega
 refine(show∀A0:Act,A0=_->Code.wp prog _ _ A0 _ from λA0 A9=>?_) _ rfl;have B7:A0.tmps.size=150:=by rw[A9];rfl
 have i:A0.defers=[]:=by rw[A9]
 have y:A0.eval (.tmp 0)=C (J ⟨R,0,Z⟩):=by rw[A9];rfl
 have z:A0.eval (.tmp 3)=C (J ⟨w.heap.size,0,Z⟩):=by rw[A9];rfl
 have v6:A0.eval (.tmp 6)=undef:=by rw[A9];rfl
 clear A9;refine YE (W:=B5) 14 6 [C (J ⟨R,0,Z⟩),C (J ⟨R,0,Z⟩),C (J ⟨R,5,Z⟩),uB j V,C (J ⟨w.heap.size,1,Z⟩),.int G ah,C (J ⟨w.heap.size,3,Z⟩),.int G an,C (J ⟨R,0,Z⟩),C (J ⟨R,0,Z⟩),C (J ⟨R,3,Z⟩),C (J ⟨R,4,Z⟩),.int G j.ru,.int G (24 - j.ru)] (.int G (beginE j.now ah an (24 - j.ru))) X (λv w=>IsTx w v (beginT j.now ah an (24 - j.ru))/\RoomTx v) 52 #[.int G 0,M Z 0 0,M Z 0 0,M Z 0 0,.bool O,.int G 0,.bool O,.int G 0,.bool O,.int G 0] (by kernel_rfl) B7 v6 (Ub _ _).drew (by kernel_rfl) (by kernel_rfl) (by kernel_rfl) ⟨?_,?_,?_,?_,?_,?_,?_,?_,?_,?_,?_,?_,?_,?_,trivial⟩ (λ_ _ _ he h=>⟨h.1.ext he,h.2⟩) (λv w h=>by obtain⟨a,c,b,d,e,f,rfl,_⟩:=h.1;exact⟨_,rfl,rfl,by simp[Value.oneCell']⟩) ?_ ?_ ?_ ?_ ?_ ?_ ?_
 iterate 14
  refine⟨rfl,⟨_,rfl,by decide,by decide⟩,λa w' B0 B4 B1=>.inl ?_⟩;have q:=(B0.other 0 rfl).trans y;have p:=(B0.other 3 rfl).trans z;have n:=Act.eval_const a;have F:=Act.eval_func a;obtain⟨c0,_⟩:=kA ((B3.o.below B4).k);unfold fA at c0;obtain⟨c1,_⟩:=kA (yA B4 m l.o)
  revert B1 q p n F
  generalize a.eval=ρ;intro B1 q p n F;simp[Region.binds]at B1;simp only[execOp,uB,List.getD_cons_succ,List.getD_cons_zero]
  go_simp
 .intro a w' B0 B4 B1;simp[Region.binds]at B1;refine⟨88,#[uB j V,.int G ah,.int G an,.int G (24 - j.ru)],?_,wR (a:=V.na) (c:=V.nc) (b:=V.nb) (d:=V.nd) (e:=V.ne) (f:=V.nf) B3.o.r.now B3.o.r.room hg B4 ah an (24 - j.ru)⟩;have F:=Act.eval_func a
  revert B1 F
  generalize a.eval=ρ;intro B1 F;simp only[execOp]
  go_simp
 rotate_left
 iterate 5 (intros;simp only[execOp];go_simp)
 intro a w2 B cs B0 u S Q hT B6 D;obtain⟨ua,uc,ub,ud,ue,uf,B9,_⟩:=id D.1;cases B9;have U:=(B0.other 0 rfl).trans y;obtain⟨g,hg,rfl⟩:=nB a 150 (B0.size.trans B7) (B0.defers.trans i);rw[hg]at S Q U;simp only[List.range,List.range.loop,List.map_cons,List.map_nil,S,Q,U];show KK _ _;apply L;obtain⟨x1,A2⟩:=kA B6;have Y:=zA (B3.o.below u);have K2:=zA (D.1.ext (Ext.lessL B));have M2:=zA D.2;have A8:¬B=R:=by omega
 have A4:=Y.o.lt;have A5:B<w2.heap.size:=(Wb.1 B6).1;obtain⟨x2,A6⟩:=kA Y.o.k;unfold fA at x2;clear B0 u B6 D S Q U hg L x xf;go_wp2;have s:=Y.o.now K2.o M2.o;exact Tb (by simp[results,results42,go_sem]) rfl ⟨rfl,s.at,s.b⟩
theorem nU(R:Nat)(X:List Nat)(j:Jn)(w:K)(h:RAt w R X j)(ah ab an:Int)(B1:ByteArray)(hg:nA j.now=I):
  Calls prog 42 #[C (J ⟨R,0,Z⟩),.agg #[.int G 5,.int G ah,.int G ab,.int G an,A B1]] w λe w'=>e=N (.int G (stopE j.now ah))/\RAt w' R X {j with now:=stopT j.now ah}/\ButL [R] w.heap.size w w':=by
 obtain⟨V,h⟩:=h.rs;have A3:=h.lt;have H:=zA h;clear h;go_enter func42,ntmps42;go_wp2_with fail;refine(iF _ _).mono ?_;rintro _ B4 ⟨rfl,E⟩;have l:=zA (yA E (by simp) (Cc w (T #[.int G 5,.int G ah,.int G ab,.int G an,A B1] 24)));have B7:=zA (vA (qA _ _) E);have B2:=zA (H.o.below B7.o);have m:w.heap.size<B4.heap.size:=by have:=E.size;simp at this;omega
 have A1:R<B4.heap.size:=by omega
 clear E H B7;obtain⟨x,xf⟩:=kA l.o;go_wp2;rename_i KK L;refine(show∀A0:Act,A0=_->Code.wp prog _ _ A0 _ from λA0 A8=>?_) _ rfl;have B6:A0.tmps.size=150:=by rw[A8];rfl
 have i:A0.defers=[]:=by rw[A8]
 have y:A0.eval (.tmp 0)=C (J ⟨R,0,Z⟩):=by rw[A8];rfl
 have z:A0.eval (.tmp 3)=C (J ⟨w.heap.size,0,Z⟩):=by rw[A8];rfl
 have v8:A0.eval (.tmp 8)=undef:=by rw[A8];rfl
 clear A8;refine YE (W:=B4) 6 8 [C (J ⟨R,0,Z⟩),C (J ⟨R,0,Z⟩),C (J ⟨R,5,Z⟩),uB j V,C (J ⟨w.heap.size,1,Z⟩),.int G ah] (.int G (stopE j.now ah)) X (λv w=>IsTx w v (stopT j.now ah)/\RoomTx v) 52 #[.int G 0,M Z 0 0,M Z 0 0,M Z 0 0,.bool O,.int G 0,.bool O,.int G 0,.bool O,.int G 0] (by kernel_rfl) B6 v8 (Ub _ _).drew (by kernel_rfl) (by kernel_rfl) (by kernel_rfl) ⟨?_,?_,?_,?_,?_,?_,trivial⟩ (λ_ _ _ he h=>⟨h.1.ext he,h.2⟩) (λv w h=>by obtain⟨a,c,b,d,e,f,rfl,_⟩:=h.1;exact⟨_,rfl,rfl,by simp[Value.oneCell']⟩) ?_ ?_ ?_ ?_ ?_ ?_ ?_
 iterate 6
  refine⟨rfl,⟨_,rfl,by decide,by decide⟩,λa w' A9 B3 B0=>.inl ?_⟩;have q:=(A9.other 0 rfl).trans y;have p:=(A9.other 3 rfl).trans z;have n:=Act.eval_const a;have F:=Act.eval_func a;obtain⟨c0,_⟩:=kA ((B2.o.below B3).k);unfold fA at c0;obtain⟨c1,_⟩:=kA (yA B3 m l.o)
  revert B0 q p n F
  generalize a.eval=ρ;intro B0 q p n F;simp[Region.binds]at B0;simp only[execOp,uB,List.getD_cons_succ,List.getD_cons_zero]
  go_simp
 .intro a w' A9 B3 B0;simp[Region.binds]at B0;refine⟨89,#[uB j V,.int G ah],?_,SU (a:=V.na) (c:=V.nc) (b:=V.nb) (d:=V.nd) (e:=V.ne) (f:=V.nf) B2.o.r.now B2.o.r.room hg B3 ah⟩;have F:=Act.eval_func a
  revert B0 F
  generalize a.eval=ρ;intro B0 F;simp only[execOp]
  go_simp
 rotate_left
 iterate 5 (intros;simp only[execOp];go_simp)
 intro a w2 B cs A9 u S Q hT B5 D;obtain⟨ua,uc,ub,ud,ue,uf,B8,_⟩:=id D.1;cases B8;have U:=(A9.other 0 rfl).trans y;obtain⟨g,hg,rfl⟩:=nB a 150 (A9.size.trans B6) (A9.defers.trans i);rw[hg]at S Q U;simp only[List.range,List.range.loop,List.map_cons,List.map_nil,S,Q,U];show KK _ _;apply L;obtain⟨x1,A2⟩:=kA B5;have Y:=zA (B2.o.below u);have K2:=zA (D.1.ext (Ext.lessL B));have M2:=zA D.2;have A7:¬B=R:=by omega
 have A4:=Y.o.lt;have A5:B<w2.heap.size:=(Wb.1 B5).1;obtain⟨x2,A6⟩:=kA Y.o.k;unfold fA at x2;clear A9 u B5 D S Q U hg L x xf;go_wp2;have s:=Y.o.now K2.o M2.o;exact Tb (by simp[results,results42,go_sem]) rfl ⟨rfl,s.at,s.b⟩
section
variable {w W W':World} {R B:Nat} {X:List Nat} {j:Jn} {V:Sl}
theorem RS.replyB(h:RS w R (B::X) j V W)(Q:R∈X)(A0:R<w.heap.size)(D:w.heap.size<=B)(x y z:E):RAt (((W.setCell ⟨B,0,Z⟩ x).setCell ⟨B,1,Z⟩ y).setCell ⟨B,2,Z⟩ z) R X j/\ButL [R] w.heap.size w (((W.setCell ⟨B,0,Z⟩ x).setCell ⟨B,1,Z⟩ y).setCell ⟨B,2,Z⟩ z):=by
 have A:R≠B:=by omega
 have hb:ButL (B::X) W.heap.size W (((W.setCell ⟨B,0,Z⟩ x).setCell ⟨B,1,Z⟩ y).setCell ⟨B,2,Z⟩ z):=(((ButL.refl _ _ _).set (.inl (by simp)) 0 x).set (.inl (by simp)) 1 y).set (.inl (by simp)) 2 z;exact⟨⟨Q,V,CB (CB (CB h.k A) A) A,(h.r.ext (Ext.butL hb)).ext (Ext.lessL _)⟩,((h.b.set (.inr D) 0 x).set (.inr D) 1 y).set (.inr D) 2 z⟩
theorem RAt.rs3(h:RAt w R X j)(Q D:Obj):∃V,RS w R ((w.heap.size+1)::X) j V ((w.alloc Q).alloc D):=by
 have hb:=vA (qA w Q) (qA _ D);obtain⟨A,V,C,B⟩:=h.more hb (Fc _);exact⟨V,A,ButL.of_below hb,C,B⟩
theorem RS.rs4(h:RS w R X j V w)(x:Int)(D Q:Obj):RS w R ((w.heap.size+1)::X) {j with acts:=x} V (((w.setCell ⟨R,56,Z⟩ (H G x)).alloc D).alloc Q):=by
 have s:=h.set (j':={j with acts:=x}) (V':=V) ((ButL.refl _ _ _).set (.inl (by simp)) _ _) (XB (k:=56) (v:=H G x) h.k) (λr E=>⟨(r.ext E).disk,(r.ext E).now,(r.ext E).sealed,(r.ext E).done,(r.ext E).found,(r.ext E).steps,r.cap,r.room⟩) (by kernel_rfl);have hz:(w.setCell ⟨R,56,Z⟩ (H G x)).heap.size=w.heap.size:=by simp[World.setCell]
 have hb:=vA (qA (w.setCell ⟨R,56,Z⟩ (H G x)) D) (qA _ Q);exact⟨Ad _ h.x,s.b.trans (Y:=[]) (ButL.of_below hb) s.b.size (by simp),yA hb s.lt s.k,s.r.ext (Ext.newL hb (by omega))⟩
theorem RS.of(h:RS w R X j V W)(D:RAt W' R X q)(hb:ButL [R] W.heap.size W W'):∃V,RS w R X q V W':=by
 obtain⟨A,V,B,C⟩:=D;exact⟨V,A,h.b.trans hb h.b.size (by simp),B,C⟩
end
open Go.Proofs.Tryz
theorem CY(s:ByteArray):oA (fitT s)=I:=by
 have:(fitT s).size=32:=by
  show(bD s).toArray.size=32;have hl:s.data.toList.length=s.size:=rfl;simp only[bD,List.size_toArray,List.length_append,List.length_take,List.length_replicate];omega
 simp[oA,this]
theorem ZJ(R:Nat)(X:List Nat)(j:Jn)(w:K)(h:RAt w R X j)(hX:∀x∈X,x<w.heap.size)(ak ah ab an:Int)(F4:ByteArray)(hg:nA j.now=I)(k:Int)(G4:ak=k+2)(T:Tx)(E:Int)(hk:k=0/\T=ZB j.now ah ab (fitT F4)/\E=changeE j.now ah ab (fitT F4)\/k=1/\T=xC j.now ah ab (fitT F4)/\E=fillE j.now ah ab (fitT F4)\/k=2/\T=GB j.now ah ab/\E=revokeE j.now ah ab)(q:Jn×Int)
  (hq:¬E=0/\q=(j,E)\/E=0/\(k=0/\(j.role ab.toNat=2/\q=(j,8)\/¬j.role ab.toNat=2/\q=({j with role:=ZA j.role ab 1,now:=T},0))\/k=1/\(j.role ab.toNat=1/\q=(j,8)\/¬j.role ab.toNat=1/\(j.last<j.freed ab.toNat/\q=(j,9)\/j.freed ab.toNat<=j.last/\q=({j with role:=ZA j.role ab 2,now:=T},0)))\/k=2/\(j.role ab.toNat=0/\q=(j,8)\/¬j.role ab.toNat=0/\q=({j with role:=ZA j.role ab 0,freed:=ZA j.freed ab T.seq,now:=T},0)))):
  Calls prog 42 #[C (J ⟨R,0,Z⟩),.agg #[.int G ak,.int G ah,.int G ab,.int G an,A F4]] w λe w'=>e=N (.int G q.2)/\RAt w' R X q.1/\ButL [R] w.heap.size w w':=by
 have HQ:=zA hq;have hs:=CY F4
 have D5:0<=k/\k<=2:=by rcases hk with⟨rfl,_⟩|⟨rfl,_⟩|⟨rfl,_⟩<;>omega
 have e1:(ak==1)=O:=by simp;omega
 have e5:(ak==5)=O:=by simp;omega
 have ew:IntKind.i64.wrap (ak - 2)=k:=by rw[Bc];omega
 clear hq G4 D5;obtain⟨V,h⟩:=h.rs;have E5:=h.lt;have H:=zA h;clear h;go_enter func42,ntmps42;go_wp2_with fail;refine(iF _ _).mono ?_;rintro _ w1 ⟨rfl,B4⟩;have KA:=zA (yA B4 (by simp) (Cc w (.cells #[.int G ak,.int G ah,.int G ab,.int G an,A F4] 24)));have C7:=zA (vA (qA _ _) B4);have H1:=zA (H.o.below C7.o);have C5:w.heap.size<w1.heap.size:=by have:=B4.size;simp at this;omega
 have E2:R<w1.heap.size:=by omega
 clear B4 H C7;obtain⟨x,F7⟩:=kA KA.o;go_wp2;rename_i KK C9;refine(show∀A0:Act,A0=_->Code.wp prog _ _ A0 _ from λA0 G0=>?_) _ rfl;have C2:A0.tmps.size=150:=by rw[G0];rfl
 have D4:A0.defers=[]:=by rw[G0]
 have v0:A0.eval (.tmp 0)=C (J ⟨R,0,Z⟩):=by rw[G0];rfl
 have v3:A0.eval (.tmp 3)=C (J ⟨w.heap.size,0,Z⟩):=by rw[G0];rfl
 have v5:A0.eval (.tmp 5)=A (fitT F4):=by rw[G0];rfl
 have C4:A0.eval (.tmp 10)=.int G k:=by rw[G0];rfl
 have D3:A0.eval (.tmp 11)=undef:=by rw[G0];rfl
 clear G0;refine YE (W:=w1) 10 11 [.int G k,C (J ⟨R,0,Z⟩),C (J ⟨R,0,Z⟩),C (J ⟨R,5,Z⟩),uB j V,C (J ⟨w.heap.size,1,Z⟩),.int G ah,C (J ⟨w.heap.size,2,Z⟩),.int G ab,A (fitT F4)] (.int G E) X (λv w=>IsTx w v T/\RoomTx v) 52 #[.int G 0,M Z 0 0,M Z 0 0,M Z 0 0,.bool O,.int G 0,.bool O,.int G 0,.bool O,.int G 0] (by kernel_rfl) C2 D3 (Ub _ _).drew (by kernel_rfl) (by kernel_rfl) (by kernel_rfl) ⟨?_,?_,?_,?_,?_,?_,?_,?_,?_,?_,trivial⟩ (λ_ _ _ he h=>⟨h.1.ext he,h.2⟩) (λv w h=>by obtain⟨a,c,b,d,e,f,rfl,_⟩:=h.1;exact⟨_,rfl,rfl,by simp[Value.oneCell']⟩) ?_ ?_ ?_ ?_ ?_ ?_ ?_
 iterate 10
  refine⟨rfl,⟨_,rfl,by decide,by decide⟩,λa w' hF hR hp=>.inl ?_⟩;have z0:=(hF.other 0 rfl).trans v0;have z3:=(hF.other 3 rfl).trans v3;have z5:=(hF.other 5 rfl).trans v5;have C1:=(hF.other 10 rfl).trans C4;have pc:=Act.eval_const a;have pf:=Act.eval_func a;obtain⟨c0,_⟩:=kA ((H1.o.below hR).k);unfold fA at c0;obtain⟨c1,_⟩:=kA (yA hR C5 KA.o)
  revert hp z0 z3 z5 C1 pc pf
  generalize a.eval=ρ;intro hp z0 z3 z5 C1 pc pf;simp[Region.binds]at hp;simp only[execOp,uB,List.getD_cons_succ,List.getD_cons_zero]
  go_simp
 .intro a w' hF hR hp;simp[Region.binds]at hp;refine⟨90,#[.int G k,uB j V,.int G ah,.int G ab,A (fitT F4)],?_,DW (a:=V.na) (c:=V.nc) (b:=V.nb) (d:=V.nd) (e:=V.ne) (f:=V.nf) H1.o.r.now H1.o.r.room (λx hx=>by have:=hX x hx;omega) hg hR k ah ab (fitT F4) hs hk⟩;have pf:=Act.eval_func a
  revert hp pf
  generalize a.eval=ρ;intro hp pf;simp only[execOp]
  go_simp
 rotate_left
 iterate 5 (intros;simp only[execOp];go_simp)
 intro a w2 B cs hF hB pT pE hT B6 B1;obtain⟨ua,uc,ub,ud,ue,uf,D1,_⟩:=id B1.1;cases D1;have f0:=(hF.other 0 rfl).trans v0;have f3:=(hF.other 3 rfl).trans v3;have C8:=(hF.other 10 rfl).trans C4;obtain⟨g,hg,rfl⟩:=nB a 150 (hF.size.trans C2) (hF.defers.trans D4);rw[hg]at pT pE f0 f3 C8;simp only[List.range,List.range.loop,List.map_cons,List.map_nil,pT,pE,f0,f3,C8];show KK _ _;apply C9;obtain⟨W4,C3⟩:∃W,W=w2:=⟨_,rfl⟩;have S4:=zA (H1.o.below hB);have B3:=zA (yA hB C5 KA.o);have B2:=zA B6;have C0:=zA (B1.1.ext (Ext.lessL B));have HM:=zA B1.2;have D6:=S4.o.lt;have B7:w.heap.size<w2.heap.size:=by have:=hB.size;omega
 have B5:B<w2.heap.size:=(Wb.1 B6).1;have E8:¬B=R:=by omega
 rw[<-C3]at S4 B3 B2 C0 D6 B7 B5|-;clear C3 hF hB B6 B1 hg C9 KA x F7 H1 pT pE;by_cases he:E=0
 rotate_left
 .have E4:(E !=0)=I:=by simpa using he
  have D7:q=(j,E):=by rcases HQ.o with⟨_,h⟩|⟨h,_⟩;exact h;exact absurd h he
  subst D7;go_wp2;exact Tb (by simp[results,results42,go_sem]) rfl ⟨rfl,S4.o.at,S4.o.b⟩
 subst he
 have D2:0<=ab/\ab<=11:=by
  rcases hk with⟨_,_,e⟩|⟨_,_,e⟩|⟨_,_,e⟩
  .exact EQ e.symm
  .exact cM e.symm
  .exact JN e.symm
 obtain⟨D,rfl⟩:∃D:Nat,ab=(D:Int):=⟨ab.toNat,by omega⟩;have F5:D<12:=by omega
 have E1:(0:Int)<=(D:Int):=by omega
 have E0:(D:Int)<12:=by omega
 clear D2 hk;have U:=((kA S4.o.k).1 (26+D)).trans (BD _ _ F5);have F9:=((kA S4.o.k).1 (38+D)).trans (GE _ _ F5);obtain⟨x,F7⟩:=kA B3.o;obtain⟨y,Q⟩:=kA B2.o;obtain⟨z,S⟩:=kA S4.o.k;unfold fA at z;go_wp2
 go_quiet (fail)
 clear U F9 S x F7 y Q z;obtain⟨G1,B9⟩:∃W,W=W4.drewN nq:=⟨_,rfl⟩;have F1:Below W4.heap.size W4 G1:=by rw[B9];exact Qc (Ub _ _) _
 have F8:=zA (S4.o.below F1);have p:=zA (yA F1 B7 B3.o);have m:=zA (yA F1 B5 B2.o);have A1:=zA (C0.o.ext (Ext.freshL F1));have E7:=F8.o.lt;have A3:w.heap.size<G1.heap.size:=Xb B7 F1.size;have A2:B<G1.heap.size:=Xb B5 F1.size;rw[<-B9];clear B9 F1 S4 B3 B2 C0;have U:=((kA F8.o.k).1 (26+D)).trans (BD _ _ F5);have F9:=((kA F8.o.k).1 (38+D)).trans (GE _ _ F5);obtain⟨x,F7⟩:=kA p.o;obtain⟨y,Q⟩:=kA m.o;obtain⟨z,S⟩:=kA F8.o.k;unfold fA at z;rw[pd]at HQ;rcases HQ.o with⟨h0,_⟩|⟨_,⟨rfl,⟨hr,rfl⟩|⟨hr,rfl⟩⟩|⟨rfl,⟨hr,rfl⟩|⟨hr,⟨hf,rfl⟩|⟨hf,rfl⟩⟩⟩|⟨rfl,⟨hr,rfl⟩|⟨hr,rfl⟩⟩⟩
 .exact absurd trivial h0
 .have A4:(j.role D==2)=I:=by simpa using hr
  clear hr HQ;go_wp2;exact Tb (by simp[results,results42,go_sem]) rfl ⟨rfl,F8.o.at,F8.o.b⟩
 .have A4:(j.role D==2)=O:=by simpa using hr
  clear hr;clear HQ;go_wp2
  go_quiet (fail)
  clear U F9 S x F7 y Q z;obtain⟨F6,G2⟩:∃W,W=G1.drewN nq:=⟨_,rfl⟩;have F1:Below G1.heap.size G1 F6:=by rw[G2];exact Qc (Ub _ _) _
  have F2:=zA (F8.o.below F1);have s:=zA (yA F1 A3 p.o);have n:=zA (yA F1 A2 m.o);have A7:=zA (A1.o.ext (Ext.freshL F1));have B8:=F2.o.lt;have i:w.heap.size<F6.heap.size:=Xb A3 F1.size;have l:B<F6.heap.size:=Xb A2 F1.size;rw[<-G2];clear G2 F1 F8 p m A1;have U:=((kA F2.o.k).1 (26+D)).trans (BD _ _ F5);have F9:=((kA F2.o.k).1 (38+D)).trans (GE _ _ F5);obtain⟨x,F7⟩:=kA s.o;obtain⟨y,Q⟩:=kA n.o;obtain⟨z,S⟩:=kA F2.o.k;unfold fA at z;go_wp2;refine(show∀W7,W7=_->Code.wp prog _ _ _ W7 from λW7 F3=>?_) _ rfl;have L:=zA (F2.o.now A7.o HM.o);rw[<-F3]at L;have F:ButL [R] F6.heap.size F6 W7:=by rw[F3];(iterate 10 refine ButL.set ?_ (.inl (by simp)) _ _);exact ButL.refl _ _ _
  have A5:=zA ((F.block _ i (by simp;omega)).trans s.o);have A6:=zA ((F.block _ l (by simp;omega)).trans n.o);have C6:=L.o.lt;have A9:w.heap.size<W7.heap.size:=Xb i F.size;have B0:B<W7.heap.size:=Xb l F.size;clear F3 F F2;clear U F9 S x F7 y Q z;have U:=((kA L.o.k).1 (26+D)).trans (BD _ _ F5);have F9:=((kA L.o.k).1 (38+D)).trans (GE _ _ F5);obtain⟨x,F7⟩:=kA A5.o;obtain⟨y,Q⟩:=kA A6.o;obtain⟨z,S⟩:=kA L.o.k;unfold fA at z
  go_region
  go_wp2;have u:=((L.o.role F5 1).below (qA _ (.cells #[.int G 1,.int G 2,.int G 0] 3))).below (Ub _ _).drew;exact Tb (by simp[results,results42,go_sem]) rfl ⟨rfl,u.at,u.b⟩
 .have A4:(j.role D==1)=I:=by simpa using hr
  clear hr HQ;go_wp2;exact Tb (by simp[results,results42,go_sem]) rfl ⟨rfl,F8.o.at,F8.o.b⟩
 .have A4:(j.role D==1)=O:=by simpa using hr
  clear hr HQ;go_wp2
  go_quiet (fail)
  clear U F9 S x F7 y Q z;obtain⟨F6,G2⟩:∃W,W=G1.drewN nq:=⟨_,rfl⟩;have F1:Below G1.heap.size G1 F6:=by rw[G2];exact Qc (Ub _ _) _
  have F2:=zA (F8.o.below F1);have s:=zA (yA F1 A3 p.o);have n:=zA (yA F1 A2 m.o);have A7:=zA (A1.o.ext (Ext.freshL F1));have B8:=F2.o.lt;have i:w.heap.size<F6.heap.size:=Xb A3 F1.size;have l:B<F6.heap.size:=Xb A2 F1.size;rw[<-G2];clear G2 F1 F8 p m A1;go_wp2;exact Tb (by simp[results,results42,go_sem]) rfl ⟨rfl,F2.o.at,F2.o.b⟩
 .have A4:(j.role D==1)=O:=by simpa using hr
  have E3:¬j.last<j.freed D:=by omega
  clear hr hf;clear HQ;go_wp2
  go_quiet (fail)
  clear U F9 S x F7 y Q z;obtain⟨F6,G2⟩:∃W,W=G1.drewN nq:=⟨_,rfl⟩;have F1:Below G1.heap.size G1 F6:=by rw[G2];exact Qc (Ub _ _) _
  have F2:=zA (F8.o.below F1);have s:=zA (yA F1 A3 p.o);have n:=zA (yA F1 A2 m.o);have A7:=zA (A1.o.ext (Ext.freshL F1));have B8:=F2.o.lt;have i:w.heap.size<F6.heap.size:=Xb A3 F1.size;have l:B<F6.heap.size:=Xb A2 F1.size;rw[<-G2];clear G2 F1 F8 p m A1;have U:=((kA F2.o.k).1 (26+D)).trans (BD _ _ F5);have F9:=((kA F2.o.k).1 (38+D)).trans (GE _ _ F5);obtain⟨x,F7⟩:=kA s.o;obtain⟨y,Q⟩:=kA n.o;obtain⟨z,S⟩:=kA F2.o.k;unfold fA at z;go_wp2;refine(show∀W7,W7=_->Code.wp prog _ _ _ W7 from λW7 F3=>?_) _ rfl;have L:=zA (F2.o.now A7.o HM.o);rw[<-F3]at L;have F:ButL [R] F6.heap.size F6 W7:=by rw[F3];(iterate 10 refine ButL.set ?_ (.inl (by simp)) _ _);exact ButL.refl _ _ _
  have A5:=zA ((F.block _ i (by simp;omega)).trans s.o);have A6:=zA ((F.block _ l (by simp;omega)).trans n.o);have C6:=L.o.lt;have A9:w.heap.size<W7.heap.size:=Xb i F.size;have B0:B<W7.heap.size:=Xb l F.size;clear F3 F F2;clear U F9 S x F7 y Q z;have U:=((kA L.o.k).1 (26+D)).trans (BD _ _ F5);have F9:=((kA L.o.k).1 (38+D)).trans (GE _ _ F5);obtain⟨x,F7⟩:=kA A5.o;obtain⟨y,Q⟩:=kA A6.o;obtain⟨z,S⟩:=kA L.o.k;unfold fA at z
  go_region
  go_wp2;have u:=((L.o.role F5 2).below (qA _ (.cells #[.int G 1,.int G 2,.int G 0] 3))).below (Ub _ _).drew;exact Tb (by simp[results,results42,go_sem]) rfl ⟨rfl,u.at,u.b⟩
 .have A4:(j.role D==0)=I:=by simpa using hr
  clear hr HQ;go_wp2;exact Tb (by simp[results,results42,go_sem]) rfl ⟨rfl,F8.o.at,F8.o.b⟩
 .have A4:(j.role D==0)=O:=by simpa using hr
  clear hr;clear HQ;go_wp2
  go_quiet (fail)
  clear U F9 S x F7 y Q z;obtain⟨F6,G2⟩:∃W,W=G1.drewN nq:=⟨_,rfl⟩;have F1:Below G1.heap.size G1 F6:=by rw[G2];exact Qc (Ub _ _) _
  have F2:=zA (F8.o.below F1);have s:=zA (yA F1 A3 p.o);have n:=zA (yA F1 A2 m.o);have A7:=zA (A1.o.ext (Ext.freshL F1));have B8:=F2.o.lt;have i:w.heap.size<F6.heap.size:=Xb A3 F1.size;have l:B<F6.heap.size:=Xb A2 F1.size;rw[<-G2];clear G2 F1 F8 p m A1;have U:=((kA F2.o.k).1 (26+D)).trans (BD _ _ F5);have F9:=((kA F2.o.k).1 (38+D)).trans (GE _ _ F5);obtain⟨x,F7⟩:=kA s.o;obtain⟨y,Q⟩:=kA n.o;obtain⟨z,S⟩:=kA F2.o.k;unfold fA at z;go_wp2;refine(show∀W7,W7=_->Code.wp prog _ _ _ W7 from λW7 F3=>?_) _ rfl;have L:=zA (F2.o.now A7.o HM.o);rw[<-F3]at L;have F:ButL [R] F6.heap.size F6 W7:=by rw[F3];(iterate 10 refine ButL.set ?_ (.inl (by simp)) _ _);exact ButL.refl _ _ _
  have A5:=zA ((F.block _ i (by simp;omega)).trans s.o);have A6:=zA ((F.block _ l (by simp;omega)).trans n.o);have C6:=L.o.lt;have A9:w.heap.size<W7.heap.size:=Xb i F.size;have B0:B<W7.heap.size:=Xb l F.size;clear F3 F F2;clear U F9 S x F7 y Q z;have U:=((kA L.o.k).1 (26+D)).trans (BD _ _ F5);have F9:=((kA L.o.k).1 (38+D)).trans (GE _ _ F5);obtain⟨x,F7⟩:=kA A5.o;obtain⟨y,Q⟩:=kA A6.o;obtain⟨z,S⟩:=kA L.o.k;unfold fA at z
  go_region
  go_wp2;have u:=((L.o.role F5 0).below (qA _ (.cells #[.int G 1,.int G 2,.int G 0] 3))).below (Ub _ _).drew;have u:=zA u;refine(show∀W8,W8=_->Code.wp prog _ _ _ W8 from λW8 G3=>?_) _ rfl;rw[<-G3]at u;have A8:ButL [R] W7.heap.size W7 W8:=by rw[G3];exact((ButL.refl _ _ _).set (.inl (by simp)) _ _).trans (Y:=[]) (ButL.of_below (qA _ _).drew) (by simp) (by simp)
  have D8:=zA ((A8.block _ A9 (by simp;omega)).trans A5.o);have D9:=zA ((A8.block _ B0 (by simp;omega)).trans A6.o);have E9:=u.o.lt;have F0:w.heap.size<W8.heap.size:=Xb A9 A8.size;have E6:B<W8.heap.size:=Xb B0 A8.size;clear G3 A8 L;clear U F9 S x F7 y Q z;have U:=((kA u.o.k).1 (26+D)).trans (BD _ _ F5);have F9:=((kA u.o.k).1 (38+D)).trans (GE _ _ F5);obtain⟨x,F7⟩:=kA D8.o;obtain⟨y,Q⟩:=kA D9.o;obtain⟨z,S⟩:=kA u.o.k;unfold fA at z
  go_region
  go_wp2;have S9:=(u.o.freed F5 T.seq).below (Ub _ _).drew;exact Tb (by simp[results,results42,go_sem]) rfl ⟨rfl,S9.at,S9.b⟩
theorem IR(R:Nat)(X:List Nat)(j:Jn)(w:K)(h:RAt w R X j)(hX:∀x∈X,x<w.heap.size)(G6:(∀s r,j.steps=s::r->dC j.disk s=0)/\(j.steps≠[]->j.work=6\/j.work=7\/j.work=11)/\j.done.length<=900/\j.fL.length<=900/\IntKind.i64.wrap (j.fN - 1)=j.fN - 1/\∀t∈j.fL,∀b,tA t.rev b=I->(uA b t.info).isSome=O):
  Calls prog 33 #[C (J ⟨R,0,Z⟩)] w (nD w R X (stepJ j)):=by
 have Q:=h.1;have HA:=zA h;have A9:=h.lt;obtain⟨V,h⟩:=h.rs2 (.cells #[H G 0,H G 0,A ⟨#[]⟩] 31);have S0:=zA h;have K0:=zA (Cc w (.cells #[H G 0,H G 0,A ⟨#[]⟩] 31));have l0:w.heap.size<(w.alloc (.cells #[H G 0,H G 0,A ⟨#[]⟩] 31)).heap.size:=by simp
 have HK:=zA G6
 have HX:Hid (∀y∈w.heap.size::X,y<w.heap.size+1):=λy hy=>by
  rcases Xc.1 hy with rfl|hy
  .omega
  .have:=hX y hy;omega
 have A1:w.heap.size≠R:=by omega
 clear h G6 hX;go_enter func33,ntmps33;obtain⟨x,xf⟩:=kA S0.o.k;unfold fA at x;obtain⟨y,G3⟩:=kA K0.o
 cases hs:j.steps with
 |nil=>
  have D3:wkR j=0:=by rw[wkR,Rb hs]
  rw[D3]at x;have E:Hid (stepJ j=(j,eA 4)):=by rw[Hid,stepJ,hs]
  clear hs D3;go_wp2;exact Tb (by simp[results,results33,go_sem];try rfl) rfl ⟨by rw[E.o];rfl,by rw[E.o];exact⟨HA.o.below (qA _ _),ButL.of_below (qA _ _)⟩⟩
 |cons s r=>
  have B5:=ZK hs;have E1:(wkR j==0)=O:=Ec.2 B5;have B6:=S0.o.r.cap;have A2:=S0.o.r.steps;rw[hs]at A2 B6 x;rcases A2 with h0|⟨tb,tq,ht,G7,U⟩
  .cases h0
  obtain⟨t0,t1,t2⟩:=U 0 (by simp)
  replace t0:=(qC t0).2
  replace t1:=(qC t1).2
  replace t2:=(qC t2).2
  simp only[Nat.zero_mul,Nat.add_zero,List.getD_cons_zero]at t0 t1 t2;rw[ht]at x;rw[Td]at B6 x;have hd0:=HK.o.1 s r hs;have A8:=zA hd0;obtain⟨n,hn⟩:∃n,n=r.length:=⟨_,rfl⟩;by_cases hk:s.1=2
  case' pos=>
   have Y:cA j.disk=I:=by
    rw[dC,Rb hk,SD]at hd0;by_cases hx:cA j.disk=I
    .exact hx
    .rw[Qb hx]at hd0;cases hd0
   have hD:Hid (wA j.disk s=⟨iC j.disk 37,[]⟩):=by rw[Hid,wA,Rb hk,MB,Rb Y]
   rw[hk]at t0;have HS:=zA hs;clear hs hd0 hk U B5;go_wp2_with fail;refine(CX (dkR j V) j.disk _ ((S0.o.r.disk.ext (Ext.seenL _ _)).below (qA _ _)) Y).mono ?_;rintro _ W4 ⟨D,rfl,hv,C8,C9⟩;rw[<-hD.o]at hv;obtain⟨da,dc,db,dd,rfl,_⟩:=id hv;have hb:=vA (qA _ _) C8;have S2:=zA (S0.o.below hb);have K4:=zA (yA hb l0 K0.o);have l4:=Xb l0 hb.size;have S4:=zA (S2.o.disk (hv.hideF C9 λy hy=>by have:=HX.o y hy;simp;omega));have m4:=S2.o.lt;clear hv hb C8 C9 x xf y G3 S0 K0 l0 t0 t1 t2 Y hD G7;obtain⟨x,xf⟩:=kA S2.o.k;unfold fA at x;rw[HS.o,ht,Td]at x;obtain⟨y,G3⟩:=kA K4.o;clear S2
  case' neg=>
   have D8:cA j.disk=I/\QA s.2.1=I/\oA s.2.2=I/\¬j.disk.wr.length=200:=by
    rw[dC,Qb hk,dB]at hd0;split at hd0
    .rename_i F8;rw[Ue]at F8;split at hd0
     .rename_i L;split at hd0
      .cases hd0
      .rename_i h3;exact⟨F8.1,F8.2,L,h3⟩
     .cases hd0
    .cases hd0
   have hD:Hid (wA j.disk s=⟨j.disk.safe,j.disk.wr++[(s.2.1,s.2.2)]⟩):=by rw[Hid,wA,Qb hk,kB,Rb (by rw[dC,Qb hk]at hd0;exact hd0)]
   have E5:(s.1==2)=O:=Ec.2 hk;have HS:=zA hs;have HP:=zA D8;clear hs hd0 hk U B5 D8;go_wp2;rename_i KK p;refine(show∀W3,W3=_->Code.wp prog _ _ _ W3 from λW3 G5=>?_) _ rfl;have B0:Below (w.alloc (.cells #[H G 0,H G 0,A ⟨#[]⟩] 31)).heap.size (w.alloc (.cells #[H G 0,H G 0,A ⟨#[]⟩] 31)) W3:=by rw[G5];exact qA _ _
   have KS:Hid (W3.heap[w.heap.size+1]?=J (.cells #[H G s.1,H G s.2.1,A s.2.2] 108 (0,0))):=by rw[G5,show w.heap.size+1=(w.alloc (.cells #[H G 0,H G 0,A ⟨#[]⟩] 31)).heap.size by simp];exact Cc _ _
   have lS:w.heap.size+1<W3.heap.size:=by rw[G5];simp
   have S3:=zA (S0.o.below B0);have K3:=zA (yA B0 l0 K0.o);have l3:=Xb l0 B0.size;clear G5 B0 x xf y G3 S0 K0 l0 t0 t1 t2 G7;refine(show∀A0:Act,A0=_->Code.wp prog _ _ A0 _ from λA0 F6=>?_) _ rfl;have F:A0.tmps.size=177:=by rw[F6];rfl
   have A3:A0.defers=[]:=by rw[F6]
   have l:A0.eval (.tmp 0)=C (J ⟨R,0,Z⟩):=by rw[F6];rfl
   have D:A0.eval (.tmp 2)=C (J ⟨w.heap.size,0,Z⟩):=by rw[F6];rfl
   have v3:A0.eval (.tmp 3)=C (J ⟨w.heap.size+1,0,Z⟩):=by rw[F6];rfl
   clear F6;refine LH (W:=W3) 15 (λW=>∃a c b e,RS w R (w.heap.size::X) {j with disk:=(wA j.disk s)} {V with da:=a,dc:=c,db:=b,dd:=e} W/\W.heap[w.heap.size]?=J (.cells #[H G 0,H G 0,A ⟨#[]⟩] 31 (0,0))/\w.heap.size<W.heap.size) (λ_=>[Is (C (J ⟨R,0,Z⟩)),Is (C (J ⟨R,0,Z⟩)),Is (C (J ⟨R,0,Z⟩)),Is (C (J ⟨R,0,Z⟩)),Is (dkR j V),Is (C (J ⟨w.heap.size+1,1,Z⟩)),Is (H G s.2.1),Is (C (J ⟨w.heap.size+1,2,Z⟩)),Is (A s.2.2),λv F5=>∃D,v=S #[D,H G 0]/\IsDk (aA F5 (w.heap.size::X)) D (wA j.disk s),λv F5=>∃D,v=S #[D,H G 0]/\IsDk (aA F5 (w.heap.size::X)) D (wA j.disk s),λv F5=>IsDk (aA F5 (w.heap.size::X)) v (wA j.disk s),Is (H G 0),Is (C (J ⟨R,0,Z⟩)),Is (C (J ⟨R,0,Z⟩))]) (by decide) (by kernel_rfl) (by kernel_rfl) (by kernel_rfl) (Ub _ _).drew ⟨?_,?_,?_,?_,?_,?_,?_,?_,?_,?_,?_,?_,?_,?_,?_,?_,trivial⟩ ?_
   iterate 9
    refine BB F (by decide) λb a F5 B hR F4=>⟨_,?_,rfl⟩
    replace hR:=hR (by kernel_rfl)
    have G1:=(B.other 0 rfl).trans l;have z3:=(B.other 3 rfl).trans v3;have F7:=Act.eval_const a;have F9:=Act.eval_func a;obtain⟨c0,_⟩:=kA ((S3.o.below hR).k);unfold fA at c0;obtain⟨c1,_⟩:=kA (yA hR lS KS.o)
    revert F4 G1 z3 F7 F9
    generalize a.eval=ρ;intro F4 G1 z3 F7 F9;simp[Region.binds,lf,Is]at F4;simp only[execOp,dkR]
    go_simp
   .refine JG F (λw F5 hb=>Holds.is (.is (.is (.is (.is (.is (.is (.is (.is (.cons (.cons (.cons (.is (.is (.is .nil))) (λ_ h=>h.ext (Ext.freshL hb))) (λ_ ⟨D,F8,L⟩=>⟨D,F8,L.ext (Ext.freshL hb)⟩)) (λ_ ⟨D,F8,L⟩=>⟨D,F8,L.ext (Ext.freshL hb)⟩))))))))))) (by decide) (by kernel_rfl) λa F5 B hR F4=>?_;simp[Region.binds,lf,Is]at F4;refine⟨75,#[dkR j V,H G s.2.1,A s.2.2],?_,(kS (dkR j V) j.disk s.2.1 s.2.2 F5 ((S3.o.below hR).r.disk.ext (Ext.seenL _ _)) HP.o.1 HP.o.2.1 HP.o.2.2.1 HP.o.2.2.2).mono λ_ w4 ⟨D,he,F8,L,h3⟩=>⟨_,he,⟨D,rfl,by rw[hD.o];exact F8.hideF h3 λy hy=>by have:=HX.o y hy;have:=hR.size;omega⟩,L⟩⟩;have F9:=Act.eval_func a
    revert F4 F9
    generalize a.eval=ρ;intro F4 F9;simp only[execOp]
    go_simp
   .refine BB F (by decide) λb a F5 B _ F4=>?_;obtain⟨D,F8,L⟩:∃D,a.eval (.tmp 45)=S #[D,H G 0]/\IsDk (aA F5 (w.heap.size::X)) D (wA j.disk s):=F4 ⟨9,.data⟩ (by simp) rfl;exact⟨_,(by revert F8;generalize a.eval=ρ;intro F8;simp only[execOp];go_simp),D,rfl,L⟩
   .refine BB F (by decide) λb a F5 B _ F4=>?_;obtain⟨D,F8,L⟩:∃D,a.eval (.tmp 35)=S #[D,H G 0]/\IsDk (aA F5 (w.heap.size::X)) D (wA j.disk s):=F4 ⟨10,.data⟩ (by simp) rfl;exact⟨D,(by revert F8;generalize a.eval=ρ;intro F8;simp only[execOp];go_simp),L⟩
   .refine BB F (by decide) λb a F5 B _ F4=>?_;obtain⟨D,F8,L⟩:∃D,a.eval (.tmp 35)=S #[D,H G 0]/\IsDk (aA F5 (w.heap.size::X)) D (wA j.disk s):=F4 ⟨10,.data⟩ (by simp) rfl;exact⟨_,(by revert F8;generalize a.eval=ρ;intro F8;simp only[execOp];go_simp),rfl⟩
   iterate 2
    refine BB F (by decide) λb a F5 B hR F4=>⟨_,?_,rfl⟩
    replace hR:=hR (by kernel_rfl)
    have G1:=(B.other 0 rfl).trans l;have F7:=Act.eval_const a;have F9:=Act.eval_func a
    revert F4 G1 F7 F9
    generalize a.eval=ρ;intro F4 G1 F7 F9;simp[Region.binds,lf,Is]at F4;simp only[execOp]
    go_simp
   .refine dI λa F5 B hR F4=>?_;have e:a.eval (.tmp 49)=C (J ⟨R,0,Z⟩):=F4 ⟨14,.data⟩ (by simp) rfl;have hv:IsDk (aA F5 (w.heap.size::X)) (a.eval (.tmp 46)) (wA j.disk s):=F4 ⟨11,.data⟩ (by simp) rfl;obtain⟨da,dc,db,dd,ev,_⟩:=id hv;rw[ev]at hv;obtain⟨c0,c1⟩:=kA (S3.o.below hR).k;unfold fA at c0;refine⟨(F5.setCell ⟨R,0,Z⟩ (M da (wA j.disk s).safe.length dc)).setCell ⟨R,1,Z⟩ (M db (wA j.disk s).wr.length dd),(by revert e ev;generalize a.eval=ρ;intro e ev;simp only[execOp];go_simp),⟨da,dc,db,dd,(S3.o.below hR).disk hv,CB (CB (yA hR l3 K3.o) A1) A1,by simpa[World.setCell] using Nat.lt_of_lt_of_le l3 hR.size⟩,Holds.is (.is (.is (.is (.is (.is (.is (.is (.is (.cons (.cons (.cons (.is (.is (.is .nil))) (λ_ h=>h.ext (Ext.butL ((((ButL.refl _ _ _).set (.inl (Ad _ Q)) _ _)).set (.inl (Ad _ Q)) _ _)))) (λ_ ⟨D,F8,L⟩=>⟨D,F8,L.ext (Ext.butL ((((ButL.refl _ _ _).set (.inl (Ad _ Q)) _ _)).set (.inl (Ad _ Q)) _ _))⟩)) (λ_ ⟨D,F8,L⟩=>⟨D,F8,L.ext (Ext.butL ((((ButL.refl _ _ _).set (.inl (Ad _ Q)) _ _)).set (.inl (Ad _ Q)) _ _))⟩))))))))))⟩
   intro a W4 B ⟨da,dc,db,dd,h4,k4,l4⟩ _;have G2:=(B.other 0 rfl).trans l;have f2:=(B.other 2 rfl).trans D;obtain⟨g,Y,rfl⟩:=nB a 177 (B.size.trans F) (B.defers.trans A3);rw[Y]at G2 f2;simp only[List.range,List.range.loop,List.map_cons,List.map_nil,G2,f2];show KK _ _;apply p;have S4:=zA h4;have K4:=zA k4;have m4:=h4.lt;clear B p h4 k4 G2 f2 Y K3 KS l3 lS S3 HP hD;obtain⟨x,xf⟩:=kA S4.o.k;unfold fA at x;dsimp only at x;rw[show wkR {j with disk:=(wA j.disk s)}=wkR j from rfl]at x;rw[HS.o,ht,Td]at x;obtain⟨y,G3⟩:=kA K4.o
  all_goals
   by_cases hr:r=[]
   rotate_left
   .have F0:0<r.length:=mf.2 hr;have U:¬V.tc=1:=by omega
    have E:Hid (stepJ j=({j with disk:=(wA j.disk s),steps:=r},eA 0)):=by rw[Hid,stepJ,HS.o];simp only[A8.o,hr,if_true,if_false]
    have hw:=zA (Fa HS.o hr (wA j.disk s));have A2:=zA (S4.o.r.steps);have F3:=zA hr;clear hr;dsimp only at A2;rw[ht,HS.o]at A2;go_wp2;exact Tb (by simp[results,results33,go_sem,y];rfl) rfl ⟨by rw[E.o];rfl,by rw[E.o];exact(S4.o.set (j':={j with disk:=(wA j.disk s),steps:=r}) (V':={V with da:=da,dc:=dc,db:=db,dd:=dd,ta:=J ⟨tb,tq+3,Z⟩,tc:=V.tc - 1}) ((ButL.refl _ _ _).set (.inl (by simp)) _ _) (XB S4.o.k) (λq E=>⟨(q.ext E).disk,(q.ext E).now,(q.ext E).sealed,(q.ext E).done,(q.ext E).found,A2.o.tl.ext E,by dsimp only;omega,q.room⟩) (by unfold fA;rw[hw.o];kernel_rfl)).reply Q A9 _ _ _⟩
   have C3:r.length=0:=by rw[hr];rfl
   rw[C3]at x;subst hr;rcases IY HS.o (HK.o.2.1 (by rw[HS.o];simp)) with⟨e1,e2⟩|⟨e1,e2⟩|⟨e1,e2⟩
   all_goals
    rw[e1]at x;have e2:=zA e2;clear E1 e1
   case' inr.inl=>
    have E:Hid (stepJ j=({j with disk:=(wA j.disk s),steps:=[],done:=[],ru:=0},eA 0)):=by rw[Hid,stepJ,HS.o];simp[A8.o,finishJ,e2.o]
    by_cases U:V.tc=1
    all_goals
     try rw[U]at x
     go_wp2;exact Tb (by simp[results,results33,go_sem,y];rfl) rfl ⟨by rw[E.o];rfl,by rw[E.o];exact(S4.o.ended _ _).home.reply Q A9 _ _ _⟩
   case' inl=>
    have E:Hid (stepJ j=({j with disk:=(wA j.disk s),steps:=[],sealed:=gA 0,done:=j.done++[j.sealed],last:=j.sealed.seq},⟨0,j.sealed.seq,⟨#[]⟩⟩)):=by rw[Hid,stepJ,HS.o];simp[A8.o,finishJ,WH,e2.o]
    by_cases U:V.tc=1
    all_goals
     try rw[U]at x
     go_wp2;rename_i KK p;refine(show∀W5,W5=_->Code.wp prog _ _ _ W5 from λW5 G0=>?_) _ rfl;obtain⟨ta,tc,N⟩:∃ta tc,RS w R (w.heap.size::X) {j with disk:=(wA j.disk s),steps:=[],last:=j.sealed.seq} {V with da:=da,dc:=dc,db:=db,dd:=dd,ta:=ta,tc:=tc} W5:=by rw[G0];exact⟨_,_,(S4.o.ended _ _).lastTo _⟩
     have N:=zA N
     have K5:Hid (W5.heap[w.heap.size]?=J (.cells #[H G 0,H G 0,A ⟨#[]⟩] 31 (0,0))):=by rw[G0];repeat (first|refine CB ?_ A1|exact K4.o)
     have l5:w.heap.size<W5.heap.size:=by rw[G0];simpa[World.setCell] using l4
     clear G0 x xf y G3 S4 K4 l4;obtain⟨q,C4,D1,C6⟩:=N.o.r.done.rz;have D4:j.done.length=q.length:=by rw[<-C4,xd]
     have F2:q.length<=900:=by rw[<-D4];exact HK.o.2.2.1
     have D7:=zA D1;have D2:=zA C6;have B7:=zA C4;clear C4 D1 C6;have E2:Hid (∀y∈(w.heap.size::X),y<W5.heap.size):=λy hy=>by have:=HX.o y hy;omega
     refine(show∀A0:Act,A0=_->Code.wp prog _ _ A0 _ from λA0 F6=>?_) _ rfl;have F:A0.tmps.size=177:=by rw[F6];rfl
     have A3:A0.defers=[]:=by rw[F6]
     have l:A0.eval (.tmp 0)=C (J ⟨R,0,Z⟩):=by rw[F6];rfl
     have D:A0.eval (.tmp 2)=C (J ⟨w.heap.size,0,Z⟩):=by rw[F6];rfl
     clear F6;refine ON (W:=W5) 14 11 (λF5=>Below W5.heap.size W5 F5) (λb=>[Is (C (J ⟨R,0,Z⟩)),Is (C (J ⟨R,0,Z⟩)),Is (C (J ⟨R,0,Z⟩)),Is (C (J ⟨R,25,Z⟩)),Is (M V.ca j.done.length V.cc),sw b (λ_ _=>True) (λv F5=>F5.ownsRow W5.heap.size 52 10 v q.length (cellsZ q)),Is (C (J ⟨R,0,Z⟩)),Is (C (J ⟨R,0,Z⟩)),Is (C (J ⟨R,15,Z⟩)),Is (EK j V),sw b (λ_ _=>True) (λv F5=>∃g,v=M (J ⟨g,0,Z⟩) 1 1/\F5.heap[g]?=J (.cells #[H G j.sealed.seq,M V.sa j.sealed.info.length V.sc,M V.sb j.sealed.data.length V.sd,M V.se j.sealed.rev.length V.sf,.bool j.sealed.h0.on,H G j.sealed.h0.left,.bool j.sealed.h1.on,H G j.sealed.h1.left,.bool j.sealed.h2.on,H G j.sealed.h2.left] 52 (0,0))),sw b (λv F5=>∃a c,v=M a (j.done++[j.sealed]).length c/\SegTx (aA F5 (w.heap.size::X)) a (j.done++[j.sealed])) (λ_ _=>True),Is (C (J ⟨R,0,Z⟩)),Is (C (J ⟨R,25,Z⟩))]) (by decide) (by kernel_rfl) (by kernel_rfl) (by kernel_rfl) (by kernel_rfl) (Ub _ _).drew ⟨?_,?_,?_,?_,?_,?_,?_,?_,?_,?_,?_,?_,?_,?_,trivial⟩ ?_
     .exact BB F (by decide) λb a F5 B _ _=>⟨_,by have z:=(B.other 0 rfl).trans l;revert z;generalize a.eval=ρ;intro z;simp only[execOp];go_simp,rfl⟩
     iterate 4
      refine BB F (by decide) λb a F5 B hR F4=>⟨_,?_,rfl⟩
      replace hR:=hR (by kernel_rfl)
      have G1:=(B.other 0 rfl).trans l;have F7:=Act.eval_const a;have F9:=Act.eval_func a;obtain⟨c0,_⟩:=kA ((N.o.below hR).k);unfold fA at c0
      revert F4 G1 F7 F9
      generalize a.eval=ρ;intro F4 G1 F7 F9;simp[Region.binds,lf,Is]at F4;simp only[execOp]
      go_simp
     .refine EL F (λw F5 hb=>Holds.is (.is (.is (.is (.is (.cons (.is (.is (.is (.is (.cons (.cons (.is (.is .nil)) (λ_ h=>h)) (λ_ ⟨g,F8,L⟩=>⟨g,F8,yA hb (Wb.1 L).1 L⟩)))))) (λ_ h=>dA h hb))))))) (by decide) (by kernel_rfl) λa F5 B hR F4=>?_;have h4:a.eval (.tmp 87)=M V.ca j.done.length V.cc:=F4 ⟨4,.data⟩ (by simp) rfl;rw[D4]at h4;obtain⟨v',w6,hrun,ho,hb⟩:=MY 53 W5.heap.size V.ca V.cc q F5 ((D7.o.ext (Ext.seenL _ _)).below hR) (by omega) hR.size;exact⟨v',w6,(by have F7:=Act.eval_const a;revert h4 F7;generalize a.eval=ρ;intro h4 F7;simp[execOp,resolve,invoke,builtin,F7,h4,hrun,Result.andThen]),ho,hb⟩
     iterate 4
      refine BB F (by decide) λb a F5 B hR F4=>⟨_,?_,rfl⟩
      replace hR:=hR (by kernel_rfl)
      have G1:=(B.other 0 rfl).trans l;have F7:=Act.eval_const a;have F9:=Act.eval_func a;obtain⟨c0,_⟩:=kA ((N.o.below hR).k);unfold fA at c0
      revert F4 G1 F7 F9
      generalize a.eval=ρ;intro F4 G1 F7 F9;simp[Region.binds,lf,Is]at F4;simp only[execOp,EK]
      go_simp
     .refine EL F (λw F5 hb=>Holds.is (.is (.is (.is (.is (.cons (.is (.is (.is (.is (.cons (.cons (.is (.is .nil)) (λ_ h=>h)) (λ_ ⟨g,F8,L⟩=>⟨g,F8,yA hb (Wb.1 L).1 L⟩)))))) (λ_ h=>dA h hb))))))) (by decide) (by kernel_rfl) λa F5 B hR F4=>?_;have h4:a.eval (.tmp 92)=.agg #[H G j.sealed.seq,M V.sa j.sealed.info.length V.sc,M V.sb j.sealed.data.length V.sd,M V.se j.sealed.rev.length V.sf,.bool j.sealed.h0.on,H G j.sealed.h0.left,.bool j.sealed.h1.on,H G j.sealed.h1.left,.bool j.sealed.h2.on,H G j.sealed.h2.left]:=F4 ⟨9,.data⟩ (by simp) rfl;exact⟨M (J ⟨F5.heap.size,0,Z⟩) 1 1,F5.alloc (.cells #[H G j.sealed.seq,M V.sa j.sealed.info.length V.sc,M V.sb j.sealed.data.length V.sd,M V.se j.sealed.rev.length V.sf,.bool j.sealed.h0.on,H G j.sealed.h0.left,.bool j.sealed.h1.on,H G j.sealed.h1.left,.bool j.sealed.h2.on,H G j.sealed.h2.left] 52),(by have F7:=Act.eval_const a;revert h4 F7;generalize a.eval=ρ;intro h4 F7;simp only[execOp];go_simp),⟨_,rfl,Cc _ _⟩,qA _ _⟩
     .refine YP F λa F5 B hR F4=>?_;have h5:F5.ownsRow W5.heap.size 52 10 (a.eval (.tmp 88)) q.length (cellsZ q):=F4 ⟨5,.data⟩ (by simp) rfl;obtain⟨g,h6,h7⟩:∃g,a.eval (.tmp 93)=M (J ⟨g,0,Z⟩) 1 1/\F5.heap[g]?=J (.cells #[H G j.sealed.seq,M V.sa j.sealed.info.length V.sc,M V.sb j.sealed.data.length V.sd,M V.se j.sealed.rev.length V.sf,.bool j.sealed.h0.on,H G j.sealed.h0.left,.bool j.sealed.h1.on,H G j.sealed.h1.left,.bool j.sealed.h2.on,H G j.sealed.h2.left] 52 (0,0)):=F4 ⟨10,.data⟩ (by simp) rfl;obtain⟨vv,C5⟩:∃vv,vv=a.eval (.tmp 88):=⟨_,rfl⟩;rw[<-C5]at h5;have h8:=C5.symm;clear C5
      obtain⟨v',w6,hrun,ho,Y⟩:=qO 53 W5.heap.size vv q [(⟨V.sa,V.sc,V.sb,V.sd,V.se,V.sf,j.sealed⟩:RZ)] F5 h5 (⟨g,0,Z⟩:Addr) 1 (λi u G4=>by
       rw[qd,Dc];rw[(kA h7).1]
       simpa[cellsZ,RZ.cells] using G4) (by simp;omega) hR.size
      rw[Ze]at hrun;have C1:=hR.grown Y hR.size λk hk=>(Od h5 k hk).1
      obtain⟨ya,yc,hy,A7,_⟩:=SegTx.of_rz (TD (X:=(w.heap.size::X)) ho E2.o) (λz hz=>by
       rcases Mc.1 hz with h|h
       .exact(D2.o z h).ext (Ext.freshL C1)
       .rw[Rc.1 h];exact N.o.r.sealed.ext (Ext.freshL C1))
      rw[Ed,B7.o]at A7;have E0:(q++[(⟨V.sa,V.sc,V.sb,V.sd,V.se,V.sf,j.sealed⟩:RZ)]).length=(j.done++[j.sealed]).length:=by rw[<-B7.o];simp
      rw[E0]at hy;refine⟨v',w6,(by revert h6 h8;generalize a.eval=ρ;intro h6 h8;simp[execOp,resolve,invoke,builtin,h6,h8,hrun,Result.andThen]),C1,⟨ya,yc,hy,A7⟩,λi u G4 h=>?_⟩
      match i,G4,h with
      |0,_,h|1,_,h|2,_,h|3,_,h|4,_,h|6,_,h|7,_,h|8,_,h|9,_,h|12,_,h|13,_,h=>exact h
      |5,_,_|10,_,_=>exact trivial
      |11,G4,_=>exact absurd rfl G4
      |_+14,_,_=>exact trivial
     iterate 2
      refine BB F (by decide) λb a F5 B _ F4=>⟨_,?_,rfl⟩
      have G1:=(B.other 0 rfl).trans l;have F7:=Act.eval_const a;have F9:=Act.eval_func a
      revert F4 G1 F7 F9
      generalize a.eval=ρ;intro F4 G1 F7 F9;simp[Region.binds,lf,Is]at F4;simp only[execOp]
      go_simp
     intro a w6 B d F4;obtain⟨ya,yc,B3,A7⟩:∃a' c,a.eval (.tmp 94)=M a' (j.done++[j.sealed]).length c/\SegTx (aA w6 (w.heap.size::X)) a' (j.done++[j.sealed]):=F4 11 (by decide);have B8:a.eval (.tmp 96)=C (J ⟨R,25,Z⟩):=F4 13 (by decide);obtain⟨nn,A6⟩:∃nn,nn=(j.done++[j.sealed]).length:=⟨_,rfl⟩;rw[<-A6]at B3;obtain⟨c0,c1⟩:=kA (N.o.below d).k;unfold fA at c0;refine⟨w6.setCell ⟨R,25,Z⟩ (M ya nn yc),(by revert B3 B8;generalize a.eval=ρ;intro B3 B8;simp only[execOp];go_simp),?_⟩;have G2:=(B.other 0 rfl).trans l;have f2:=(B.other 2 rfl).trans D;obtain⟨g,Y,rfl⟩:=nB a 177 (B.size.trans F) (B.defers.trans A3);rw[Y]at G2 f2;simp only[List.range,List.range.loop,List.map_cons,List.map_nil,G2,f2];show KK _ _;apply p;have E3:=zA A6;dsimp only at c0;have S6:=zA ((N.o.below d).doneTo (c:=yc) A7);have K6:=zA (yA d l5 K5.o);have l6:=Xb l5 d.size;have m6:=(N.o.below d).lt;clear B p N K5 l5 d A7 G2 f2 Y F4 B3 B8 B7 D7 D2 A6;obtain⟨y,G3⟩:=kA K6.o;go_wp2;have A6:=E3.o;subst A6;exact Tb (by simp[results,results33,go_sem,y];rfl) rfl ⟨by rw[E.o];rfl,by rw[E.o];exact S6.o.sealed0.reply Q A9 _ _ _⟩
   case' inr.inr=>
    have E:Hid (stepJ j=(cF {j with disk:=(wA j.disk s),steps:=[]},eA 0)):=by rw[Hid,stepJ,HS.o];simp[A8.o,finishJ,e2.o]
    obtain⟨fa,B4⟩:∃fa,fa=V.fa:=⟨_,rfl⟩;have D5:=zA B4;rw[<-B4]at x;clear B4;have E6:=HK.o.2.2.2.2.1;have E9:=HK.o.2.2.2.1;by_cases U:V.tc=1
    all_goals
     try rw[U]at x
     go_wp2;rename_i KK p;refine(show∀W5,W5=_->Code.wp prog _ _ _ W5 from λW5 G0=>?_) _ rfl;obtain⟨ta,tc,N⟩:∃ta tc,RS w R (w.heap.size::X) {j with disk:=(wA j.disk s),steps:=[]} {V with da:=da,dc:=dc,db:=db,dd:=dd,ta:=ta,tc:=tc} W5:=by rw[G0];exact⟨_,_,(S4.o.ended _ _).below (qA _ _)⟩
     have N:=zA N
     have K5:Hid (W5.heap[w.heap.size]?=J (.cells #[H G 0,H G 0,A ⟨#[]⟩] 31 (0,0))):=by rw[G0];refine yA (qA _ _) (by simpa[World.setCell] using l4) ?_;repeat (first|refine CB ?_ A1|exact K4.o)
     have l5:w.heap.size<W5.heap.size:=by rw[G0];simp[World.setCell];omega
     have KF:Hid (W5.heap[W4.heap.size]?=J (.cells #[M fa j.fL.length V.fc,H G j.fN,H G j.fP] 57 (0,0))):=by rw[G0];exact aC (by simp[World.setCell])
     have lF:W4.heap.size<W5.heap.size:=(Wb.1 KF.o).1;clear G0 x xf y G3 S4 K4;refine(show∀A0:Act,A0=_->Code.wp prog _ _ A0 _ from λA0 F6=>?_) _ rfl;have F:A0.tmps.size=177:=by rw[F6];rfl
     have A3:A0.defers=[]:=by rw[F6]
     have l:A0.eval (.tmp 0)=C (J ⟨R,0,Z⟩):=by rw[F6];rfl
     have D:A0.eval (.tmp 2)=C (J ⟨w.heap.size,0,Z⟩):=by rw[F6];rfl
     have v5:A0.eval (.tmp 5)=C (J ⟨W4.heap.size,0,Z⟩):=by rw[F6];rfl
     clear F6;refine tG (W:=W5) 20 [Is (C (J ⟨R,0,Z⟩)),Is (C (J ⟨R,0,Z⟩)),Is (C (J ⟨R,0,Z⟩)),Is (C (J ⟨R,0,Z⟩)),Is (.agg #[M da (wA j.disk s).safe.length dc,M db (wA j.disk s).wr.length dd]),Is (C (J ⟨W4.heap.size,2,Z⟩)),Is (H G j.fP),Is (.agg #[H G j.fP,H G 0]),Is (C (J ⟨W4.heap.size,1,Z⟩)),Is (H G j.fN),Is (.agg #[H G j.fN,M Z 0 0,M Z 0 0,M Z 0 0,.bool O,H G 0,.bool O,H G 0,.bool O,H G 0]),Is (C (J ⟨W4.heap.size,1,Z⟩)),Is (H G j.fN),Is (H G (j.fN - 1)),Is (C (J ⟨R,0,Z⟩)),Is (C (J ⟨R,0,Z⟩)),Is (C (J ⟨R,56,Z⟩)),Is (H G j.acts),Is (.agg (fA {gB (wA j.disk s) j.fP j.fN with acts:=j.acts} (⟨da,dc,db,dd,Z,0,Z,0,Z,0,Z,0,Z,0,Z,0,Z,0,Z,0,Z,0⟩:Sl))),Is (C (J ⟨R,0,Z⟩))] (by kernel_rfl) (by kernel_rfl) (by kernel_rfl) (by kernel_rfl) (Ub _ _).drew ⟨?_,?_,?_,?_,?_,?_,?_,?_,?_,?_,?_,?_,?_,?_,?_,?_,?_,?_,?_,?_,trivial⟩ ?_
     iterate 18
      refine OA F λa F5 B hR F4=>⟨_,?_,rfl⟩
      have G1:=(B.other 0 rfl).trans l;have z5:=(B.other 5 rfl).trans v5;have F7:=Act.eval_const a;have F9:=Act.eval_func a;obtain⟨c0,_⟩:=kA ((N.o.below hR).k);unfold fA at c0;obtain⟨c1,_⟩:=kA (yA hR lF KF.o)
      revert F4 G1 z5 F7 F9
      generalize a.eval=ρ;intro F4 G1 z5 F7 F9;simp[Region.binds,lf,Is]at F4;simp only[execOp]
      go_simp
     .refine OA F λa F5 B hR F4=>⟨_,?_,rfl⟩
      simp[Region.binds,lf,Is]at F4
      revert F4
      generalize a.eval=ρ;intro F4;simp only[execOp,fA,gB,gA,wkR]
      go_simp
     refine OA F λa F5 B hR F4=>⟨_,?_,rfl⟩
     have G1:=(B.other 0 rfl).trans l;have z5:=(B.other 5 rfl).trans v5;have F7:=Act.eval_const a;have F9:=Act.eval_func a;obtain⟨c0,_⟩:=kA ((N.o.below hR).k);unfold fA at c0;obtain⟨c1,_⟩:=kA (yA hR lF KF.o)
     revert F4 G1 z5 F7 F9
     generalize a.eval=ρ;intro F4 G1 z5 F7 F9;simp[Region.binds,lf,Is]at F4;simp only[execOp]
     go_simp
     intro a w6 B d F4;have C2:a.eval (.tmp 140)=C (J ⟨R,0,Z⟩):=F4 19 (by decide);have B9:a.eval (.tmp 139)=.agg (fA {gB (wA j.disk s) j.fP j.fN with acts:=j.acts} (⟨da,dc,db,dd,Z,0,Z,0,Z,0,Z,0,Z,0,Z,0,Z,0,Z,0,Z,0⟩:Sl)):=F4 18 (by decide);refine⟨_,WI 59 (.tmp 140) (.tmp 139) R _ rfl C2 B9 _ _ (N.o.below d).k rfl rfl (by simp[fA,Value.oneCell']),?_⟩;have G2:=(B.other 0 rfl).trans l;have f2:=(B.other 2 rfl).trans D;have f5:=(B.other 5 rfl).trans v5;obtain⟨g,Y,rfl⟩:=nB a 177 (B.size.trans F) (B.defers.trans A3);rw[Y]at G2 f2 f5;simp only[List.range,List.range.loop,List.map_cons,List.map_nil,G2,f2,f5];show KK _ _;apply p;have D9:W4.heap.size≠R:=by omega
     have P0:Hid (PS w R W4.heap.size X {gB (wA j.disk s) j.fP j.fN with acts:=j.acts,role:=qD (λk:Nat=>sC j.fL k) 0} (⟨da,dc,db,dd,Z,0,Z,0,Z,0,Z,0,Z,0,Z,0,Z,0,Z,0,Z,0⟩:Sl) #[M fa j.fL.length V.fc,H G j.fN,H G j.fP] fa j.fL (w6.setRow R (fA {gB (wA j.disk s) j.fP j.fN with acts:=j.acts} (⟨da,dc,db,dd,Z,0,Z,0,Z,0,Z,0,Z,0,Z,0,Z,0,Z,0,Z,0⟩:Sl)))):=by
      have C3:qD (λk:Nat=>sC j.fL k) 0=λ_=>0:=funext λk=>by simp[qD]
      rw[C3];exact⟨(N.o.below d).all ⟨(N.o.below d).r.disk,FC _ _,FC _ _,.inl rfl,.inl rfl,.inl rfl,Sb _,bF _⟩,(Ff _ _ _ _ A1).trans (yA d l5 K5.o),(Ff _ _ _ _ D9).trans (yA d lF KF.o),by rw[D5.o];exact(N.o.below d).r.found.ext (zK (T:=R) (Ad _ Q) _ _),A1,D9⟩
     obtain⟨W7,C7⟩:∃W7,W7=w6.setRow R (fA {gB (wA j.disk s) j.fP j.fN with acts:=j.acts} (⟨da,dc,db,dd,Z,0,Z,0,Z,0,Z,0,Z,0,Z,0,Z,0,Z,0,Z,0⟩:Sl)):=⟨_,rfl⟩;rw[<-C7]at P0|-;clear B d F4 C2 B9 C7 N K5 KF lF l5 p D5 G2 f2 f5 Y;obtain⟨y,G3,G2,rf,l7,m7,n7⟩:=P0.o.all;go_wp2
     go_loopw [141] (λi wx=>∃b:Nat,b<=12/\i=H G b/\Hid (PS w R W4.heap.size X {gB (wA j.disk s) j.fP j.fN with acts:=j.acts,role:=qD (λk:Nat=>sC j.fL k) b} (⟨da,dc,db,dd,Z,0,Z,0,Z,0,Z,0,Z,0,Z,0,Z,0,Z,0,Z,0⟩:Sl) #[M fa j.fL.length V.fc,H G j.fN,H G j.fP] fa j.fL wx)) (λi _=>12 - (intOf i).toNat)
     case atStart=>exact⟨0,Vb _,rfl,P0⟩
     case round=>
      clear y G3 G2 rf l7 m7 n7;clear P0;obtain⟨b,hb,rfl,P1⟩:=hrel;obtain⟨y,G3,G2,rf,l7,m7,n7⟩:=P1.o.all;by_cases hbl:b<12
      rotate_left
      .have e:b=12:=by omega
       subst e;go_wp2;exact Tb (by simp[results,results33,go_sem,y];rfl) rfl ⟨by rw[E.o];rfl,by rw[E.o];exact(RS.roles (j:={gB (wA j.disk s) j.fP j.fN with acts:=j.acts}) (f:=qD (λk:Nat=>sC j.fL k) 12) (g:=λk:Nat=>LB j.fL.reverse k) P1.o.s λk hk=>by simp[qD,hk,sC]).reply Q A9 _ _ _⟩
      have E4:(b:Int)<12:=by omega
      have E8:(0:Int)<=(b:Int):=by omega
      have rr:=P1.o.cell hbl;go_wp2
      go_loopw [152] (λi wx=>∃m:Nat,m<=j.fL.length/\i=H G m/\Hid (PS w R W4.heap.size X {gB (wA j.disk s) j.fP j.fN with acts:=j.acts,role:=ZA (qD (λk:Nat=>sC j.fL k) b) b (sC (j.fL.take m) b)} (⟨da,dc,db,dd,Z,0,Z,0,Z,0,Z,0,Z,0,Z,0,Z,0,Z,0,Z,0⟩:Sl) #[M fa j.fL.length V.fc,H G j.fN,H G j.fP] fa j.fL wx)) (λi _=>j.fL.length - (intOf i).toNat)
      case atStart=>exact⟨0,Vb _,rfl,P1.o.role hbl 1⟩
      case round=>
       clear y G3 G2 rf l7 m7 n7;clear P1 rr;obtain⟨m,hm,rfl,P2⟩:=hrel;obtain⟨y,G3,G2,rf,l7,m7,n7⟩:=P2.o.all;by_cases hml:m<j.fL.length
       rotate_left
       .have e:m=j.fL.length:=by omega
        subst e;rw[Lc]at P2;have hN:=zA (MP (λk:Nat=>sC j.fL k) b);go_wp2
        go_roundw
        case rel=>exact⟨b+1,by omega,by go_num,by rw[<-hN.o];exact P2⟩
        case measure=>simp[intOf];omega
       have F1:(m:Int)<(j.fL.length:Int):=by omega
       have E7:(0:Int)<=(m:Int):=by omega
       rcases P2.o.t with h0|⟨xb,xo,rfl,G8,hc⟩
       .rw[h0]at hml;simp at hml
       obtain⟨t,B1⟩:∃t,j.fL[m]?=J t:=⟨_,Ic hml⟩;have hT:=hc m hml;rw[List.getD,B1,Gf]at hT;obtain⟨ia,ic,ja,jc,ra,rc,⟨t0,t1,t2,t3,t4,t5,t6,t7,t8,t9⟩,C0⟩:=hT
       replace t0:=(qC t0).2
       replace t1:=(qC t1).2
       replace t2:=(qC t2).2
       replace t3:=(qC t3).2
       replace t4:=(qC t4).2
       replace t5:=(qC t5).2
       replace t6:=(qC t6).2
       replace t7:=(qC t7).2
       replace t8:=(qC t8).2
       replace t9:=(qC t9).2
       have HI:=zA (IsTx.rows (C0.ext (Ext.seenL _ _)));have HH:=zA (IsTx.rows C0);have B2:=HK.o.2.2.2.2.2 t (Yc B1) b;have D6:j.fL.take (m+1)=j.fL.take m++[t]:=by rw[Oc,B1];rfl
       have HF:=zA (lY (j.fL.take m) t b B2);rw[<-D6]at HF;have rr:=P2.o.cell hbl;clear hc C0 B1 D6;go_wp2_with fail;refine(kE ra rc t.rev b _ (HI.o.2.2.1.below (qA _ _)) HI.o.2.2.2.2.2).mono ?_;rintro _ F5 ⟨rfl,rfl⟩;cases ha:tA t.rev b
       .rw[ha]at HF;clear B2 ha;go_wp2_with fail;refine(eG ia ic t.info b _ (HI.o.1.below (qA _ _)) HI.o.2.2.2.1).mono ?_;rintro _ w9 ⟨rfl,A4⟩;have P9:=zA (P2.o.below (vA (qA _ _) A4));clear y G3 G2 rf l7 m7 n7;clear rr t0 t1 t2 t3 t4 t5 t6 t7 t8 t9 A4;obtain⟨y,G3,G2,rf,l7,m7,n7⟩:=P9.o.all;have rr:=P9.o.cell hbl;cases G4:(uA b t.info).isSome
        .have A5:Hid (sC (j.fL.take (m+1)) b=sC (j.fL.take m) b):=by rw[Hid,HF.o,G4];rfl
         clear G4 HF;go_wp2
         go_roundw
         case rel=>exact⟨m+1,by omega,by go_num,by rw[A5.o];exact P9⟩
         case measure=>simp[intOf];omega
        .have A5:Hid (sC (j.fL.take (m+1)) b=1):=by rw[Hid,HF.o,G4];rfl
         clear G4 HF;go_wp2
         go_roundw
         case rel=>exact⟨m+1,by omega,by go_num,by rw[A5.o,<-oM _ _ (sC (j.fL.take m) b) 1];exact P9.o.role hbl 1⟩
         case measure=>simp[intOf];omega
       .have G4:=zA (B2 ha);have A5:Hid (sC (j.fL.take (m+1)) b=0):=by rw[Hid,HF.o,G4.o,ha];rfl
        clear B2 ha HF;go_wp2_with fail;refine(eG ia ic t.info b _ (((HH.o.1.ext (Ext.setL (Ad _ Q) _ _)).ext (Ext.freshL (qA _ _))).ext (Ext.seenL _ _)) HI.o.2.2.2.1).mono ?_;rintro _ w9 ⟨rfl,A4⟩;rw[G4.o];have P9:=zA (((P2.o.role hbl 0).below (qA _ _)).below A4);clear y G3 G2 rf l7 m7 n7;clear rr t0 t1 t2 t3 t4 t5 t6 t7 t8 t9 A4 G4;obtain⟨y,G3,G2,rf,l7,m7,n7⟩:=P9.o.all;go_wp2
        go_roundw
        case rel=>exact⟨m+1,by omega,by go_num,by rw[A5.o,<-oM _ _ (sC (j.fL.take m) b) 0];exact P9⟩
        case measure=>simp[intOf];omega
def bV (w:K)(R:Nat)(X:List Nat)(q:Jn×Rp)(e:Ending)(w':K):Prop:=e=N (H G q.2.code)/\RAt w' R X q.1/\ButL [R] w.heap.size w w'
theorem FP(j:Jn)(t:Tx)(e:Int)(h:¬e=0->t=j.now):runJ j t e=({j with now:=t},eA e):=by
 unfold runJ;by_cases he:e=0
 .rw[Rb he,he]
 .rw[Qb he,h he]
theorem rS(R:Nat)(X:List Nat)(j:Jn)(w:K)(h:RAt w R X j)(s:∀x∈X,x<w.heap.size)(r Q i an:Int)(D:ByteArray)(hg:nA j.now=I)(y:0<=j.ru)(u:j.ru<=24)(z:r=1\/r=5\/r=2\/r=3\/r=4):
  (poweredJ j ⟨r,Q,i,an,D⟩).2=eA (poweredJ j ⟨r,Q,i,an,D⟩).2.code/\Calls Tryz.prog 42 #[C (J ⟨R,0,Z⟩),.agg #[H G r,H G Q,H G i,H G an,A D]] w (bV w R X (poweredJ j ⟨r,Q,i,an,D⟩)):=by
 rcases z with rfl|rfl|rfl|rfl|rfl
 .have e:poweredJ j ⟨1,Q,i,an,D⟩=({j with now:=beginT j.now Q an (24 - j.ru)},eA (beginE j.now Q an (24 - j.ru))):=by
   simp only[poweredJ,if_true];exact FP _ _ _ λp=>by rw[beginT,Qb p]
  rw[e];exact⟨rfl,bY R X j w h Q i an D hg y u⟩
 .have e:poweredJ j ⟨5,Q,i,an,D⟩=({j with now:=stopT j.now Q},eA (stopE j.now Q)):=by
   simp only[poweredJ,if_true];rw[Qb (by omega)];exact FP _ _ _ λp=>by rw[stopT,Qb p]
  rw[e];exact⟨rfl,nU R X j w h Q i an D hg⟩
 .have e:poweredJ j ⟨2,Q,i,an,D⟩=writeJ j ⟨2,Q,i,an,D⟩:=by simp[poweredJ]
  rw[e];refine⟨by unfold writeJ;(repeat' split)<;>rfl,ZJ R X j w h s 2 Q i an D hg 0 rfl _ _ (.inl ⟨rfl,rfl,rfl⟩) (_,_) ?_⟩;unfold writeJ;dsimp only;by_cases p:changeE j.now Q i (fitT D)=0
  .rw[Rb p];refine .inr ⟨p,.inl ⟨rfl,?_⟩⟩;by_cases hr:j.role i.toNat=2
   .rw[Rb hr];exact .inl ⟨hr,rfl⟩
   .rw[Qb hr];exact .inr ⟨hr,rfl⟩
  .rw[Qb p];exact .inl ⟨p,rfl⟩
 .have e:poweredJ j ⟨3,Q,i,an,D⟩=fillJ j ⟨3,Q,i,an,D⟩:=by simp[poweredJ]
  rw[e];refine⟨by unfold fillJ;(repeat' split)<;>rfl,ZJ R X j w h s 3 Q i an D hg 1 rfl _ _ (.inr (.inl ⟨rfl,rfl,rfl⟩)) (_,_) ?_⟩;unfold fillJ;dsimp only;by_cases p:fillE j.now Q i (fitT D)=0
  .rw[Rb p];refine .inr ⟨p,.inr (.inl ⟨rfl,?_⟩)⟩;by_cases hr:j.role i.toNat=1
   .rw[Rb hr];exact .inl ⟨hr,rfl⟩
   .rw[Qb hr];refine .inr ⟨hr,?_⟩
    by_cases hf:j.last<j.freed i.toNat
    .rw[Rb hf];exact .inl ⟨hf,rfl⟩
    .rw[Qb hf];exact .inr ⟨by omega,rfl⟩
  .rw[Qb p];exact .inl ⟨p,rfl⟩
 .have e:poweredJ j ⟨4,Q,i,an,D⟩=revokeJ j ⟨4,Q,i,an,D⟩:=by simp[poweredJ]
  rw[e];refine⟨by unfold revokeJ;(repeat' split)<;>rfl,ZJ R X j w h s 4 Q i an D hg 2 rfl _ _ (.inr (.inr ⟨rfl,rfl,rfl⟩)) (_,_) ?_⟩;unfold revokeJ;dsimp only;by_cases p:revokeE j.now Q i=0
  .rw[Rb p];refine .inr ⟨p,.inr (.inr ⟨rfl,?_⟩)⟩;by_cases hr:j.role i.toNat=0
   .rw[Rb hr];exact .inl ⟨hr,rfl⟩
   .rw[Qb hr];exact .inr ⟨hr,rfl⟩
  .rw[Qb p];exact .inl ⟨p,rfl⟩
open Go.Proofs.Tryz
theorem fR(R:Nat)(X:List Nat)(j:Jn)(w:K)(h:RAt w R X j)(p i r an:Int)(Q:ByteArray)(u:j.acts=400):
  Calls prog 12 #[C (J ⟨R,0,Z⟩),.agg #[H G p,H G i,H G r,H G an,A Q]] w (nD w R X (doJ j ⟨p,i,r,an,Q⟩)):=by
 have D:=h.1;have A1:=h.lt;obtain⟨V1,B⟩:=h.rs3 (T #[H G p,H G i,H G r,H G an,A Q] 24) (T #[H G 0,H G 0,A ⟨#[]⟩] 31);have B:=zA B;obtain⟨_,V,hb,_⟩:=h;obtain⟨x,xf⟩:=kA hb;unfold fA at x;rw[u]at x;have E:Hid (doJ j ⟨p,i,r,an,Q⟩=(j,eA 11)):=by rw[Hid,doJ,Rb (by omega)]
 have I:Hid (((w.alloc (T #[H G p,H G i,H G r,H G an,A Q] 24)).alloc (T #[H G 0,H G 0,A ⟨#[]⟩] 31)).heap[w.heap.size+1]?=J (T #[H G 0,H G 0,A ⟨#[]⟩] 31 (0,0))):=aC (by simp);have F:w.heap.size+1<((w.alloc (T #[H G p,H G i,H G r,H G an,A Q] 24)).alloc (T #[H G 0,H G 0,A ⟨#[]⟩] 31)).heap.size:=by simp
 clear u hb;go_enter func12,ntmps12;go_wp2_with fail;refine(kD 11 _).mono ?_;rintro _ A0 ⟨rfl,s⟩;have z:=zA (B.o.below s);obtain⟨y,yf⟩:=kA (yA s F I.o);have l9:w.heap.size+1<A0.heap.size:=Xb F s.size;clear s;go_wp2;exact Tb (by simp[results,results12,go_sem,y];try rfl) rfl ⟨by rw[E.o];try rfl,by rw[E.o];exact z.o.replyB D A1 (Fc _) _ _ _⟩
theorem xY(R:Nat)(X:List Nat)(j:Jn)(w:K)(h:RAt w R X j)(hX:∀x∈X,x<w.heap.size)(u:RJ j)(i r p an:Int)(Q:ByteArray)(hf:¬400<=j.acts)(z:i<1\/11<i):
  Calls prog 12 #[C (J ⟨R,0,Z⟩),.agg #[H G i,H G r,H G p,H G an,A Q]] w (nD w R X (doJ j ⟨i,r,p,an,Q⟩)):=by
 have D:=h.1;have A8:=h.lt;obtain⟨V,h⟩:=h.rs;have L:=zA (h.rs4 (j.acts+1) (T #[H G i,H G r,H G p,H G an,A Q] 24) (T #[H G 0,H G 0,A ⟨#[]⟩] 31));have A7:Hid ((((w.setCell ⟨R,56,Z⟩ (H G (j.acts+1))).alloc (T #[H G i,H G r,H G p,H G an,A Q] 24)).alloc (T #[H G 0,H G 0,A ⟨#[]⟩] 31)).heap[w.heap.size+1]?=J (T #[H G 0,H G 0,A ⟨#[]⟩] 31 (0,0))):=aC (by simp[World.setCell]);have A1:Hid ((((w.setCell ⟨R,56,Z⟩ (H G (j.acts+1))).alloc (T #[H G i,H G r,H G p,H G an,A Q] 24)).alloc (T #[H G 0,H G 0,A ⟨#[]⟩] 31)).heap[w.heap.size]?=J (T #[H G i,H G r,H G p,H G an,A Q] 24 (0,0))):=yA (qA _ _) (by simp[World.setCell]) (aC (by simp[World.setCell]));have I:(((w.setCell ⟨R,56,Z⟩ (H G (j.acts+1))).alloc (T #[H G i,H G r,H G p,H G an,A Q] 24)).alloc (T #[H G 0,H G 0,A ⟨#[]⟩] 31)).heap.size=w.heap.size+2:=by simp[World.setCell]
 have HX:Hid (∀y∈((w.heap.size+1)::X),y<(((w.setCell ⟨R,56,Z⟩ (H G (j.acts+1))).alloc (T #[H G i,H G r,H G p,H G an,A Q] 24)).alloc (T #[H G 0,H G 0,A ⟨#[]⟩] 31)).heap.size):=λy hy=>by
  rw[I];rcases Xc.1 hy with rfl|hy
  .omega
  .have:=hX y hy;omega
 have HJ:=zA u;have B:=zA I;obtain⟨x,xf⟩:=kA h.k;unfold fA at x;have A2:IntKind.i64.wrap (j.acts+1)=j.acts+1:=by have:=u.a0;have:=u.a1;rw[Bc];omega
 have A4:(j.acts==400)=O:=Ec.2 (by have:=u.a1;omega);have A5:w.heap.size≠R:=by omega
 have A3:w.heap.size+1≠R:=by omega
 clear u hX h I;go_enter func12,ntmps12;have E:Hid (doJ j ⟨i,r,p,an,Q⟩=({j with acts:=j.acts+1},eA 3)):=by rw[Hid,doJ,Qb hf,MC,Rb z]
 clear hf;by_cases hk1:i<1
 .clear z;go_wp2_with fail;refine(kD 3 _).mono ?_;rintro _ A6 ⟨rfl,s⟩;have F:=zA (L.o.below s);obtain⟨y,M⟩:=kA (yA s (by rw[B.o];omega) A7.o);have N:w.heap.size+1<A6.heap.size:=Xb (by rw[B.o];omega) s.size;clear s;go_wp2;exact Tb (by simp[results,results12,go_sem,y];try rfl) rfl ⟨by rw[E.o];try rfl,by rw[E.o];exact F.o.replyB D A8 (Fc _) _ _ _⟩
 .have A0:11<i:=by omega
  clear z;go_wp2_with fail;refine(kD 3 _).mono ?_;rintro _ A6 ⟨rfl,s⟩;have F:=zA (L.o.below s);obtain⟨y,M⟩:=kA (yA s (by rw[B.o];omega) A7.o);have N:w.heap.size+1<A6.heap.size:=Xb (by rw[B.o];omega) s.size;clear s;go_wp2;exact Tb (by simp[results,results12,go_sem,y];try rfl) rfl ⟨by rw[E.o];try rfl,by rw[E.o];exact F.o.replyB D A8 (Fc _) _ _ _⟩
theorem CV(R:Nat)(X:List Nat)(j:Jn)(w:K)(h:RAt w R X j)(hX:∀x∈X,x<w.heap.size)(s:RJ j)(Q r p an:Int)(i:ByteArray)(hf:¬400<=j.acts)(h1:1<=Q)(B3:Q<=11)(k8:¬Q=8)(u:¬Q=10)(z:¬Q=11)(hd:j.down=I):
  Calls prog 12 #[C (J ⟨R,0,Z⟩),.agg #[H G Q,H G r,H G p,H G an,A i]] w (nD w R X (doJ j ⟨Q,r,p,an,i⟩)):=by
 have D:=h.1;have B2:=h.lt;obtain⟨V,h⟩:=h.rs;have B1:=zA (h.rs4 (j.acts+1) (T #[H G Q,H G r,H G p,H G an,A i] 24) (T #[H G 0,H G 0,A ⟨#[]⟩] 31));have B0:Hid ((((w.setCell ⟨R,56,Z⟩ (H G (j.acts+1))).alloc (T #[H G Q,H G r,H G p,H G an,A i] 24)).alloc (T #[H G 0,H G 0,A ⟨#[]⟩] 31)).heap[w.heap.size+1]?=J (T #[H G 0,H G 0,A ⟨#[]⟩] 31 (0,0))):=aC (by simp[World.setCell]);have A5:Hid ((((w.setCell ⟨R,56,Z⟩ (H G (j.acts+1))).alloc (T #[H G Q,H G r,H G p,H G an,A i] 24)).alloc (T #[H G 0,H G 0,A ⟨#[]⟩] 31)).heap[w.heap.size]?=J (T #[H G Q,H G r,H G p,H G an,A i] 24 (0,0))):=yA (qA _ _) (by simp[World.setCell]) (aC (by simp[World.setCell]));have B:(((w.setCell ⟨R,56,Z⟩ (H G (j.acts+1))).alloc (T #[H G Q,H G r,H G p,H G an,A i] 24)).alloc (T #[H G 0,H G 0,A ⟨#[]⟩] 31)).heap.size=w.heap.size+2:=by simp[World.setCell]
 have HX:Hid (∀y∈((w.heap.size+1)::X),y<(((w.setCell ⟨R,56,Z⟩ (H G (j.acts+1))).alloc (T #[H G Q,H G r,H G p,H G an,A i] 24)).alloc (T #[H G 0,H G 0,A ⟨#[]⟩] 31)).heap.size):=λy hy=>by
  rw[B];rcases Xc.1 hy with rfl|hy
  .omega
  .have:=hX y hy;omega
 have HJ:=zA s;have F:=zA B;obtain⟨x,xf⟩:=kA h.k;unfold fA at x;have A1:IntKind.i64.wrap (j.acts+1)=j.acts+1:=by have:=s.a0;have:=s.a1;rw[Bc];omega
 have A3:(j.acts==400)=O:=Ec.2 (by have:=s.a1;omega);have A7:w.heap.size≠R:=by omega
 have A6:w.heap.size+1≠R:=by omega
 clear s hX h B;go_enter func12,ntmps12;have E:Hid (doJ j ⟨Q,r,p,an,i⟩=({j with acts:=j.acts+1},eA 10)):=by rw[Hid,doJ,Qb hf,MC,Qb (by dsimp only;omega),Qb k8,Qb u,Qb z,Rb hd]
 have e8:(Q==8)=O:=Ec.2 (by omega);have A4:(Q==10)=O:=Ec.2 (by omega);have A0:(Q==11)=O:=Ec.2 (by omega);have g1:¬Q<1:=by omega
 have A2:¬11<Q:=by omega
 rw[hd]at x;clear hf hd k8 u z;go_wp2_with fail;refine(kD 10 _).mono ?_;rintro _ L ⟨rfl,A8⟩;have A9:=zA (B1.o.below A8);obtain⟨y,yf⟩:=kA (yA A8 (by rw[F.o];omega) B0.o);have l9:w.heap.size+1<L.heap.size:=Xb (by rw[F.o];omega) A8.size;clear A8;go_wp2;exact Tb (by simp[results,results12,go_sem,y];try rfl) rfl ⟨by rw[E.o];try rfl,by rw[E.o];exact A9.o.replyB D B2 (Fc _) _ _ _⟩
theorem GT(R:Nat)(X:List Nat)(j:Jn)(w:K)(h:RAt w R X j)(hX:∀x∈X,x<w.heap.size)(hJ:RJ j)(r z u an:Int)(s:ByteArray)(hf:¬400<=j.acts)(hk:r=1\/r=5\/r=2\/r=3\/r=4)(hd:j.down=O):
  Calls prog 12 #[C (J ⟨R,0,Z⟩),.agg #[H G r,H G z,H G u,H G an,A s]] w (nD w R X (doJ j ⟨r,z,u,an,s⟩)):=by
 have B2:=h.1;have N:=h.lt;obtain⟨V,h⟩:=h.rs;have Y:=zA (h.rs4 (j.acts+1) (T #[H G r,H G z,H G u,H G an,A s] 24) (T #[H G 0,H G 0,A ⟨#[]⟩] 31));have e:Hid ((((w.setCell ⟨R,56,Z⟩ (H G (j.acts+1))).alloc (T #[H G r,H G z,H G u,H G an,A s] 24)).alloc (T #[H G 0,H G 0,A ⟨#[]⟩] 31)).heap[w.heap.size+1]?=J (T #[H G 0,H G 0,A ⟨#[]⟩] 31 (0,0))):=aC (by simp[World.setCell]);have A5:Hid ((((w.setCell ⟨R,56,Z⟩ (H G (j.acts+1))).alloc (T #[H G r,H G z,H G u,H G an,A s] 24)).alloc (T #[H G 0,H G 0,A ⟨#[]⟩] 31)).heap[w.heap.size]?=J (T #[H G r,H G z,H G u,H G an,A s] 24 (0,0))):=yA (qA _ _) (by simp[World.setCell]) (aC (by simp[World.setCell]));have B0:(((w.setCell ⟨R,56,Z⟩ (H G (j.acts+1))).alloc (T #[H G r,H G z,H G u,H G an,A s] 24)).alloc (T #[H G 0,H G 0,A ⟨#[]⟩] 31)).heap.size=w.heap.size+2:=by simp[World.setCell]
 have p:Hid (∀y∈((w.heap.size+1)::X),y<(((w.setCell ⟨R,56,Z⟩ (H G (j.acts+1))).alloc (T #[H G r,H G z,H G u,H G an,A s] 24)).alloc (T #[H G 0,H G 0,A ⟨#[]⟩] 31)).heap.size):=λy hy=>by
  rw[B0];rcases Xc.1 hy with rfl|hy
  .omega
  .have:=hX y hy;omega
 have A9:=zA hJ;have B1:=zA B0;obtain⟨x,b⟩:=kA h.k;unfold fA at x;have A1:IntKind.i64.wrap (j.acts+1)=j.acts+1:=by have:=hJ.a0;have:=hJ.a1;rw[Bc];omega
 have A3:(j.acts==400)=O:=Ec.2 (by have:=hJ.a1;omega);have A6:w.heap.size≠R:=by omega
 have U:w.heap.size+1≠R:=by omega
 clear hJ hX h B0;go_enter func12,ntmps12;obtain⟨M,A7⟩:=rS R ((w.heap.size+1)::X) {j with acts:=j.acts+1} _ Y.o.at p.o r z u an s (A9.o.good hd) A9.o.u0 A9.o.u1 hk;have E:Hid (doJ j ⟨r,z,u,an,s⟩=poweredJ {j with acts:=j.acts+1} ⟨r,z,u,an,s⟩):=by rw[Hid,doJ,Qb hf,MC,Qb (by dsimp only;omega),Qb (by dsimp only;omega),Qb (by dsimp only;omega),Qb (by dsimp only;omega),Qb (by dsimp only;rw[hd];decide)]
 obtain⟨q,Q⟩:∃q,q=poweredJ {j with acts:=j.acts+1} ⟨r,z,u,an,s⟩:=⟨_,rfl⟩;rw[<-Q]at E A7 M;have A7:=zA A7;have S:=zA M;have e8:(r==8)=O:=Ec.2 (by omega);have A4:(r==10)=O:=Ec.2 (by omega);have A0:(r==11)=O:=Ec.2 (by omega);have e6:(r==6)=O:=Ec.2 (by omega);have e7:(r==7)=O:=Ec.2 (by omega);have e9:(r==9)=O:=Ec.2 (by omega);have g1:¬r<1:=by omega
 have A2:¬11<r:=by omega
 rw[hd]at x;clear hf hd hk Q M;go_wp2_with fail;refine A7.o.mono ?_;rintro _ n ⟨rfl,I,B⟩;obtain⟨V2,L⟩:=Y.o.of I B;have L:=zA L;have d:=zA ((B.block _ (by rw[B1.o];omega) (by simpa using U)).trans e.o);have a:w.heap.size+1<n.heap.size:=Xb (by rw[B1.o];omega) B.size;clear I B A7 x b;obtain⟨q1,i⟩:=q;have D:=S.o;dsimp only at D|-;obtain⟨c,F⟩:∃c,c=i.code:=⟨_,rfl⟩;rw[<-F]at D|-;clear S F;subst D;go_wp2_with fail;refine(kD c _).mono ?_;rintro _ m ⟨rfl,A8⟩;have l:=zA (L.o.below A8);obtain⟨y,yf⟩:=kA (yA A8 a d.o);have l9:w.heap.size+1<m.heap.size:=Xb a A8.size;clear A8;go_wp2;exact Tb (by simp[results,results12,go_sem,y];try rfl) rfl ⟨by rw[E.o];try rfl,by rw[E.o];exact l.o.replyB B2 N (Fc _) _ _ _⟩
theorem jY{b:Option Addr}{e:Nat}(h:IsDk (aA W X) (.agg #[M a d.safe.length c,M b d.wr.length e]) d)(i:∀x∈X,x<W.heap.size)(hg:cA d=I)(q:Int)(hq:q<=9223372036854775807)(hb:Below W.heap.size W w):
  Calls prog 34 #[.agg #[M a d.safe.length c,M b d.wr.length e],H G q] w λr w'=>∃v,r=N (S #[v,H G (crashE d q)])/\Below w.heap.size w w'/\∀Y,(∀y∈Y,y∈X\/W.heap.size<=y/\y<w.heap.size)->IsDk (aA w' Y) v (crashK d q):=by
 have B:=(h.ext (Ext.seenL W X)).below hb;by_cases h0:0<=q
 .obtain⟨n,rfl⟩:∃n:Nat,q=n:=⟨q.toNat,by omega⟩;have A:(cA d&&decide (0<=(n:Int)))=I:=by rw[hg];simp
  rw[crashE,crashK,Rb A,Rb A,pd];exact(eT _ d n w B hg (by omega)).mono λ_ w' ⟨v,h1,h2,h3,h4⟩=>⟨v,h1,h3,λY Q=>h2.hideF h4 λy D=>by rcases Q y D with h5|h5;(have:=i y h5;have:=hb.size;omega);exact h5.2⟩
 .have A:¬(cA d&&decide (0<=q))=I:=by rw[hg];simp;omega
  rw[crashE,crashK,Qb A,Qb A];exact(gW _ d q w B (by simpa using A)).mono λ_ w' ⟨h1,h2⟩=>⟨_,h1,h2,λY Q=>h.ext (Ext.amid (vA hb h2) λy D=>(Q y D).imp_right And.left)⟩
theorem oT(R:Nat)(X:List Nat)(j:Jn)(w:K)(h:RAt w R X j)(hX:∀x∈X,x<w.heap.size)(hJ:RJ j)(ah ab an:Int)(B5:ByteArray)(hf:¬400<=j.acts)(hn:an<=9223372036854775807):
  Calls prog 12 #[C (J ⟨R,0,Z⟩),.agg #[H G 10,H G ah,H G ab,H G an,A B5]] w (nD w R X (doJ j ⟨10,ah,ab,an,B5⟩)):=by
 have A3:=h.1;have A2:=h.lt;obtain⟨V,h⟩:=h.rs;have e:=zA (h.rs4 (j.acts+1) (T #[H G 10,H G ah,H G ab,H G an,A B5] 24) (T #[H G 0,H G 0,A ⟨#[]⟩] 31));have K1:Hid ((((w.setCell ⟨R,56,Z⟩ (H G (j.acts+1))).alloc (T #[H G 10,H G ah,H G ab,H G an,A B5] 24)).alloc (T #[H G 0,H G 0,A ⟨#[]⟩] 31)).heap[w.heap.size+1]?=J (T #[H G 0,H G 0,A ⟨#[]⟩] 31 (0,0))):=aC (by simp[World.setCell]);have n:Hid ((((w.setCell ⟨R,56,Z⟩ (H G (j.acts+1))).alloc (T #[H G 10,H G ah,H G ab,H G an,A B5] 24)).alloc (T #[H G 0,H G 0,A ⟨#[]⟩] 31)).heap[w.heap.size]?=J (T #[H G 10,H G ah,H G ab,H G an,A B5] 24 (0,0))):=yA (qA _ _) (by simp[World.setCell]) (aC (by simp[World.setCell]));have z1:(((w.setCell ⟨R,56,Z⟩ (H G (j.acts+1))).alloc (T #[H G 10,H G ah,H G ab,H G an,A B5] 24)).alloc (T #[H G 0,H G 0,A ⟨#[]⟩] 31)).heap.size=w.heap.size+2:=by simp[World.setCell]
 have HX:Hid (∀y∈((w.heap.size+1)::X),y<(((w.setCell ⟨R,56,Z⟩ (H G (j.acts+1))).alloc (T #[H G 10,H G ah,H G ab,H G an,A B5] 24)).alloc (T #[H G 0,H G 0,A ⟨#[]⟩] 31)).heap.size):=λy hy=>by
  rw[z1];rcases Xc.1 hy with rfl|hy
  .omega
  .have:=hX y hy;omega
 have HJ:=zA hJ;have HZ:=zA z1;obtain⟨x,xf⟩:=kA h.k;unfold fA at x;have B0:IntKind.i64.wrap (j.acts+1)=j.acts+1:=by have:=hJ.a0;have:=hJ.a1;rw[Bc];omega
 have A7:(j.acts==400)=O:=Ec.2 (by have:=hJ.a1;omega);have A9:w.heap.size≠R:=by omega
 have A6:w.heap.size+1≠R:=by omega
 clear hJ hX h z1;go_enter func12,ntmps12;have E:Hid (doJ j ⟨10,ah,ab,an,B5⟩=crashJ {j with acts:=j.acts+1} an):=by rw[Hid];simp[doJ,hf,MC]
 clear hf;go_wp2;rename_i KK A4;refine(show∀W5,W5=_->Code.wp prog _ _ _ W5 from λW5 C2=>?_) _ rfl;rw[<-C2]at e K1 n HX HZ;have l1:w.heap.size+1<W5.heap.size:=by rw[HZ.o];omega
 have lA:w.heap.size<W5.heap.size:=by omega
 clear C2 x xf;refine(show∀A0:Act,A0=_->Code.wp prog _ _ A0 _ from λA0 B2=>?_) _ rfl;have C0:A0.tmps.size=270:=by rw[B2];rfl
 have l:A0.defers=[]:=by rw[B2]
 have U:A0.eval (.tmp 0)=C (J ⟨R,0,Z⟩):=by rw[B2];rfl
 have v3:A0.eval (.tmp 3)=C (J ⟨w.heap.size,0,Z⟩):=by rw[B2];rfl
 have v4:A0.eval (.tmp 4)=C (J ⟨w.heap.size+1,0,Z⟩):=by rw[B2];rfl
 have v5:A0.eval (.tmp 5)=.func (.func 32) #[] #[]:=by rw[B2];rfl
 have z:A0.eval (.tmp 6)=undef:=by rw[B2];rfl
 clear B2;refine YE (W:=W5) 6 6 [C (J ⟨R,0,Z⟩),C (J ⟨R,0,Z⟩),C (J ⟨R,0,Z⟩),dkR j V,C (J ⟨w.heap.size,3,Z⟩),H G an] (H G (crashE j.disk an)) ((w.heap.size+1)::X) (λv w=>IsDk w v (crashK j.disk an)) 45 #[M Z 0 0,M Z 0 0] (by kernel_rfl) C0 z (Ub _ _).drew (by kernel_rfl) (by kernel_rfl) (by kernel_rfl) ⟨?_,?_,?_,?_,?_,?_,trivial⟩ (λ_ _ _ he h=>h.ext he) (λv w h=>by obtain⟨a,c,a',c',rfl,_⟩:=h;exact⟨_,rfl,rfl,by simp[Value.oneCell']⟩) ?_ ?_ ?_ ?_ ?_ ?_ ?_
 iterate 6
  refine⟨rfl,⟨_,rfl,by decide,by decide⟩,λa u B3 B7 B4=>.inl ?_⟩;have L:=(B3.other 0 rfl).trans U;have z3:=(B3.other 3 rfl).trans v3;have B6:=Act.eval_const a;have F:=Act.eval_func a;obtain⟨c0,_⟩:=kA ((e.o.below B7).k);unfold fA at c0;obtain⟨c1,_⟩:=kA (yA B7 lA n.o)
  revert B4 L z3 B6 F
  generalize a.eval=ρ;intro B4 L z3 B6 F;simp[Region.binds]at B4;simp only[execOp,dkR,List.getD_cons_succ,List.getD_cons_zero]
  go_simp
 .intro a u B3 B7 B4;simp[Region.binds]at B4;refine⟨34,#[dkR j V,H G an],?_,jY e.o.r.disk HX.o HJ.o.disk an hn B7⟩;have F:=Act.eval_func a
  revert B4 F
  generalize a.eval=ρ;intro B4 F;simp only[execOp]
  go_simp
 rotate_left
 iterate 5 (intros;simp only[execOp];go_simp)
 intro a w2 B cs B3 hB pT pE hT m q;obtain⟨Y,S,b,C1,A5,_⟩:=id q;cases A5;have B9:=(B3.other 0 rfl).trans U;have N:=(B3.other 4 rfl).trans v4;have B8:=(B3.other 5 rfl).trans v5;obtain⟨g,i,rfl⟩:=nB a 270 (B3.size.trans C0) (B3.defers.trans l);rw[i]at pT pE B9 N B8;simp only[List.range,List.range.loop,List.map_cons,List.map_nil,pT,pE,B9,N,B8];show KK _ _;apply A4;have Q:=zA (e.o.below hB);have K2:=zA (yA hB l1 K1.o);have KD:=zA m;have HD:=zA (q.ext (Ext.lessL B));have s:w.heap.size+1<w2.heap.size:=Xb l1 hB.size;have l3:B<w2.heap.size:=(Wb.1 m).1;have m2:=Q.o.lt;have B1:B≠R:=by omega
 clear B3 hB m q A4 pT pE B9 N B8 i e K1 n HX HZ;by_cases he:(crashE j.disk an)=0
 rotate_left
 .have E:Hid (doJ j ⟨10,ah,ab,an,B5⟩=({j with acts:=j.acts+1},eA (crashE j.disk an))):=by rw[Hid,E.o,crashJ,Qb he]
  have A8:((crashE j.disk an)==0)=O:=Ec.2 he;clear he;generalize (crashE j.disk an)=ec at *;go_wp2_with fail;refine(kD ec _).mono ?_;rintro _ w9 ⟨rfl,D⟩;have S9:=zA (Q.o.below D);obtain⟨y,yf⟩:=kA (yA D s K2.o);have l9:w.heap.size+1<w9.heap.size:=Xb s D.size;clear D;go_wp2;exact Tb (by simp[results,results12,go_sem,y];try rfl) rfl ⟨by rw[E.o];try rfl,by rw[E.o];exact S9.o.replyB A3 A2 (Fc _) _ _ _⟩
 have E:Hid (doJ j ⟨10,ah,ab,an,B5⟩=((⟨j.acts+1,(crashK j.disk an),0,0,j.last,I,λ_=>0,λ_=>0,gA 0,gA 0,[],[],0,0,0,[]⟩:Jn),eA 0)):=by rw[Hid,E.o,crashJ,Rb he]
 rw[he];clear he;go_wp2;rename_i K3 A1;refine(show∀A0:Act,A0=_->Code.wp prog _ _ A0 _ from λA0 B2=>?_) _ rfl;have C0:A0.tmps.size=270:=by rw[B2];rfl
 have l:A0.defers=[]:=by rw[B2]
 have U:A0.eval (.tmp 0)=C (J ⟨R,0,Z⟩):=by rw[B2];rfl
 have v4:A0.eval (.tmp 4)=C (J ⟨w.heap.size+1,0,Z⟩):=by rw[B2];rfl
 have v5:A0.eval (.tmp 5)=.func (.func 32) #[] #[]:=by rw[B2];rfl
 have z:A0.eval (.tmp 6)=C (J ⟨B,0,Z⟩):=by rw[B2];rfl
 have v7:A0.eval (.tmp 7)=H G 0:=by rw[B2];rfl
 clear B2;refine tG (W:=w2) 12 [Is (C (J ⟨R,0,Z⟩)),Is (.agg #[M Y (crashK j.disk an).safe.length S,M b (crashK j.disk an).wr.length C1]),Is (C (J ⟨R,0,Z⟩)),Is (C (J ⟨R,0,Z⟩)),Is (C (J ⟨R,55,Z⟩)),Is (H G j.last),Is (C (J ⟨R,0,Z⟩)),Is (C (J ⟨R,0,Z⟩)),Is (C (J ⟨R,56,Z⟩)),Is (H G (j.acts+1)),Is (.agg (fA (⟨j.acts+1,(crashK j.disk an),0,0,j.last,I,λ_=>0,λ_=>0,gA 0,gA 0,[],[],0,0,0,[]⟩:Jn) (⟨Y,S,b,C1,Z,0,Z,0,Z,0,Z,0,Z,0,Z,0,Z,0,Z,0,Z,0⟩:Sl))),Is (C (J ⟨R,0,Z⟩))] (by kernel_rfl) (by kernel_rfl) (by kernel_rfl) (by kernel_rfl) (Ub _ _).drew ⟨?_,?_,?_,?_,?_,?_,?_,?_,?_,?_,?_,?_,trivial⟩ ?_
 iterate 10
  refine OA C0 λa u B3 B7 B4=>⟨_,?_,rfl⟩
  have L:=(B3.other 0 rfl).trans U;have p:=(B3.other 6 rfl).trans z;have B6:=Act.eval_const a;have F:=Act.eval_func a;obtain⟨c0,_⟩:=kA ((Q.o.below B7).k);unfold fA at c0;obtain⟨c1,_⟩:=kA (yA B7 l3 KD.o)
  revert B4 L p B6 F
  generalize a.eval=ρ;intro B4 L p B6 F;simp[Region.binds,lf,Is]at B4;simp only[execOp]
  go_simp
 .refine OA C0 λa u B3 B7 B4=>⟨_,?_,rfl⟩
  simp[Region.binds,lf,Is]at B4;have B6:=Act.eval_const a
  revert B4 B6
  generalize a.eval=ρ;intro B4 B6;simp only[execOp,fA,gA,wkR]
  go_simp
 refine OA C0 λa u B3 B7 B4=>⟨_,?_,rfl⟩
 have L:=(B3.other 0 rfl).trans U;have p:=(B3.other 6 rfl).trans z;have B6:=Act.eval_const a;have F:=Act.eval_func a;obtain⟨c0,_⟩:=kA ((Q.o.below B7).k);unfold fA at c0;obtain⟨c1,_⟩:=kA (yA B7 l3 KD.o)
 revert B4 L p B6 F
 generalize a.eval=ρ;intro B4 L p B6 F;simp[Region.binds,lf,Is]at B4;simp only[execOp]
 go_simp
 intro a w6 B3 d B4;have p70:a.eval (.tmp 70)=C (J ⟨R,0,Z⟩):=B4 11 (by decide);have p69:a.eval (.tmp 69)=.agg (fA (⟨j.acts+1,(crashK j.disk an),0,0,j.last,I,λ_=>0,λ_=>0,gA 0,gA 0,[],[],0,0,0,[]⟩:Jn) (⟨Y,S,b,C1,Z,0,Z,0,Z,0,Z,0,Z,0,Z,0,Z,0,Z,0,Z,0⟩:Sl)):=B4 10 (by decide);refine⟨_,WI 59 (.tmp 70) (.tmp 69) R _ rfl p70 p69 _ _ (Q.o.below d).k rfl rfl (by simp[fA,Value.oneCell']),?_⟩;have B9:=(B3.other 0 rfl).trans U;have N:=(B3.other 4 rfl).trans v4;have B8:=(B3.other 5 rfl).trans v5;have f7:=(B3.other 7 rfl).trans v7;obtain⟨g,i,rfl⟩:=nB a 270 (B3.size.trans C0) (B3.defers.trans l);rw[i]at B9 N B8 f7;simp only[List.range,List.range.loop,List.map_cons,List.map_nil,B9,N,B8,f7];show K3 _ _;apply A1;have S7:=zA ((Q.o.below d).all (j':=(⟨j.acts+1,(crashK j.disk an),0,0,j.last,I,λ_=>0,λ_=>0,gA 0,gA 0,[],[],0,0,0,[]⟩:Jn)) (V':=(⟨Y,S,b,C1,Z,0,Z,0,Z,0,Z,0,Z,0,Z,0,Z,0,Z,0,Z,0⟩:Sl)) ⟨HD.o.ext (Ext.freshL d),FC _ _,FC _ _,.inl rfl,.inl rfl,.inl rfl,Sb _,bF _⟩);have K7:=zA ((Ff w6 R (w.heap.size+1) (fA (⟨j.acts+1,(crashK j.disk an),0,0,j.last,I,λ_=>0,λ_=>0,gA 0,gA 0,[],[],0,0,0,[]⟩:Jn) (⟨Y,S,b,C1,Z,0,Z,0,Z,0,Z,0,Z,0,Z,0,Z,0,Z,0,Z,0⟩:Sl)) A6).trans (yA d s K2.o));have l7:w.heap.size+1<(w6.setRow R (fA (⟨j.acts+1,(crashK j.disk an),0,0,j.last,I,λ_=>0,λ_=>0,gA 0,gA 0,[],[],0,0,0,[]⟩:Jn) (⟨Y,S,b,C1,Z,0,Z,0,Z,0,Z,0,Z,0,Z,0,Z,0,Z,0,Z,0⟩:Sl))).heap.size:=by rw[setRow_size];exact Xb s d.size
 clear B3 d B4 p70 p69 Q K2 KD HD s l3 B9 N B8 f7 i A1;go_wp2_with fail;refine(kD 0 _).mono ?_;rintro _ w9 ⟨rfl,D⟩;have S9:=zA (S7.o.below D);obtain⟨y,yf⟩:=kA (yA D l7 K7.o);have l9:w.heap.size+1<w9.heap.size:=Xb l7 D.size;clear D;go_wp2;exact Tb (by simp[results,results12,go_sem,y];try rfl) rfl ⟨by rw[E.o];try rfl,by rw[E.o];exact S9.o.replyB A3 A2 (Fc _) _ _ _⟩
