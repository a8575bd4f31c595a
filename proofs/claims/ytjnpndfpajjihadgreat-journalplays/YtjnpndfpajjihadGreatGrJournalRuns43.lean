import Derived.Test.YtjnpndfpajjihadGreatGrJournalRuns0
import Derived.Deep.RegionHeld
set_option maxRecDepth 100000
set_option maxHeartbeats 40000000
namespace Go.Proofs.YtjnpndfpajjihadGreat
open Go.Proofs.Tryz
open Go.RowKit
open Value renaming int -> H,slice -> M,string -> A,bool -> Y,agg -> F,tuple -> S
open IntKind renaming i64 -> G
open Option renaming none -> Z,some -> J
open Bool renaming false -> O,true -> I
open Go renaming World -> K,Value -> E
open Ending renaming returned -> N
open _root_.ByteArray renaming empty -> U
theorem rE(x:Int)(w:K)(h0:0<=x)(h1:x<256):
  Calls prog 73 #[H G x] w λe B=>e=N (A (JA x.toNat))/\Below w.heap.size w B:=by
 obtain⟨n,rfl⟩:=Jd h0;exact nZ n w (by omega)
theorem VX(v:E)(m:Mk)(w:K)(h:IsMk w v m)(R:m.tags.length*8<=140737488355328)(L:¬goodM m=0):
  Calls prog 31 #[v] w λe X=>e=N (S #[A (encT m),H G (goodM m)])/\Below w.heap.size w X:=by
 have D:=zA h;obtain⟨a,c,a',c',rfl,_,_,_,_⟩:=h;have C:Hid (encT m=U):=by rw[Hid,encT,Qb L]
 have A0:(goodM m !=0)=I:=by simpa using L
 clear L;go_enter func31,ntmps31;go_wp2_with fail;refine(cG _ m _ (D.o.below (qA _ _)) R).mono ?_;rintro e w1 ⟨rfl,Q⟩;have B:=zA (vA (qA _ _) Q);clear Q;go_wp2
 go_ret2
 exact⟨by rw[C.o];rfl,B.o⟩
theorem EV(q p:Int)(a:Option Addr)(n c:Nat)(a':Option Addr)(z c':Nat)(w:K)(B1:1<=q)(B3:q<=2147483647)(A3:0<=p)(B2:p<=23)(x:∀u,Below w.heap.size w u->Calls prog 72 #[F #[H G 1,H G q,H G p,M a n c,M a' z c']] u λe w2=>e=N (H G 0)/\Below u.heap.size u w2):
  Calls prog 31 #[F #[H G 1,H G q,H G p,M a n c,M a' z c']] w λe u=>e=N (S #[A (fitT (YB 1 q++JA p.toNat)),H G 0])/\Below w.heap.size w u:=by
 have j:=zA x;clear x;go_enter func31,ntmps31;go_wp2_with fail;refine(j.o _ (qA _ _)).mono ?_;rintro e B ⟨rfl,y⟩;have A4:=xA y (b:=w.heap.size) (o:=0) (v:=H G 1) (by simp) (by simp[go_sem]);have h:=xA y (b:=w.heap.size) (o:=1) (v:=H G q) (by simp) (by simp[go_sem]);have d:=xA y (b:=w.heap.size) (o:=2) (v:=H G p) (by simp) (by simp[go_sem]);have O:=xA y (b:=w.heap.size) (o:=3) (v:=M a n c) (by simp) (by simp[go_sem]);have A7:=xA y (b:=w.heap.size) (o:=4) (v:=M a' z c') (by simp) (by simp[go_sem]);have D:w.heap.size<B.heap.size:=by have:=y.size;simp at this;omega
 have A8:Hid (∀u,Below B.heap.size B u->Hid (Below B.heap.size B u)/\u.cell? ⟨w.heap.size,0,Z⟩=J (H G 1)/\u.cell? ⟨w.heap.size,1,Z⟩=J (H G q)/\u.cell? ⟨w.heap.size,2,Z⟩=J (H G p)/\u.cell? ⟨w.heap.size,3,Z⟩=J (M a n c)/\u.cell? ⟨w.heap.size,4,Z⟩=J (M a' z c')):=by
  intro u hb;exact⟨hb,xA hb D A4,xA hb D h,xA hb D d,xA hb D O,xA hb D A7⟩
 have Y:=zA (vA (qA _ _) y);have A9:IntKind.i64.wrap (q.tdiv 16777216)=q/16777216:=Ud q 16777216 (by omega);have R:IntKind.i64.wrap (q.tdiv 65536)=q/65536:=Ud q 65536 (by omega);have Q:IntKind.i64.wrap (q.tdiv 256)=q/256:=Ud q 256 (by omega);have U:(q/65536).tmod 256=q/65536%256:=Qd (by omega);have B0:(q/256).tmod 256=q/256%256:=Qd (by omega);have X:q.tmod 256=q%256:=Qd (by omega);have A1:∀n,(JA n).size=1:=λ_=>rfl;clear y A4 h d O A7;go_wp2
 go_region_held (λu=>Hid (Below B.heap.size B u)/\u.cell? ⟨w.heap.size,0,Z⟩=J (H G 1)/\u.cell? ⟨w.heap.size,1,Z⟩=J (H G q)/\u.cell? ⟨w.heap.size,2,Z⟩=J (H G p)/\u.cell? ⟨w.heap.size,3,Z⟩=J (M a n c)/\u.cell? ⟨w.heap.size,4,Z⟩=J (M a' z c'))
  (first|exact A8.o _ ((Ub _ _).drew)|(refine A8.o _ ?_;assumption))
  (first|(go_at_call 73;(have C:=(‹Hid (Below B.heap.size B _)/\_›).1);have E:=zA C.o;refine(rE _ _ ?_ ?_).mono ?_;omega;omega;clear C;rintro e A0 ⟨rfl,I⟩;have A2:=vA E.o I;clear I E))
 obtain⟨C,r,i,s,l,m⟩:= ‹Hid (Below B.heap.size B _)/\_›;clear A9 R Q U B0 X;go_wp2_with fail;refine(rE p _ A3 (by omega)).mono ?_;rintro e w2 ⟨rfl,A5⟩;have L:=vA C.o A5;clear A5 r i s l m;go_wp2_with fail;refine(iF _ _).mono ?_;rintro e w3 ⟨rfl,A6⟩;have k:=zA (vA Y.o (vA L A6));clear L A6;go_wp2
 go_ret2
 exact⟨rfl,k.o⟩
theorem kT(q:Int)(a:Option Addr)(n c:Nat)(y:Option Addr)(u x:Nat)(w:K)(A9:1<=q)(B0:q<=2147483647)(r:∀p,Below w.heap.size w p->Calls prog 72 #[F #[H G 4,H G q,H G 0,M a n c,M y u x]] p λe w2=>e=N (H G 0)/\Below p.heap.size p w2):
  Calls prog 31 #[F #[H G 4,H G q,H G 0,M a n c,M y u x]] w λe p=>e=N (S #[A (fitT (YB 4 q)),H G 0])/\Below w.heap.size w p:=by
 have h:=zA r;clear r;go_enter func31,ntmps31;go_wp2_with fail;refine(h.o _ (qA _ _)).mono ?_;rintro e B ⟨rfl,s⟩;have A5:=xA s (b:=w.heap.size) (o:=0) (v:=H G 4) (by simp) (by simp[go_sem]);have z:=xA s (b:=w.heap.size) (o:=1) (v:=H G q) (by simp) (by simp[go_sem]);have Y:=xA s (b:=w.heap.size) (o:=2) (v:=H G 0) (by simp) (by simp[go_sem]);have A3:=xA s (b:=w.heap.size) (o:=3) (v:=M a n c) (by simp) (by simp[go_sem]);have L:=xA s (b:=w.heap.size) (o:=4) (v:=M y u x) (by simp) (by simp[go_sem]);have D:w.heap.size<B.heap.size:=by have:=s.size;simp at this;omega
 have A6:Hid (∀p,Below B.heap.size B p->Hid (Below B.heap.size B p)/\p.cell? ⟨w.heap.size,0,Z⟩=J (H G 4)/\p.cell? ⟨w.heap.size,1,Z⟩=J (H G q)/\p.cell? ⟨w.heap.size,2,Z⟩=J (H G 0)/\p.cell? ⟨w.heap.size,3,Z⟩=J (M a n c)/\p.cell? ⟨w.heap.size,4,Z⟩=J (M y u x)):=by
  intro p hb;exact⟨hb,xA hb D A5,xA hb D z,xA hb D Y,xA hb D A3,xA hb D L⟩
 have U:=zA (vA (qA _ _) s);have X:IntKind.i64.wrap (q.tdiv 16777216)=q/16777216:=Ud q 16777216 (by omega);have O:IntKind.i64.wrap (q.tdiv 65536)=q/65536:=Ud q 65536 (by omega);have A7:IntKind.i64.wrap (q.tdiv 256)=q/256:=Ud q 256 (by omega);have R:(q/65536).tmod 256=q/65536%256:=Qd (by omega);have Q:(q/256).tmod 256=q/256%256:=Qd (by omega);have A8:q.tmod 256=q%256:=Qd (by omega);have A1:∀n,(JA n).size=1:=λ_=>rfl;clear s A5 z Y A3 L;go_wp2
 go_region_held (λp=>Hid (Below B.heap.size B p)/\p.cell? ⟨w.heap.size,0,Z⟩=J (H G 4)/\p.cell? ⟨w.heap.size,1,Z⟩=J (H G q)/\p.cell? ⟨w.heap.size,2,Z⟩=J (H G 0)/\p.cell? ⟨w.heap.size,3,Z⟩=J (M a n c)/\p.cell? ⟨w.heap.size,4,Z⟩=J (M y u x))
  (first|exact A6.o _ ((Ub _ _).drew)|(refine A6.o _ ?_;assumption))
  (first|(go_at_call 73;(have C:=(‹Hid (Below B.heap.size B _)/\_›).1);have E:=zA C.o;refine(rE _ _ ?_ ?_).mono ?_;omega;omega;clear C;rintro e A0 ⟨rfl,I⟩;have A2:=vA E.o I;clear I E))
 obtain⟨C,l,d,m,j,k⟩:= ‹Hid (Below B.heap.size B _)/\_›;clear X O A7 R Q A8;go_wp2_with fail;refine(iF _ _).mono ?_;rintro e w3 ⟨rfl,A4⟩;have i:=zA (vA U.o (vA C.o A4));clear A4 l d m j k;go_wp2
 go_ret2
 exact⟨rfl,i.o⟩
theorem BR(q:Int)(a:Option Addr)(n c:Nat)(a':Option Addr)(c':Nat)(l:List Int)(w:K)(hl:SegI w a' l)(C3:l.length<=20)(B6:∀x∈l,0<=x/\x<=11)(C2:1<=q)(C4:q<=2147483647)(B2:∀w',Below w.heap.size w w'->Calls prog 72 #[F #[H G 3,H G q,H G 0,M a n c,M a' l.length c']] w' λe w2=>e=N (H G 0)/\Below w'.heap.size w' w2):
  Calls prog 31 #[F #[H G 3,H G q,H G 0,M a n c,M a' l.length c']] w λe w'=>e=N (S #[A (fitT (TB (YB 3 q++JA l.length) l)),H G 0])/\Below w.heap.size w w':=by
 have HG:=zA B2;have HL:=zA hl;have r:=zA B6;clear B2 hl B6;go_enter func31,ntmps31;go_wp2_with fail;refine(HG.o _ (qA _ _)).mono ?_;rintro e B ⟨rfl,B3⟩;have d:=xA B3 (b:=w.heap.size) (o:=0) (v:=H G 3) (by simp) (by simp[go_sem]);have x1:=xA B3 (b:=w.heap.size) (o:=1) (v:=H G q) (by simp) (by simp[go_sem]);have x2:=xA B3 (b:=w.heap.size) (o:=2) (v:=H G 0) (by simp) (by simp[go_sem]);have j:=xA B3 (b:=w.heap.size) (o:=3) (v:=M a n c) (by simp) (by simp[go_sem]);have h:=xA B3 (b:=w.heap.size) (o:=4) (v:=M a' l.length c') (by simp) (by simp[go_sem]);have E:w.heap.size<B.heap.size:=by have:=B3.size;simp at this;omega
 have I:Hid (∀w',Below B.heap.size B w'->Hid (Below B.heap.size B w')/\w'.cell? ⟨w.heap.size,0,Z⟩=J (H G 3)/\w'.cell? ⟨w.heap.size,1,Z⟩=J (H G q)/\w'.cell? ⟨w.heap.size,2,Z⟩=J (H G 0)/\w'.cell? ⟨w.heap.size,3,Z⟩=J (M a n c)/\w'.cell? ⟨w.heap.size,4,Z⟩=J (M a' l.length c')):=by
  intro w' hb;exact⟨hb,xA hb E d,xA hb E x1,xA hb E x2,xA hb E j,xA hb E h⟩
 have R:=zA (vA (qA _ _) B3);have A2:IntKind.i64.wrap (q.tdiv 16777216)=q/16777216:=Ud q 16777216 (by omega);have p:IntKind.i64.wrap (q.tdiv 65536)=q/65536:=Ud q 65536 (by omega);have m:IntKind.i64.wrap (q.tdiv 256)=q/256:=Ud q 256 (by omega);have y:(q/65536).tmod 256=q/65536%256:=Qd (by omega);have u:(q/256).tmod 256=q/256%256:=Qd (by omega);have A0:q.tmod 256=q%256:=Qd (by omega);have A8:∀n,(JA n).size=1:=λ_=>rfl;clear B3 d x1 x2 j h;go_wp2
 go_region_held (λw'=>Hid (Below B.heap.size B w')/\w'.cell? ⟨w.heap.size,0,Z⟩=J (H G 3)/\w'.cell? ⟨w.heap.size,1,Z⟩=J (H G q)/\w'.cell? ⟨w.heap.size,2,Z⟩=J (H G 0)/\w'.cell? ⟨w.heap.size,3,Z⟩=J (M a n c)/\w'.cell? ⟨w.heap.size,4,Z⟩=J (M a' l.length c'))
  (first|exact I.o _ ((Ub _ _).drew)|(refine I.o _ ?_;assumption))
  (first|(go_at_call 73;(have C:=(‹Hid (Below B.heap.size B _)/\_›).1);have L:=zA C.o;refine(rE _ _ ?_ ?_).mono ?_;omega;omega;clear C;rintro e A7 ⟨rfl,C0⟩;have B1:=vA L.o C0;clear C0 L))
 obtain⟨C,y0,y1,y2,y3,y4⟩:= ‹Hid (Below B.heap.size B _)/\_›;clear A2 p m y u A0;go_wp2_with fail;refine(rE _ _ (by omega) (by omega)).mono ?_;rintro e w2 ⟨rfl,C1⟩;have B5:=vA C.o C1;have B0:w.heap.size<w2.heap.size:=by have:=B5.size;omega
 have z4:w2.cell? ⟨w.heap.size,4,Z⟩=J (M a' l.length c'):=(I.o _ B5).2.2.2.2.2;have A4:=zA (HL.o.below (vA R.o B5));clear C1 y0 y1 y2 y3 y4;go_wp2;obtain⟨B4,B7⟩:∃B4,B4=YB 3 q++JA l.length:=⟨_,rfl⟩;have O:B4.size=10:=by rw[B7];rfl
 have A1:=zA B7;have A3:=zA O;clear O
 go_loopw [5,88] (λv i wr=>∃k:Nat,k<=l.length/\i=H G k/\v=A (TB B4 (l.take k))/\Below w2.heap.size w2 wr) (λ_ i _=>l.length - (intOf i).toNat)
 case atStart=>exact⟨0,Vb _,rfl,by rw[B7];rfl,Ub _ _⟩
 case round=>
  obtain⟨k,hk,rfl,rfl,D⟩:=hrel;clear B7;obtain⟨t,B8⟩:∃t,t=TB B4 (l.take k):=⟨_,rfl⟩;have A6:t.size<=30:=by rw[B8,WL,A3.o,Nc];omega
  rw[<-B8];have U:=zA B8;clear B8;by_cases hlt:k<l.length
  .obtain⟨b,A9,ha,hb,hc⟩:=A4.o.resolve_left (by intro e;rw[e]at hlt;simp at hlt);obtain⟨x,B9⟩:∃x,x=l.getD k 0:=⟨_,rfl⟩;have Y:=xA D hb (hc k hlt);rw[<-B9]at Y;have HX:Hid (l[k]?=J x):=by rw[B9];exact YA _ _ _ hlt
   have s:=r.o x (Yc HX.o);have HN:Hid (TB B4 (l.take (k+1))=t++JA x.toNat):=by rw[Hid,U.o,Oc,HX.o];exact LP _ _ _
   have A5:(k:Int)<(l.length:Int):=by omega
   clear B9 hc;subst ha;go_wp2_with fail;refine(rE x _ s.1 (by omega)).mono ?_;rintro e w4 ⟨rfl,X⟩;have z:=vA D X;clear X D Y;go_wp2
   go_roundw
   case rel=>exact⟨k+1,by omega,by go_num,by rw[HN.o],z⟩
   case measure=>simp[intOf];omega
  .have e:l.take k=l:=zd (by omega);have HF:Hid (TB (YB 3 q++JA l.length) l=t):=by rw[Hid,U.o,e,A1.o]
   clear e;go_wp2_with fail;refine(iF _ _).mono ?_;rintro e w5 ⟨rfl,Q⟩;have HB:=zA (vA R.o (vA B5 (vA D Q)));clear Q D B5;go_wp2
   go_ret2
   exact⟨by rw[HF.o];rfl,HB.o⟩
theorem YT(q:Int)(a:Option Addr)(c:Nat)(a':Option Addr)(n' c':Nat)(l:List (Int×Bool))(w:K)(hl:SegT w a l)(C6:l.length<=10)(B7:∀x∈l,0<=x.1/\x.1<=11)(C5:1<=q)(C7:q<=2147483647)(B3:∀w',Below w.heap.size w w'->Calls prog 72 #[F #[H G 2,H G q,H G 0,M a l.length c,M a' n' c']] w' λe w2=>e=N (H G 0)/\Below w'.heap.size w' w2):
  Calls prog 31 #[F #[H G 2,H G q,H G 0,M a l.length c,M a' n' c']] w λe w'=>e=N (S #[A (fitT (RB (YB 2 q++JA l.length) l)),H G 0])/\Below w.heap.size w w':=by
 have HG:=zA B3;have HL:=zA hl;have A1:=zA B7;clear B3 hl B7;go_enter func31,ntmps31;go_wp2_with fail;refine(HG.o _ (qA _ _)).mono ?_;rintro e B ⟨rfl,B4⟩;have x0:=xA B4 (b:=w.heap.size) (o:=0) (v:=H G 2) (by simp) (by simp[go_sem]);have x1:=xA B4 (b:=w.heap.size) (o:=1) (v:=H G q) (by simp) (by simp[go_sem]);have x2:=xA B4 (b:=w.heap.size) (o:=2) (v:=H G 0) (by simp) (by simp[go_sem]);have r:=xA B4 (b:=w.heap.size) (o:=3) (v:=M a l.length c) (by simp) (by simp[go_sem]);have x4:=xA B4 (b:=w.heap.size) (o:=4) (v:=M a' n' c') (by simp) (by simp[go_sem]);have E:w.heap.size<B.heap.size:=by have:=B4.size;simp at this;omega
 have I:Hid (∀w',Below B.heap.size B w'->Hid (Below B.heap.size B w')/\w'.cell? ⟨w.heap.size,0,Z⟩=J (H G 2)/\w'.cell? ⟨w.heap.size,1,Z⟩=J (H G q)/\w'.cell? ⟨w.heap.size,2,Z⟩=J (H G 0)/\w'.cell? ⟨w.heap.size,3,Z⟩=J (M a l.length c)/\w'.cell? ⟨w.heap.size,4,Z⟩=J (M a' n' c')):=by
  intro w' hb;exact⟨hb,xA hb E x0,xA hb E x1,xA hb E x2,xA hb E r,xA hb E x4⟩
 have C1:=zA (vA (qA _ _) B4);have A0:IntKind.i64.wrap (q.tdiv 16777216)=q/16777216:=Ud q 16777216 (by omega);have u:IntKind.i64.wrap (q.tdiv 65536)=q/65536:=Ud q 65536 (by omega);have s:IntKind.i64.wrap (q.tdiv 256)=q/256:=Ud q 256 (by omega);have A4:(q/65536).tmod 256=q/65536%256:=Qd (by omega);have A3:(q/256).tmod 256=q/256%256:=Qd (by omega);have y:q.tmod 256=q%256:=Qd (by omega);have A8:∀n,(JA n).size=1:=λ_=>rfl;clear B4 x0 x1 x2 r x4;go_wp2
 go_region_held (λw'=>Hid (Below B.heap.size B w')/\w'.cell? ⟨w.heap.size,0,Z⟩=J (H G 2)/\w'.cell? ⟨w.heap.size,1,Z⟩=J (H G q)/\w'.cell? ⟨w.heap.size,2,Z⟩=J (H G 0)/\w'.cell? ⟨w.heap.size,3,Z⟩=J (M a l.length c)/\w'.cell? ⟨w.heap.size,4,Z⟩=J (M a' n' c'))
  (first|exact I.o _ ((Ub _ _).drew)|(refine I.o _ ?_;assumption))
  (first|(go_at_call 73;(have D:=(‹Hid (Below B.heap.size B _)/\_›).1);have Q:=zA D.o;refine(rE _ _ ?_ ?_).mono ?_;omega;omega;clear D;rintro e B0 ⟨rfl,C2⟩;have B2:=vA Q.o C2;clear C2 Q))
 obtain⟨D,y0,y1,y2,y3,y4⟩:= ‹Hid (Below B.heap.size B _)/\_›;clear A0 u s A4 A3 y;go_wp2_with fail;refine(rE _ _ (by omega) (by omega)).mono ?_;rintro e w2 ⟨rfl,d⟩;have B6:=vA D.o d;have A9:w.heap.size<w2.heap.size:=by have:=B6.size;omega
 have z4:w2.cell? ⟨w.heap.size,3,Z⟩=J (M a l.length c):=(I.o _ B6).2.2.2.2.1;have A2:=zA (HL.o.below (vA C1.o B6));clear d y0 y1 y2 y3 y4;go_wp2;obtain⟨B5,B8⟩:∃B5,B5=YB 2 q++JA l.length:=⟨_,rfl⟩;have U:B5.size=10:=by rw[B8];rfl
 have z:=zA B8;have A5:=zA U;clear U
 go_loopw [5,61] (λv i wr=>∃k:Nat,k<=l.length/\i=H G k/\v=A (RB B5 (l.take k))/\Below w2.heap.size w2 wr) (λ_ i _=>l.length - (intOf i).toNat)
 case atStart=>exact⟨0,Vb _,rfl,by rw[B8];rfl,Ub _ _⟩
 case round=>
  obtain⟨k,hk,rfl,rfl,C⟩:=hrel;clear B8;obtain⟨t,R⟩:∃t,t=RB B5 (l.take k):=⟨_,rfl⟩;have A7:t.size<=30:=by rw[R,qL,A5.o,Nc];omega
  rw[<-R];have h:=zA R;clear R;by_cases hlt:k<l.length
  .obtain⟨b,B1,ha,hb,m⟩:=A2.o.resolve_left (by intro e;rw[e]at hlt;simp at hlt);obtain⟨x,j⟩:∃x,x=l.getD k (0,O):=⟨_,rfl⟩;have C0:=xA C hb (m k hlt).1;have B9:=xA C hb (m k hlt).2;rw[<-j]at C0 B9;have HX:Hid (l[k]?=J x):=by rw[j];exact YA _ _ _ hlt
   have X:=A1.o x (Yc HX.o);have HN:Hid (RB B5 (l.take (k+1))=(t++JA x.1.toNat)++(if x.2 then(⟨#[1]⟩:ByteArray) else⟨#[0]⟩)):=by rw[Hid,h.o,Oc,HX.o];exact PN _ _ _
   have A6:(k:Int)<(l.length:Int):=by omega
   clear j m;subst ha;obtain⟨p,xf⟩:=x;dsimp only at X C0 B9;go_wp2_with fail;refine(rE p _ X.1 (by omega)).mono ?_;rintro e w4 ⟨rfl,L⟩;have g0:=xA L (b:=wr.heap.size) (o:=0) (v:=H G p) (by simp) (by simp[go_sem]);have g1:=xA L (b:=wr.heap.size) (o:=1) (v:=Y xf) (by simp) (by simp[go_sem]);have C3:=vA C (vA (qA _ _) L);clear L C C0 B9
   cases xf with
   |true=>
    go_wp2
    go_roundw
    case rel=>exact⟨k+1,by omega,by go_num,by rw[HN.o];rfl,C3⟩
    case measure=>simp[intOf];omega
   |false=>
    go_wp2
    go_roundw
    case rel=>exact⟨k+1,by omega,by go_num,by rw[HN.o];rfl,C3⟩
    case measure=>simp[intOf];omega
  .have e:l.take k=l:=zd (by omega);have HF:Hid (RB (YB 2 q++JA l.length) l=t):=by rw[Hid,h.o,e,z.o]
   clear e;go_wp2_with fail;refine(iF _ _).mono ?_;rintro e w5 ⟨rfl,C4⟩;have HB:=zA (vA C1.o (vA B6 (vA C C4)));clear C4 C B6;go_wp2
   go_ret2
   exact⟨by rw[HF.o];rfl,HB.o⟩
theorem kH(v:E)(m:Mk)(w:K)(h:IsMk w v m)(i:m.tags.length*8<=140737488355328):
  Calls prog 31 #[v] w λe X=>e=N (S #[A (encT m),H G (goodM m)])/\Below w.heap.size w X:=by
 by_cases hg:goodM m=0
 .have B:∀X,Below w.heap.size w X->Calls prog 72 #[v] X λe k=>e=N (H G 0)/\Below X.heap.size X k:=by
   intro X hb;have:=cG v m X (h.below hb) i;rw[hg]at this;exact this
  obtain⟨⟨k1,k2⟩,⟨d,F,l,p2⟩,⟨f1,f2,f3⟩,n,hb,M,J⟩:=EG hg;have I:encT m=fitT (XC m):=by rw[encT,Rb hg]
  rw[I,hg];clear I hg;obtain⟨a,c,D,C,rfl,Q,L,hn,A0⟩:=h;obtain⟨kind,seq,pos,R,b⟩:=m;dsimp only at *;have O:kind=1\/kind=2\/kind=3\/kind=4:=by omega
  rcases O with rfl|rfl|rfl|rfl
  .rw[show XC ⟨1,seq,pos,R,b⟩=YB 1 seq++JA pos.toNat from rfl];exact EV seq pos a _ c D _ C w d F l p2 B
  .obtain rfl:=f1 (by decide);rw[show XC ⟨2,seq,0,R,b⟩=RB (YB 2 seq++JA R.length) R from rfl];exact YT seq a c D _ C R w Q (n rfl).2 (λx j=>gG _ _ M (by omega) x.1 (Wc.2 ⟨x,j,rfl⟩)) d F B
  .obtain rfl:=f1 (by decide);rw[show XC ⟨3,seq,0,R,b⟩=TB (YB 3 seq++JA b.length) b from rfl];exact BR seq a _ c D C b w L (hb rfl).2 (gG _ _ J (by omega)) d F B
  .obtain rfl:=f1 (by decide);rw[show XC ⟨4,seq,0,R,b⟩=YB 4 seq from rfl];exact kT seq a _ c D _ C w d F B
 .exact VX v m w h i hg
