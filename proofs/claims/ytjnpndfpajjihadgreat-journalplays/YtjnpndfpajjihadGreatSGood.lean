import Derived.Test.YtjnpndfpajjihadGreatGrJournalRuns9
import Derived.Test.YtjnpndfpajjihadGreatGrJournalRuns2
namespace Go.Proofs.YtjnpndfpajjihadGreat
open Go.Proofs.Tryz
set_option maxRecDepth 100000
set_option maxHeartbeats 40000000
open Go.RowKit
open Value renaming int -> H,slice -> M,bool -> Y,agg -> F
open IntKind renaming i64 -> G
open Option renaming none -> Z,some -> J
open Bool renaming false -> O,true -> I
open Go renaming World -> K,Value -> E
open Obj renaming cells -> T
open Ending renaming returned -> N
def tB {α:Type}(z:α)(l:List α)(k:Nat):List α:=l.take k++List.replicate (l.length - k) z
theorem AH{α:Type}(z:α)(l:List α):tB z l 0=List.replicate l.length z:=by simp[tB]
theorem CH{α:Type}(z:α)(l:List α):tB z l l.length=l:=by simp[tB]
theorem XH{α:Type}(z:α)(l:List α)(k:Nat)(h:k<=l.length):(tB z l k).length=l.length:=by simp[tB];omega
theorem nH{α:Type}(z:α)(l:List α)(k:Nat)(x:α)(h:l[k]?=J x):(tB z l k).set k x=tB z l (k+1):=by
 have hk:k<l.length:=(gd.1 h).1;have A:(l.take k).length=k:=by rw[Nc];omega
 rw[tB,wg _ _ (by omega),A,Fe,show l.length - k=(l.length - (k+1))+1 from by omega,Ag,Bg,tB,Oc,h];simp
theorem SL(l:List Int)(k:Nat)(x:Int):(cellsI l).set k (H G x)=cellsI (l.set k x):=by simp[cellsI,List.map_set]
theorem jX(n:Nat):cellsI (List.replicate n 0)=List.replicate n (H G 0):=by simp[cellsI]
theorem XL(n:Nat)(h:n<=1000)(w:K):(Instr.makeSlice 47 (H G (n:Int)) (H G (n:Int))).run prog w=.ok (M (J ⟨w.heap.size,0,Z⟩) n n) (w.alloc (T (cellsI (List.replicate n 0)).toArray 3)):=by
 obtain⟨D,F,B,C,A⟩:=Gc zE;have:=run_make (P:=prog) w 47 3 D (H G 0) underlying47 F B G G n n (by omega) (by omega) (by rw[A];omega) (by omega);rw[this,C,pd,jX]
 congr 3
 apply Array.ext
 .simp[madeCells]
 .intro i h1 E;have A0:i<n:=by simpa using E
  simp[madeCells,Nat.mod_one,Value.cells]
theorem MV(a:Option Addr)(c:Nat)(l:List (Int×Bool))(w:K)(h:SegT w a l)(hn:l.length<=10):
  Calls prog 185 #[M a l.length c] w λe d=>∃j c2,e=N (M j l.length c2)/\SegI d j (l.map (·.1))/\Below w.heap.size w d:=by
 have s:=zA h;clear h;have A2:=XL l.length (by omega);obtain⟨nums,B⟩:∃nums,nums=l.map (·.1):=⟨_,rfl⟩;have C:nums.length=l.length:=by rw[B,xd]
 have m:=zA B;have I:=zA C;go_enter func185,ntmps185;go_wp2;clear B C
 go_loopw [11] (λi wr=>∃k:Nat,k<=l.length/\i=H G k/\Hid (wr.heap[w.heap.size]?=J (T (cellsI (tB 0 nums k)).toArray 3 (0,0)))/\Below w.heap.size w wr) (λi _=>l.length - (intOf i).toNat)
 case atStart=>exact⟨0,Vb _,rfl,by rw[AH,I.o];exact Cc w _,qA _ _⟩
 case round=>
  obtain⟨k,hk,rfl,A,D⟩:=hrel;have p:w.heap.size<wr.heap.size:=(Wb.1 A.o).1;by_cases hlt:k<l.length
  .obtain⟨b,A1,rfl,hb,q⟩:=s.o.resolve_left (by intro e;rw[e]at hlt;simp at hlt);obtain⟨x,L⟩:∃x,x=l.getD k (0,O):=⟨_,rfl⟩;obtain⟨F,E⟩:=q k hlt;rw[<-L]at F E;have R:Hid (nums[k]?=J x.1):=by rw[Hid,m.o,Ld,L,YA l k (0,O) hlt];rfl
   have g1:=xA D hb F;have g2:=xA D hb E;clear L q F E;obtain⟨n,f⟩:=x;have A0:(k:Int)<(l.length:Int):=by omega
   obtain⟨y,hy⟩:∃y,wr.cell? ⟨w.heap.size,k,Z⟩=J (H G y):=by
    have C:k<(tB 0 nums k).length:=by rw[XH _ _ _ (by rw[I.o];omega),I.o];exact hlt
    refine⟨(tB 0 nums k)[k],?_⟩;rw[Hc wr _ _ _ _ _ A.o];simp[cellsI,C]
   have fz:=jd wr _ k _ _ A.o;go_wp2
   go_roundw
   case rel=>
    refine⟨k+1,by omega,by go_num,?_,(D.setCell (by simp) _).alloc (by simp;omega) _⟩;refine(kd _ _ _ (by simpa using p)).trans ?_;rw[zc _ _ _ _ _ _ A.o,<-nH 0 nums k n R.o,<-SL];simp
   case measure=>simp[intOf];omega
  .have e:k=l.length:=by omega
   subst e;have X:=A.o;rw[<-I.o,CH]at X;have Q:=zA X;clear X A;go_wp2;go_ret;refine⟨_,_,rfl,?_,D⟩;rw[<-m.o];by_cases h0:nums=[]
   .exact .inl h0
   .refine .inr ⟨w.heap.size,0,rfl,p,λi r=>?_⟩;rw[Hc wr _ _ _ _ _ Q.o,Dc];have:=dH nums i r
    simpa using this
theorem rU(a:Option Addr)(c:Nat)(l:List Int)(n:Nat)(w:K)(h:SegI w a l)(B:l.length=n)(L:n<=maxLen):
  Calls prog 184 #[M a n c] w λe D=>e=N (Y (iA l))/\w=D:=by
 subst B;exact jP a c l w h L
theorem zY(q p:Int)(a:Option Addr)(c:Nat)(b:Option Addr)(L R:Nat)(l:List (Int×Bool))(w:K)(h:SegT w a l)(X:l.length<=maxLen):
  Calls prog 120 #[F #[H G 2,H G q,H G p,M a l.length c,M b L R]] w λe Q=>e=N (Y (sA l.length 1 10&&iA (l.map (·.1))))/\Below w.heap.size w Q:=by
 have d:=zA h;unfold maxLen at X;clear h;go_enter func120,ntmps120;go_wp2_with fail;refine(FG l.length 1 10 _).mono ?_;rintro e I ⟨rfl,rfl⟩
 cases hw:sA l.length 1 10 with
 |false=>
  have C:=zA hw;clear hw;go_wp2;go_ret;exact⟨by rw[C.o,Bool.false_and];rfl,qA _ _⟩
 |true=>
  have i:=QF hw;have E:l.length<=10:=by omega
  have C:=zA hw;clear i hw;go_wp2_with fail;refine(MV _ _ l _ (d.o.below (qA _ _)) E).mono ?_;rintro e I ⟨a2,c2,rfl,A,B⟩;have D:=zA A;have J:=zA (vA (qA _ _) B);clear A B;go_wp2_with fail;refine(rU _ _ (l.map (·.1)) l.length _ D.o (xd _) (by unfold maxLen;omega)).mono ?_;rintro e w2 ⟨rfl,rfl⟩;go_wp2;go_ret;exact⟨by rw[C.o,Uf];rfl,J.o⟩
theorem AT(q p:Int)(a:Option Addr)(n c:Nat)(L:Option Addr)(R:Nat)(l:List Int)(w:K)(h:SegI w L l)(D:l.length<=maxLen):
  Calls prog 120 #[F #[H G 3,H G q,H G p,M a n c,M L l.length R]] w λe Q=>e=N (Y (sA l.length 1 20&&iA l))/\Below w.heap.size w Q:=by
 have C:=zA h;have B:=zA D;unfold maxLen at D;clear h;go_enter func120,ntmps120;go_wp2_with fail;refine(FG l.length 1 20 _).mono ?_;rintro e w1 ⟨rfl,rfl⟩
 cases hw:sA l.length 1 20 with
 |false=>
  have A:=zA hw;clear hw;go_wp2;go_ret;exact⟨by rw[A.o,Bool.false_and];rfl,qA _ _⟩
 |true=>
  have A:=zA hw;clear hw;go_wp2_with fail;refine(jP _ _ l _ (C.o.below (qA _ _)) B.o).mono ?_;rintro e w2 ⟨rfl,rfl⟩;go_wp2;go_ret;exact⟨by rw[A.o,Uf];rfl,qA _ _⟩
theorem EM(k q p:Int)(a:Option Addr)(n c:Nat)(Q:Option Addr)(B R:Nat)(w:K)(D:k=1\/k=4):
  Calls prog 120 #[F #[H G k,H G q,H G p,M a n c,M Q B R]] w λe L=>e=N (Y I)/\Below w.heap.size w L:=by
 rcases D with rfl|rfl
 all_goals
  go_enter func120,ntmps120;go_wp2;go_ret;exact⟨rfl,qA _ _⟩
def VF (m:Mk):Bool:=if m.kind=2 then sA m.tags.length 1 10&&iA (m.tags.map (·.1)) else if m.kind=3 then sA m.blocks.length 1 20&&iA m.blocks else I
theorem TY{m:Mk}(h:¬((m.kind≠1/\m.pos≠0)\/(m.kind≠2/\m.tags≠[])\/(m.kind≠3/\m.blocks≠[])))(hb:VF m=I):
  ¬((m.kind=2/\(m.tags.length<1\/10<m.tags.length))\/(m.kind=3/\(m.blocks.length<1\/20<m.blocks.length))\/iA (m.tags.map (·.1))=O\/iA m.blocks=O):=by
 have D:m.kind≠2->m.tags=[]:=λe=>ig λx=>h (.inr (.inl ⟨e,x⟩));have b0:m.kind≠3->m.blocks=[]:=λe=>ig λx=>h (.inr (.inr ⟨e,x⟩));unfold VF at hb;rintro(⟨A,C⟩|⟨A,C⟩|B|B)
 .rw[Rb A,Ue]at hb;have:=QF hb.1;omega
 .rw[Qb (by omega),Rb A,Ue]at hb;have:=QF hb.1;omega
 .by_cases A:m.kind=2
  .rw[Rb A,Ue]at hb;rw[B]at hb;cases hb.2
  .rw[D A]at B;cases B
 .by_cases A:m.kind=3
  .rw[Qb (by omega),Rb A,Ue]at hb;rw[B]at hb;cases hb.2
  .rw[b0 A]at B;cases B
theorem vb{m:Mk}(hb:VF m=O):
  (m.kind=2/\(m.tags.length<1\/10<m.tags.length))\/(m.kind=3/\(m.blocks.length<1\/20<m.blocks.length))\/iA (m.tags.map (·.1))=O\/iA m.blocks=O:=by
 unfold VF at hb;by_cases hk:m.kind=2
 .rw[Rb hk,Og]at hb;rcases hb with hb|hb
  .have:=bG hb;exact .inl ⟨hk,by omega⟩
  .exact .inr (.inr (.inl hb))
 .rw[Qb hk]at hb;by_cases hk3:m.kind=3
  .rw[Rb hk3,Og]at hb;rcases hb with hb|hb
   .have:=bG hb;exact .inr (.inl ⟨hk3,by omega⟩)
   .exact .inr (.inr (.inr hb))
  .rw[Qb hk3]at hb;cases hb
theorem NT(v:E)(m:Mk)(w:K)(h:IsMk w v m)(L:m.kind=1\/m.kind=2\/m.kind=3\/m.kind=4):
  Calls prog 120 #[v] w λe Q=>e=N (Y (VF m))/\Below w.heap.size w Q:=by
 obtain⟨a,c,B,C,rfl,I,F,J,R⟩:=h;obtain⟨kind,seq,pos,D,A⟩:=m;dsimp only at L;rcases L with rfl|rfl|rfl|rfl
 .exact EM 1 seq pos a _ c B _ C w (.inl rfl)
 .exact zY seq pos a c B _ C D w I J
 .exact AT seq pos a _ c B C A w F R
 .exact EM 4 seq pos a _ c B _ C w (.inr rfl)
theorem qQ(v:E)(m:Mk)(w:K)(h:IsMk w v m):
  Calls prog 68 #[v] w λe s=>e=N (H G (goodM m))/\Below w.heap.size w s:=by
 have l:=zA h;obtain⟨a,c,j,U,rfl,_,_,Z,b⟩:=h;go_enter func68,ntmps68;go_wp2_with fail;refine(FG m.kind 1 4 _).mono ?_;rintro e F ⟨rfl,rfl⟩
 cases h1:sA m.kind 1 4 with
 |false=>
  have A:Hid (goodM m=3):=by rw[Hid,goodM,Rb (by have:=bG h1;omega)]
  clear h1;go_wp2;go_ret;exact⟨by rw[A.o];rfl,qA _ _⟩
 |true=>
  have d:=QF h1;clear h1;have C:¬(m.kind<1\/4<m.kind):=by omega
  go_wp2_with fail;refine(FG m.seq 1 2147483647 _).mono ?_;rintro e F ⟨rfl,rfl⟩
  cases h2:sA m.seq 1 2147483647 with
  |false=>
   have A:Hid (goodM m=2):=by rw[Hid,goodM,Qb C,Rb (by have:=bG h2;omega)]
   clear h2 C;go_wp2;go_ret;exact⟨by rw[A.o];rfl,qA _ _⟩
  |true=>
   have i:=QF h2;clear h2;go_wp2_with fail;refine(FG m.pos 0 23 _).mono ?_;rintro e F ⟨rfl,rfl⟩
   cases h3:sA m.pos 0 23 with
   |false=>
    have A:Hid (goodM m=2):=by rw[Hid,goodM,Qb C,Rb (by have:=bG h3;omega)]
    clear h3 C;go_wp2;go_ret;exact⟨by rw[A.o];rfl,qA _ _⟩
   |true=>
    have Q:=QF h3;clear h3;have O:¬(m.seq<1\/2147483647<m.seq\/m.pos<0\/23<m.pos):=by omega
    have q:m.kind=1\/m.kind=2\/m.kind=3\/m.kind=4:=by omega
    have L:=zA q;have D:=zA C;have p:=zA O;clear q C O d i Q;go_wp2_with fail;refine(oX m.kind m.pos a m.tags.length c j m.blocks.length U _ L.o m.seq Z b).mono ?_;rintro e F ⟨rfl,B⟩;have A0:w.heap.size<F.heap.size:=by have:=B.size;simp at this;omega
    obtain⟨⟨R,k,Y,X,S⟩,_⟩:=LA (TG B);have n:=zA (vA (qA _ _) B);clear B
    cases h4:NG m.kind m.pos m.tags.length m.blocks.length with
    |true=>
     have A:Hid (goodM m=1):=by
      rw[Hid,goodM,Qb D.o,Qb p.o,Rb];simp only[NG,decide_eq_true_eq]at h4;rcases h4 with h|h|h
      .exact .inl ⟨h.2,h.1⟩
      .exact .inr (.inl ⟨h.2,λe=>by rw[e]at h;simp at h⟩)
      .exact .inr (.inr ⟨h.2,λe=>by rw[e]at h;simp at h⟩)
     clear h4;go_wp2;go_ret;exact⟨by rw[A.o];rfl,n.o⟩
    |false=>
     have M:Hid (¬((m.kind≠1/\m.pos≠0)\/(m.kind≠2/\m.tags≠[])\/(m.kind≠3/\m.blocks≠[]))):=by
      intro h
      have:NG m.kind m.pos m.tags.length m.blocks.length=I:=by
       simp only[NG,decide_eq_true_eq];rcases h with h|h|h
       .exact .inl ⟨h.2,h.1⟩
       .exact .inr (.inl ⟨mf.2 h.2,h.1⟩)
       .exact .inr (.inr ⟨mf.2 h.2,h.1⟩)
      rw[h4]at this;cases this
     clear h4;go_wp2_with fail;refine(NT _ m _ (l.o.below n.o) L.o).mono ?_;rintro e w2 ⟨rfl,r⟩;have J:=zA (vA n.o r);clear r R k Y X S
     cases h5:VF m with
     |true=>
      have A:Hid (goodM m=0):=by
       rw[Hid,goodM,Qb D.o,Qb p.o,Qb M.o,Qb];exact TY M.o h5
      clear h5;go_wp2;go_ret;exact⟨by rw[A.o];rfl,J.o⟩
     |false=>
      have A:Hid (goodM m=2):=by
       rw[Hid,goodM,Qb D.o,Qb p.o,Qb M.o,Rb];exact vb h5
      clear h5;go_wp2;go_ret;exact⟨by rw[A.o];rfl,J.o⟩
