package tests

import "loop.example/g01130/impl"

// Each line compiles only if the function has the signature that the document gives it.
var (
	// l01_basics.go
	_ func(string) bool                        = impl.IsName
	_ func(int64) string                       = impl.Decimal
	_ func(string) (int64, bool)               = impl.ReadDecimal
	_ func(int64) (string, bool)               = impl.SymbolOf
	_ func(string, int64) bool                 = impl.IsWordOf
	_ func(string, int64) ([]int64, bool)      = impl.DigitsOf
	_ func([]int64, int64) (string, bool)      = impl.WordOf
	_ func(int64, int64) (int64, bool)         = impl.RemainderOf
	_ func(int64, int64) (int64, bool)         = impl.GcdOf
	_ func(int64, int64) (int64, bool)         = impl.InverseOf
	_ func(string, int64, int64) (int64, bool) = impl.WordRemainder
	_ func([]int64) bool                       = impl.IsOrder
	_ func([]int64, []int64) ([]int64, bool)   = impl.ComposeOrders
	_ func([]int64) ([]int64, bool)            = impl.InverseOrder
	_ func([]int64) ([][]int64, bool)          = impl.CyclesOf
	_ func([]int64, int64) ([]int64, bool)     = impl.PowerOrder
	_ func([]int64) (string, bool)             = impl.ListText
	_ func(string) ([]int64, bool)             = impl.ReadList
	_ func(int64, string) (int64, bool)        = impl.CheckOf

	// l02_chains.go
	_ func(impl.Chain) bool                                   = impl.ValidChain
	_ func(impl.Chain, string) (int64, bool)                  = impl.RunChain
	_ func(impl.Chain, string) bool                           = impl.IsChecked
	_ func(impl.Chain) (int64, bool)                          = impl.CountWords
	_ func(impl.Chain, int64) (string, bool)                  = impl.WordAt
	_ func(impl.Chain, string) (int64, bool)                  = impl.RankOfWord
	_ func(impl.Chain, string, int64) (string, bool)          = impl.CheckSymbols
	_ func(impl.Chain, int64, int64) (int64, int64, bool)     = impl.UndetectedAt
	_ func(impl.Chain, int64) (int64, int64, bool)            = impl.UndetectedIn
	_ func(impl.Chain, int64) (string, string, bool)          = impl.FirstUndetected
	_ func(impl.Chain, int64) bool                            = impl.IsCaught
	_ func(impl.Chain) (int64, bool)                          = impl.LeastDistance
	_ func(impl.Chain, impl.Chain) (impl.Chain, bool)         = impl.JoinChains
	_ func([][]int64, int64, int64, int64) (impl.Chain, bool) = impl.EvenChain

	// l03_weights.go
	_ func(impl.Weighting) bool                          = impl.ValidWeighting
	_ func(impl.Weighting, string) (int64, bool)         = impl.WeightSum
	_ func(impl.Weighting) (impl.Chain, bool)            = impl.WeightChain
	_ func(impl.Weighting, int64, int64) (int64, bool)   = impl.UnseenPairs
	_ func(impl.Weighting, int64) bool                   = impl.WeightCatches
	_ func(impl.Weighting, int64) bool                   = impl.IsCheckPlace
	_ func(impl.Weighting) (impl.Weighting, bool)        = impl.MirrorWeighting
	_ func(impl.Weighting, int64) (impl.Weighting, bool) = impl.ScaleWeighting
	_ func(impl.Permuting) bool                          = impl.ValidPermuting
	_ func(impl.Permuting) (impl.Chain, bool)            = impl.PermutingChain
	_ func(impl.Weighting) (impl.Permuting, bool)        = impl.PermutingOf
	_ func(int64, int64) (impl.Chain, bool)              = impl.KnownChain
	_ func(impl.Weighting) (string, bool)                = impl.WeightingText
	_ func(string) (impl.Weighting, bool)                = impl.ReadWeighting

	// l04_quasigroups.go
	_ func([][]int64) bool                                         = impl.IsQuasigroup
	_ func([][]int64, int64) ([][]int64, bool)                     = impl.TurnTable
	_ func([][]int64, []int64, []int64, []int64) ([][]int64, bool) = impl.RenameTable
	_ func([][]int64) ([][]int64, bool)                            = impl.ZeroDiagonal
	_ func([][]int64) (int64, bool)                                = impl.SwapClashes
	_ func([][]int64) (int64, bool)                                = impl.ChainClashes
	_ func([][]int64) bool                                         = impl.IsTotally
	_ func(int64, int64, int64, int64) ([][]int64, bool)           = impl.LinearTable
	_ func([][]int64, [][]int64) ([][]int64, bool)                 = impl.ProductTable
	_ func(int64) ([][]int64, bool)                                = impl.FirstTotally
	_ func(int64) (int64, bool)                                    = impl.CountTotally
	_ func([][]int64, int64) (impl.Chain, bool)                    = impl.TableChain
	_ func([][]int64) (string, bool)                               = impl.TableText
	_ func(string) ([][]int64, bool)                               = impl.ReadTable

	// l05_groups.go
	_ func(impl.Group) bool                                 = impl.ValidGroup
	_ func(int64) (impl.Group, bool)                        = impl.CyclicGroup
	_ func(int64) (impl.Group, bool)                        = impl.DihedralGroup
	_ func(impl.Group, impl.Group) (impl.Group, bool)       = impl.ProductGroup
	_ func(impl.Group) (int64, bool)                        = impl.IdentityOf
	_ func(impl.Group, int64) (int64, bool)                 = impl.InverseIn
	_ func(impl.Group, int64, int64) (int64, bool)          = impl.PowerIn
	_ func(impl.Group, int64) (int64, bool)                 = impl.OrderIn
	_ func(impl.Group) bool                                 = impl.IsCommutative
	_ func(impl.Group) ([]int64, bool)                      = impl.CentreOf
	_ func(impl.Group, []int64) ([]int64, bool)             = impl.SubgroupOf
	_ func(impl.Group, []int64) bool                        = impl.IsComplete
	_ func(impl.Group) ([]int64, bool)                      = impl.LeastComplete
	_ func(impl.Group, []int64) bool                        = impl.IsAntisymmetric
	_ func(impl.Group) ([]int64, bool)                      = impl.LeastAntisymmetric
	_ func(impl.Group, [][]int64, int64) (impl.Chain, bool) = impl.GroupChain
	_ func(int64) (impl.Chain, bool)                        = impl.DihedralChain

	// l06_typing.go
	_ func(string, string) (int64, bool)                = impl.EditDistance
	_ func(string, string) (int64, bool)                = impl.TypingDistance
	_ func(string, string) (string, bool)               = impl.ScriptOf
	_ func(string, string, string) (string, bool)       = impl.ApplyScript
	_ func(string, int64) ([]string, bool)              = impl.NearWords
	_ func(string, int64, int64) ([]string, bool)       = impl.WrongWords
	_ func(impl.Chain, string) ([]impl.Candidate, bool) = impl.CandidatesFor
	_ func(impl.Chain, string) ([]string, bool)         = impl.CompletionsOf
	_ func(impl.Chain, string) ([]string, bool)         = impl.ShorteningsOf
	_ func(string, string) (int64, bool)                = impl.KeySteps
	_ func(impl.Chain, string) ([]string, bool)         = impl.LikelySingles
	_ func([]string) (int64, bool)                      = impl.LeastTyping

	// l07_speech.go
	_ func(impl.Likeness) bool                       = impl.ValidLikeness
	_ func(impl.Likeness, string, string) bool       = impl.AreAlike
	_ func(impl.Likeness) (string, bool)             = impl.ClearSymbols
	_ func(impl.Likeness, string) bool               = impl.IsClear
	_ func(impl.Likeness) ([]string, bool)           = impl.FamiliesOf
	_ func(impl.Likeness, string) (string, bool)     = impl.FoldWord
	_ func(impl.Speech) bool                         = impl.ValidSpeech
	_ func(impl.Speech, int64, int64) (string, bool) = impl.SpeakNumber
	_ func(impl.Speech, string) (int64, bool)        = impl.HearNumber
	_ func(string, string) (int64, bool)             = impl.WordDistance
	_ func([]string) bool                            = impl.IsLexicon
	_ func([]string) (int64, int64, int64, bool)     = impl.LeastGap
	_ func([]string, string, int64) (int64, bool)    = impl.HearWord
	_ func(string, []int64) (string, bool)           = impl.GroupWord
	_ func(string, []int64) (string, bool)           = impl.UngroupWord

	// l08_barcodes.go
	_ func(impl.Barcode) bool                          = impl.ValidBarcode
	_ func(int64, int64, int64) (int64, bool)          = impl.CountPatterns
	_ func(int64, int64, int64, int64) (string, bool)  = impl.PatternAt
	_ func(string, string) (int64, bool)               = impl.PatternDistance
	_ func(impl.Barcode) (int64, bool)                 = impl.LeastPatternDistance
	_ func(string) ([]int64, bool)                     = impl.EdgesOf
	_ func(impl.Barcode) bool                          = impl.HasEdges
	_ func(impl.Barcode, string) ([]int64, bool)       = impl.StripesOf
	_ func(impl.Barcode, []int64) (string, bool)       = impl.ReadStripes
	_ func(impl.Barcode) bool                          = impl.IsDirected
	_ func([]int64, int64) ([]int64, bool)             = impl.ScaleStripes
	_ func([]int64, int64) ([]int64, bool)             = impl.SpreadStripes
	_ func(impl.Barcode, []int64) (int64, bool)        = impl.MeasurePattern
	_ func(impl.Barcode, []int64) (int64, bool)        = impl.MeasureEdges
	_ func(impl.Barcode, []int64) (string, bool, bool) = impl.ScanStripes

	// l09_best.go
	_ func([]int64) bool                                          = impl.IsCosts
	_ func(impl.Weighting, []int64) (int64, bool)                 = impl.ScoreOf
	_ func(impl.Weighting, []int64) (int64, int64, bool)          = impl.WorstPlace
	_ func(int64, int64, int64, []int64) ([]int64, int64, bool)   = impl.BestWeights
	_ func(int64, int64, int64, []int64) (int64, bool)            = impl.CountBest
	_ func(int64, int64, []int64) (int64, []int64, bool)          = impl.LeastModulus
	_ func(int64, []int64, []int64) (impl.Chain, bool)            = impl.PairChain
	_ func(int64, []int64, []int64) (int64, bool)                 = impl.PairDistance
	_ func(int64, int64) ([]int64, []int64, int64, bool)          = impl.BestPair
	_ func(int64, []int64, []int64, string) (string, int64, bool) = impl.CorrectPair

	// l10_registries.go
	_ func(impl.Registry) bool                                   = impl.ValidRegistry
	_ func(impl.Chain, int64) (impl.Registry, bool)              = impl.NewRegistry
	_ func(impl.Registry) (impl.Registry, string, bool)          = impl.IssueWord
	_ func(impl.Registry, int64) (impl.Registry, []string, bool) = impl.IssueMany
	_ func(impl.Registry, string) (impl.Registry, bool)          = impl.IssueGiven
	_ func(impl.Registry, string) (impl.Registry, bool)          = impl.RevokeWord
	_ func(impl.Registry, string) (int64, bool)                  = impl.StatusOf
	_ func(impl.Registry) bool                                   = impl.IsFull
	_ func(impl.Registry) (int64, bool)                          = impl.RadiusOf
	_ func(impl.Registry, string) (string, bool)                 = impl.FindWord
	_ func(impl.Registry, string) ([]string, int64, bool)        = impl.NearestWords
	_ func(impl.Registry) (int64, bool)                          = impl.LeastApart

	// l11_desk.go
	_ func(impl.Desk) bool                              = impl.ValidDesk
	_ func(impl.Desk, string) (impl.Desk, string, bool) = impl.DeskCommand
	_ func(impl.Desk, string) (impl.Desk, string, bool) = impl.RunDesk
	_ func(impl.Weighting) (string, bool)               = impl.SystemReport
	_ func([]string) (string, bool)                     = impl.JournalOf
	_ func(string) ([]string, int64, bool)              = impl.RecoverJournal
)
